/- Texts of one chain, joined. -/
import Derived.Test.YtljkgcfnoegibaaGreatDoorZAAU
import Derived.Test.YtljkgcfnoegibaaGreatDoorZCAF
set_option maxHeartbeats 2000000
set_option maxRecDepth 20000
namespace Go.Proofs.YtljkgcfnoegibaaGreatDoor
open Go Go.RowKit
open G (Tok Er Ins Fun)
theorem yM {p:List Fun} {f:Fun} {x:Ins} {n:Nat} (h:x.1=20∨x.1=24):dC p f x n=x.2.2.2.1:=by unfold dC;rw [if_pos h]
theorem Bl {p:List Fun} {f:Fun} {x:Ins} {n:Nat} (h:x.1=28):dC p f x n=f.2.2.1:=by unfold dC;rw [if_neg (by omega),if_pos h]
theorem Ae {p:List Fun} {f:Fun} {x:Ins} {n:Nat} (h:x.1=21):dC p f x n=((findF p x.2.2.2.2.2.2.1).getD ie).2.1.getD n 0:=by unfold dC;rw [if_neg (by omega),if_neg (by omega),if_pos h]
theorem yg {p:List Fun} {f:Fun} {x:Ins} {n:Nat} (h1:x.1≠20) (h2:x.1≠24) (h3:x.1≠28) (h4:x.1≠21):dC p f x n=(L5.takes (L5.num x.1)).getD n 0:=by unfold dC;rw [if_neg (by omega),if_neg h3,if_neg h4]
theorem CD (p:List Fun) (f:Fun) (x:Ins) (k:Nat) (po:Option Addr) (pc:Nat) (fv xv:Value) (w:World) (hp:bK w p (.slice po p.length pc)) (hl:p.length≤1000000) (hf:cg w f fv) (hx:lT w x xv) (hk:qL p x k):
  Calls Tryz.prog 83 #[.agg #[.slice po p.length pc],fv,xv,.int .i64 k] w fun e w'=>e= .returned (.int .i64 (dC p f x k))∧Below w.heap.size w w':=by
 have HFi:=ae (fun w' (b:Below w.heap.size w w')=>lI p x.2.2.2.2.2.2.1 po pc w' (hp.below b) hl);have HL1:=ae (fun h=>yM (p:=p) (f:=f) (x:=x) (n:=k) h);have HL2:=ae (fun h=>Bl (p:=p) (f:=f) (x:=x) (n:=k) h);have HL3:=ae (fun h=>Ae (p:=p) (f:=f) (x:=x) (n:=k) h);have HL4:=ae (fun h1 h2 h3 h4=>yg (p:=p) (f:=f) (x:=x) (n:=k) h1 h2 h3 h4);have HK:=ae hk;clear hp hk;obtain⟨lp,cp,lb,cb,rfl,_,_⟩:=de hf;obtain⟨xo,zo,xc,zc,rfl,hxa,hxt,hxa1,hxa2,hxt1,hxt2⟩:=id hx;generalize bs f.1=nm at *;generalize hlps:f.2.1.length=lps at *;generalize hrt:f.2.2.1=rt at *;generalize hlbs:f.2.2.2.1.length=lbs at *;generalize f.2.2.2.2=pl at *;generalize hn:p.length=n at *;have b1:=ah w (.cells #[.slice po n pc] 24);have h1:=heap_alloc_new w (.cells #[.slice po n pc] 24);have b2:=ah (w.alloc (.cells #[.slice po n pc] 24)) (.cells #[.string nm,.slice lp lps cp,.int .i64 rt,.slice lb lbs cb,.int .i64 pl] 36);have X1:=L5.Box.new (w.alloc (.cells #[.slice po n pc] 24)) [.string nm,.slice lp lps cp,.int .i64 rt,.slice lb lbs cb,.int .i64 pl] 36;have hs1:(w.alloc (.cells #[.slice po n pc] 24)).heap.size=w.heap.size+1:=by simp
 rw [hs1] at X1;have b3:=ah ((w.alloc (.cells #[.slice po n pc] 24)).alloc (.cells #[.string nm,.slice lp lps cp,.int .i64 rt,.slice lb lbs cb,.int .i64 pl] 36)) (.cells #[.int .i64 x.1,.int .i64 x.2.1,.int .i64 x.2.2.1,.int .i64 x.2.2.2.1,.slice xo x.2.2.2.2.1.length xc,.slice zo x.2.2.2.2.2.1.length zc,.string (bs x.2.2.2.2.2.2.1),.int .i64 x.2.2.2.2.2.2.2] 47);have Y1:=L5.Box.new ((w.alloc (.cells #[.slice po n pc] 24)).alloc (.cells #[.string nm,.slice lp lps cp,.int .i64 rt,.slice lb lbs cb,.int .i64 pl] 36)) [.int .i64 x.1,.int .i64 x.2.1,.int .i64 x.2.2.1,.int .i64 x.2.2.2.1,.slice xo x.2.2.2.2.1.length xc,.slice zo x.2.2.2.2.2.1.length zc,.string (bs x.2.2.2.2.2.2.1),.int .i64 x.2.2.2.2.2.2.2] 47;have hs2:((w.alloc (.cells #[.slice po n pc] 24)).alloc (.cells #[.string nm,.slice lp lps cp,.int .i64 rt,.slice lb lbs cb,.int .i64 pl] 36)).heap.size=w.heap.size+2:=by simp
 rw [hs2] at Y1;have H1:=ae (((af b2 b3).block w.heap.size (by simp)).trans h1);have X0:Hid (L5.Box (((w.alloc (.cells #[.slice po n pc] 24)).alloc (.cells #[.string nm,.slice lp lps cp,.int .i64 rt,.slice lb lbs cb,.int .i64 pl] 36)).alloc (.cells #[.int .i64 x.1,.int .i64 x.2.1,.int .i64 x.2.2.1,.int .i64 x.2.2.2.1,.slice xo x.2.2.2.2.1.length xc,.slice zo x.2.2.2.2.2.1.length zc,.string (bs x.2.2.2.2.2.2.1),.int .i64 x.2.2.2.2.2.2.2] 47)) (w.heap.size+1) [.string nm,.slice lp lps cp,.int .i64 rt,.slice lb lbs cb,.int .i64 pl]):=ae (X1.below b3);have Y0:Hid (L5.Box (((w.alloc (.cells #[.slice po n pc] 24)).alloc (.cells #[.string nm,.slice lp lps cp,.int .i64 rt,.slice lb lbs cb,.int .i64 pl] 36)).alloc (.cells #[.int .i64 x.1,.int .i64 x.2.1,.int .i64 x.2.2.1,.int .i64 x.2.2.2.1,.slice xo x.2.2.2.2.1.length xc,.slice zo x.2.2.2.2.2.1.length zc,.string (bs x.2.2.2.2.2.2.1),.int .i64 x.2.2.2.2.2.2.2] 47)) (w.heap.size+2) [.int .i64 x.1,.int .i64 x.2.1,.int .i64 x.2.2.1,.int .i64 x.2.2.2.1,.slice xo x.2.2.2.2.1.length xc,.slice zo x.2.2.2.2.2.1.length zc,.string (bs x.2.2.2.2.2.2.1),.int .i64 x.2.2.2.2.2.2.2]):=ae Y1;have B0:=ae (af b1 (af b2 b3));clear b1 h1 b2 X1 hs1 b3 Y1 hs2;clear hf hx;go_enter Tryz.func83,Tryz.ntmps83
 go_upto_region 1 with fail
 show Code.wp _ _ _ _ (((w.alloc (.cells #[.slice po n pc] 24)).alloc (.cells #[.string nm,.slice lp lps cp,.int .i64 rt,.slice lb lbs cb,.int .i64 pl] 36)).alloc (.cells #[.int .i64 x.1,.int .i64 x.2.1,.int .i64 x.2.2.1,.int .i64 x.2.2.2.1,.slice xo x.2.2.2.2.1.length xc,.slice zo x.2.2.2.2.2.1.length zc,.string (bs x.2.2.2.2.2.2.1),.int .i64 x.2.2.2.2.2.2.2] 47));generalize ((w.alloc (.cells #[.slice po n pc] 24)).alloc (.cells #[.string nm,.slice lp lps cp,.int .i64 rt,.slice lb lbs cb,.int .i64 pl] 36)).alloc (.cells #[.int .i64 x.1,.int .i64 x.2.1,.int .i64 x.2.2.1,.int .i64 x.2.2.2.1,.slice xo x.2.2.2.2.1.length xc,.slice zo x.2.2.2.2.2.1.length zc,.string (bs x.2.2.2.2.2.2.1),.int .i64 x.2.2.2.2.2.2.2] 47)=W at *;have c0:=(aV H1.out).1;obtain⟨x0,x1,x2,x3,x4⟩:_∧_∧_∧_∧_:=⟨X0.out.2 0 _ rfl,X0.out.2 1 _ rfl,X0.out.2 2 _ rfl,X0.out.2 3 _ rfl,X0.out.2 4 _ rfl⟩;obtain⟨y0,y1,y2,y3,y4,y5,y6,y7⟩:_∧_∧_∧_∧_∧_∧_∧_:=⟨Y0.out.2 0 _ rfl,Y0.out.2 1 _ rfl,Y0.out.2 2 _ rfl,Y0.out.2 3 _ rfl,Y0.out.2 4 _ rfl,Y0.out.2 5 _ rfl,Y0.out.2 6 _ rfl,Y0.out.2 7 _ rfl⟩;by_cases h20:x.1=20
 ·have e20:(x.1 == 20)=true:=beq_iff_eq.2 h20;have HR:Hid (x.2.2.2.1=dC p f x k):=ae (HL1.out (.inl h20)).symm;clear h20;go_wp2_with fail
  go_ret;exact⟨bU HR.out,B0.out⟩
 ·have e20:(x.1 == 20)=false:=beq_eq_false_iff_ne.2 h20;by_cases h24:x.1=24
  ·have e24:(x.1 == 24)=true:=beq_iff_eq.2 h24;have HR:Hid (x.2.2.2.1=dC p f x k):=ae (HL1.out (.inr h24)).symm;clear h20 h24;go_wp2_with fail
   go_ret;exact⟨bU HR.out,B0.out⟩
  ·have e24:(x.1 == 24)=false:=beq_eq_false_iff_ne.2 h24;by_cases h28:x.1=28
   ·have e28:(x.1 == 28)=true:=beq_iff_eq.2 h28;have HR:Hid (rt=dC p f x k):=ae (by rw [HL2.out h28]);clear h20 h24 h28;go_wp2_with fail
    go_ret;exact⟨bU HR.out,B0.out⟩
   ·have e28:(x.1 == 28)=false:=beq_eq_false_iff_ne.2 h28;by_cases h21:x.1=21
    ·have e21:(x.1 == 21)=true:=beq_iff_eq.2 h21;have HX:=ae (HL3.out h21);have hkm:=HK.out.1 h21;have HC:=ae (HFi.out W B0.out);obtain⟨m,hm⟩:∃m,(findF p x.2.2.2.2.2.2.1).getD ie=m:=⟨_,rfl⟩;obtain⟨fb,hfb⟩:∃fb,(findF p x.2.2.2.2.2.2.1).isSome=fb:=⟨_,rfl⟩;rw [hm] at HC HX hkm;rw [hfb] at HC;clear hm hfb h20 h24 h28 h21 HL1 HL2 HL3 HL4 HFi HK;go_wp2_with fail
     refine HC.out.mono ?_;rintro e w2 ⟨⟨gv,rfl,hgv⟩,b2⟩;obtain⟨ma,mc,mb,md,rfl,X,b3⟩:=de hgv;have B3:=ae (af B0.out (af b2 b3));have M0:=ae X;have HSl:Hid (Sl (w2.alloc (.cells #[.string (bs m.1),.slice ma m.2.1.length mc,.int .i64 m.2.2.1,.slice mb m.2.2.2.1.length md,.int .i64 m.2.2.2.2] 36)) ma m.2.1):=ae (by
      obtain⟨vp,vb,e,⟨l1,l2,l3,hs,_⟩,_⟩:=hgv.below b3;injection e with e;have e1:=congrArg (fun a=>a[1]?) e;simp at e1;rw [l3] at e1;injection e1 with e1;rw [←e1] at hs;exact hs)
     have hkI:(k:Int) < m.2.1.length:=(by omega);obtain⟨u,hu⟩:∃u,m.2.1[k]? =some u:=⟨_,List.getElem?_eq_getElem hkm⟩;have HR:Hid (u=dC p f x k):=ae (by rw [HX.out,List.getD_eq_getElem?_getD,hu];rfl);clear HC b2 X b3 hgv c0 x0 x1 x2 x3 x4 y0 y1 y2 y3 y4 y5 y6 y7;go_upto_region 9 with fail
     show Code.wp _ _ _ _ (w2.alloc (.cells #[.string (bs m.1),.slice ma m.2.1.length mc,.int .i64 m.2.2.1,.slice mb m.2.2.2.1.length md,.int .i64 m.2.2.2.2] 36));generalize w2.alloc (.cells #[.string (bs m.1),.slice ma m.2.1.length mc,.int .i64 m.2.2.1,.slice mb m.2.2.2.1.length md,.int .i64 m.2.2.2.2] 36)=w3 at *;generalize w2.heap.size=q2 at *;obtain⟨x0,x1,x2,x3,x4⟩:_∧_∧_∧_∧_:=⟨M0.out.2 0 _ rfl,M0.out.2 1 _ rfl,M0.out.2 2 _ rfl,M0.out.2 3 _ rfl,M0.out.2 4 _ rfl⟩;rcases HSl.out with he | ⟨sb,so,rfl,hsb,hsc⟩
     ·rw [he] at hkm;simp at hkm
     have c1:=hsc k u hu;clear hsc hu;go_wp2_with fail
     go_ret;exact⟨bU HR.out,B3.out⟩
    ·have e21:(x.1 == 21)=false:=beq_eq_false_iff_ne.2 h21;have HX:=ae (HL4.out h20 h24 h28 h21);have hkm:=HK.out.2 h20 h24 h28 h21;have HC:=ae (L5.jC x.1 W);obtain⟨u,hu⟩:∃u,(L5.takes (L5.num x.1))[k]? =some u:=⟨_,List.getElem?_eq_getElem hkm⟩;have HR:Hid (u=dC p f x k):=ae (by rw [HX.out,List.getD_eq_getElem?_getD,hu];rfl);clear h20 h24 h28 h21 HL1 HL2 HL3 HL4 HFi HK;go_wp2_with fail
     refine HC.out.mono ?_;rintro e w2 ⟨ao,cap,rfl,hS,b2⟩;have hkI:(k:Int) < (L5.takes (L5.num x.1)).length:=(by omega);have B2:=ae (af B0.out b2);rcases hS with he | ⟨sb,rfl,hsb,hsc⟩
     ·rw [he] at hkm;simp at hkm
     have c1:=hsc k hkm;have huu:L5.nth (L5.takes (L5.num x.1)) k=u:=(by unfold L5.nth;simp [hu]);rw [huu] at c1;clear huu;clear HC b2 hsc hu c0 x0 x1 x2 x3 x4 y0 y1 y2 y3 y4 y5 y6 y7;generalize (L5.takes (L5.num x.1)).length=tn at *;go_wp2_with fail
     go_ret;exact⟨bU HR.out,B2.out⟩
open Mix (Up)
def E0 (fv bv:Value) (f:Fun) (l:List Int) (q lbs:Nat) (b1 b2:Bool) (t:Tmp):Up:=match t with
 |3 | 11=>Up.eq fv
 |4=>Up.ints (aC f)
 |5=>Up.eq (.int .i64 (aC f).length)
 |6=>Up.eq (.pointer (some ⟨q,3,none⟩))
 |7=>Up.eq bv
 |8=>Up.eq (.int .i64 lbs)
 |9 | 10=>Up.eq (.bool b1)
 |12=>Up.rows (aK f)
 |13=>Up.LF l
 |14=>Up.ints l
 |15=>Up.eq (.int .i64 l.length)
 |16=>Up.eq (.bool b2)
 |17 | 2=>Up.eq (.bool (b1 && b2))
 |_=>Up.any
theorem tz (f:Fun) (v:Value) (w:World) (hv:cg w f v) (hF:Ful f) (hT:Tos f) (h0:0 < f.2.2.2.1.length):
  Calls Tryz.prog 43 #[v] w fun e w'=>e= .returned (.bool (dq f))∧Below w.heap.size w w':=by
 have HRb:Hid (dq f=(decide ((aC f).length=f.2.2.2.1.length) && decide (((aK f).getD 0 []).length=0))):=ae rfl;have HCo:=ae (fun v w hv=>yI f v w hv hF hT h0);have HCp:=ae (fun v w hv=>o7 f v w hv hF);obtain⟨l,hl⟩:∃l,(aK f)[0]? =some l:=⟨_,List.getElem?_eq_getElem (by simp [aK];exact h0)⟩;have hgd:(aK f).getD 0 []=l:=by rw [List.getD_eq_getElem?_getD,hl];rfl
 have hpl:0 < (aK f).length:=by simp [aK];exact h0
 rw [hgd] at HRb;have HL:=ae hl;have hol:(aC f).length≤1000000:=Nat.le_trans (gj hT h0) hF.1;have hll:l.length≤1000000:=by
  have hm:=List.mem_of_getElem? hl;unfold aK at hm;obtain⟨b,_,rfl⟩:=List.mem_map.1 hm;unfold bM;rw [List.length_map];exact Nat.le_trans (List.length_filter_le _ _) (by simp;exact hF.1)
 have hN:=hF.1;clear hF hT hgd hl;obtain⟨lp,cp,lb,cb,rfl,X,b0⟩:=de hv;have HV:=ae (hv.below b0);have X0:=ae X;have B0:=ae b0;clear hv X b0;generalize bs f.1=nm at *;generalize f.2.1.length=lps at *;generalize f.2.2.1=rt at *;generalize hlbs:f.2.2.2.1.length=lbs at *;generalize f.2.2.2.2=pl at *;replace hlbs:=ae hlbs;go_enter Tryz.func43,Tryz.ntmps43
 go_upto_region 1 with fail
 show Code.wp _ _ _ _ (w.alloc (.cells #[.string nm,.slice lp lps cp,.int .i64 rt,.slice lb lbs cb,.int .i64 pl] 36));generalize w.alloc (.cells #[.string nm,.slice lp lps cp,.int .i64 rt,.slice lb lbs cb,.int .i64 pl] 36)=W at *;generalize hq:w.heap.size=q at *;have CO:∀w,Below W.heap.size W w→Calls Tryz.prog 77 #[(.agg #[.string nm,.slice lp lps cp,.int .i64 rt,.slice lb lbs cb,.int .i64 pl])] w fun e w'=>∃v,e= .returned v∧Below w.heap.size w w'∧bX w' (aC f) v:=fun w b=>(HCo.out _ w (HV.out.below b)).mono fun e w' ⟨u,he,h,b'⟩=>⟨_,he,b',dG h⟩;have CP:∀w,Below W.heap.size W w→Calls Tryz.prog 78 #[(.agg #[.string nm,.slice lp lps cp,.int .i64 rt,.slice lb lbs cb,.int .i64 pl])] w fun e w'=>∃v,e= .returned v∧Below w.heap.size w w'∧fL w' (aK f) v:=fun w b=>HCp.out _ w (HV.out.below b);have CX:∃p w',Below W.heap.size W w'∧fL w' (aK f) p:=by
  obtain⟨_,w3,v3,_,b3,h3⟩:=dj (CP W (Below.refl _ _));exact⟨v3,w3,b3,h3⟩
 have xs:=fun(w:World) (b:Below W.heap.size W w)=>And.intro ((X0.out.below b).2 0 _ rfl) (And.intro ((X0.out.below b).2 1 _ rfl) (And.intro ((X0.out.below b).2 2 _ rfl) (And.intro ((X0.out.below b).2 3 _ rfl) ((X0.out.below b).2 4 _ rfl))));by_cases ho:(aC f).length=lbs
 ·by_cases hz:l.length=0
  ·have HR:Hid ((true && true)=dq f):=ae (by rw [HRb.out,decide_eq_true ho,decide_eq_true hz]);have hob:(((aC f).length:Int) == (lbs:Int))=true:=beq_iff_eq.2 (by omega);have hzb:((l.length:Int) == 0)=true:=beq_iff_eq.2 (by omega);refine Mix.cj (E0 (.agg #[.string nm,.slice lp lps cp,.int .i64 rt,.slice lb lbs cb,.int .i64 pl]) (.slice lb lbs cb) f l q lbs true true) (by kernel_rfl) (by kernel_rfl) ?_;refine Mix.aj rfl (aq (.agg #[.string nm,.slice lp lps cp,.int .i64 rt,.slice lb lbs cb,.int .i64 pl]) rfl) ?_ ?_
   ·intro w b k;obtain⟨x0,x1,x2,x3,x4⟩:=xs w b;clear k;simp [go_sem,x0,x1,x2,x3,x4];exact⟨Below.refl _ _,fun d hd=>by cases hd;rfl⟩
   rintro v ⟨_,_,h⟩;obtain rfl:v=(.agg #[.string nm,.slice lp lps cp,.int .i64 rt,.slice lb lbs cb,.int .i64 pl]):=h _ rfl;clear h;simp only [Act.put,sU1,sU2,sU3];refine Mix.aj rfl (cD (CO W (Below.refl _ _))) ?_ ?_
   ·intro w b k;clear k;simp [go_sem];exact Calls.mono (CO w b) fun e w' ⟨v,he,hb,hf⟩=>⟨v,he,hb,fun d hd=>by cases hd;exact hf⟩
   rintro p4 -;simp only [Act.put,sU1,sU2,sU3];refine Mix.aj rfl (aq (.int .i64 (aC f).length) rfl) ?_ ?_
   ·intro w b k;have f4:bX w (aC f) p4:=k 4 (by decide +kernel) (by simp [Mix.add]) p4 rfl;obtain⟨so,sc,rfl,_,_,_⟩:=f4;clear k;simp [go_sem];exact⟨Below.refl _ _,fun d hd=>by cases hd;rfl⟩
   rintro v ⟨_,_,h⟩;obtain rfl:v=(.int .i64 (aC f).length):=h _ rfl;clear h;simp only [Act.put,sU1,sU2,sU3];refine Mix.aj rfl (aq (.pointer (some ⟨q,3,none⟩)) rfl) ?_ ?_
   ·intro w b k;clear k;simp [go_sem];exact⟨Below.refl _ _,fun d hd=>by cases hd;rfl⟩
   rintro v ⟨_,_,h⟩;obtain rfl:v=(.pointer (some ⟨q,3,none⟩)):=h _ rfl;clear h;simp only [Act.put,sU1,sU2,sU3];refine Mix.aj rfl (aq (.slice lb lbs cb) rfl) ?_ ?_
   ·intro w b k;obtain⟨x0,x1,x2,x3,x4⟩:=xs w b;clear k;simp [go_sem,x3];exact⟨Below.refl _ _,fun d hd=>by cases hd;rfl⟩
   rintro v ⟨_,_,h⟩;obtain rfl:v=(.slice lb lbs cb):=h _ rfl;clear h;simp only [Act.put,sU1,sU2,sU3];refine Mix.aj rfl (aq (.int .i64 lbs) rfl) ?_ ?_
   ·intro w b k;clear k;simp [go_sem];exact⟨Below.refl _ _,fun d hd=>by cases hd;rfl⟩
   rintro v ⟨_,_,h⟩;obtain rfl:v=(.int .i64 lbs):=h _ rfl;clear h;simp only [Act.put,sU1,sU2,sU3];refine Mix.aj rfl (aq (.bool true) rfl) ?_ ?_
   ·intro w b k;clear k;simp [go_sem,hob];exact⟨Below.refl _ _,fun d hd=>by cases hd;rfl⟩
   rintro v ⟨_,_,h⟩;obtain rfl:v=(.bool true):=h _ rfl;clear h;simp only [Act.put,sU1,sU2,sU3];refine Mix.aj rfl (aq (.bool true) rfl) ?_ ?_
   ·intro w b k;clear k;simp [go_sem];exact⟨Below.refl _ _,fun d hd=>by cases hd;rfl⟩
   rintro v ⟨_,_,h⟩;obtain rfl:v=(.bool true):=h _ rfl;clear h;simp only [Act.put,sU1,sU2,sU3];refine Mix.aj rfl (aq (.agg #[.string nm,.slice lp lps cp,.int .i64 rt,.slice lb lbs cb,.int .i64 pl]) rfl) ?_ ?_
   ·intro w b k;obtain⟨x0,x1,x2,x3,x4⟩:=xs w b;clear k;simp [go_sem,x0,x1,x2,x3,x4];exact⟨Below.refl _ _,fun d hd=>by cases hd;rfl⟩
   rintro v ⟨_,_,h⟩;obtain rfl:v=(.agg #[.string nm,.slice lp lps cp,.int .i64 rt,.slice lb lbs cb,.int .i64 pl]):=h _ rfl;clear h;simp only [Act.put,sU1,sU2,sU3];refine Mix.aj rfl (cD (CP W (Below.refl _ _))) ?_ ?_
   ·intro w b k;clear k;simp [go_sem];exact Calls.mono (CP w b) fun e w' ⟨v,he,hb,hf⟩=>⟨v,he,hb,fun d hd=>by cases hd;exact hf⟩
   rintro p12 -;simp only [Act.put,sU1,sU2,sU3];refine Mix.aj rfl (by
    obtain⟨pv,w',b,h⟩:=CX;obtain⟨g,o,c,u,_,hg,hu,hi⟩:=bW h HL.out;exact⟨.pointer (some ⟨g,o,none⟩),w',b,fun d hd=>by cases hd;exact⟨g,o,u,rfl,hg,hu,hi⟩⟩) ?_ ?_
   ·intro w b k;have f12:fL w (aK f) p12:=k 12 (by decide +kernel) (by simp [Mix.add]) p12 rfl;obtain⟨g,o,c,u,rfl,hg,hu,hi⟩:=bW f12 HL.out;clear k;simp [go_sem,hpl];exact⟨Below.refl _ _,fun d hd=>by cases hd;exact⟨g,o,u,rfl,hg,hu,hi⟩⟩
   rintro p13 -;simp only [Act.put,sU1,sU2,sU3];refine Mix.aj rfl (by
    obtain⟨pv,w',b,h⟩:=CX;obtain⟨g,o,c,u,_,hg,hu,hi⟩:=bW h HL.out;exact⟨u,w',b,fun d hd=>by cases hd;exact hi⟩) ?_ ?_
   ·intro w b k;have f13:uB w l p13:=k 13 (by decide +kernel) (by simp [Mix.add]) p13 rfl;obtain⟨g,o,u,rfl,hg,hu,hi⟩:=f13;clear k;obtain⟨so,sc,rfl,hi2⟩:=id hi;simp [go_sem,hu];exact⟨Below.refl _ _,fun d hd=>by cases hd;exact hi⟩
   rintro p14 -;simp only [Act.put,sU1,sU2,sU3];refine Mix.aj rfl (aq (.int .i64 l.length) rfl) ?_ ?_
   ·intro w b k;have f14:bX w l p14:=k 14 (by decide +kernel) (by simp [Mix.add]) p14 rfl;obtain⟨so,sc,rfl,_,_,_⟩:=f14;clear k;simp [go_sem];exact⟨Below.refl _ _,fun d hd=>by cases hd;rfl⟩
   rintro v ⟨_,_,h⟩;obtain rfl:v=(.int .i64 l.length):=h _ rfl;clear h;simp only [Act.put,sU1,sU2,sU3];refine Mix.aj rfl (aq (.bool true) rfl) ?_ ?_
   ·intro w b k;clear k;simp [go_sem,hzb];exact⟨Below.refl _ _,fun d hd=>by cases hd;rfl⟩
   rintro v ⟨_,_,h⟩;obtain rfl:v=(.bool true):=h _ rfl;clear h;simp only [Act.put,sU1,sU2,sU3];refine Mix.aj rfl (aq (.bool (true && true)) rfl) ?_ ?_
   ·intro w b k;clear k;simp [go_sem];exact⟨Below.refl _ _,fun d hd=>by cases hd;rfl⟩
   rintro v ⟨_,_,h⟩;obtain rfl:v=(.bool (true && true)):=h _ rfl;clear h;simp only [Act.put,sU1,sU2,sU3];refine Mix.aj rfl (aq (.bool (true && true)) rfl) ?_ ?_
   ·intro w b k;clear k;simp [go_sem];exact⟨Below.refl _ _,fun d hd=>by cases hd;rfl⟩
   rintro v ⟨_,_,h⟩;obtain rfl:v=(.bool (true && true)):=h _ rfl;clear h;simp only [Act.put,sU1,sU2,sU3];refine Mix.ed ?_;intro w2 b2 hk;clear CO CP CX xs hk HCo HCp;have HE:Hid (Below w.heap.size w w2):=ae (by have h:=B0.out;rw [←hq] at h;exact af h b2);go_wp2_with fail
   go_ret;exact⟨L5.aw HR.out,by first | exact HE.out | (rw [←hq];exact HE.out)⟩
  ·have HR:Hid ((true && false)=dq f):=ae (by rw [HRb.out,decide_eq_true ho,decide_eq_false hz]);have hob:(((aC f).length:Int) == (lbs:Int))=true:=beq_iff_eq.2 (by omega);have hzb:((l.length:Int) == 0)=false:=beq_eq_false_iff_ne.2 (by omega);refine Mix.cj (E0 (.agg #[.string nm,.slice lp lps cp,.int .i64 rt,.slice lb lbs cb,.int .i64 pl]) (.slice lb lbs cb) f l q lbs true false) (by kernel_rfl) (by kernel_rfl) ?_;refine Mix.aj rfl (aq (.agg #[.string nm,.slice lp lps cp,.int .i64 rt,.slice lb lbs cb,.int .i64 pl]) rfl) ?_ ?_
   ·intro w b k;obtain⟨x0,x1,x2,x3,x4⟩:=xs w b;clear k;simp [go_sem,x0,x1,x2,x3,x4];exact⟨Below.refl _ _,fun d hd=>by cases hd;rfl⟩
   rintro v ⟨_,_,h⟩;obtain rfl:v=(.agg #[.string nm,.slice lp lps cp,.int .i64 rt,.slice lb lbs cb,.int .i64 pl]):=h _ rfl;clear h;simp only [Act.put,sU1,sU2,sU3];refine Mix.aj rfl (cD (CO W (Below.refl _ _))) ?_ ?_
   ·intro w b k;clear k;simp [go_sem];exact Calls.mono (CO w b) fun e w' ⟨v,he,hb,hf⟩=>⟨v,he,hb,fun d hd=>by cases hd;exact hf⟩
   rintro p4 -;simp only [Act.put,sU1,sU2,sU3];refine Mix.aj rfl (aq (.int .i64 (aC f).length) rfl) ?_ ?_
   ·intro w b k;have f4:bX w (aC f) p4:=k 4 (by decide +kernel) (by simp [Mix.add]) p4 rfl;obtain⟨so,sc,rfl,_,_,_⟩:=f4;clear k;simp [go_sem];exact⟨Below.refl _ _,fun d hd=>by cases hd;rfl⟩
   rintro v ⟨_,_,h⟩;obtain rfl:v=(.int .i64 (aC f).length):=h _ rfl;clear h;simp only [Act.put,sU1,sU2,sU3];refine Mix.aj rfl (aq (.pointer (some ⟨q,3,none⟩)) rfl) ?_ ?_
   ·intro w b k;clear k;simp [go_sem];exact⟨Below.refl _ _,fun d hd=>by cases hd;rfl⟩
   rintro v ⟨_,_,h⟩;obtain rfl:v=(.pointer (some ⟨q,3,none⟩)):=h _ rfl;clear h;simp only [Act.put,sU1,sU2,sU3];refine Mix.aj rfl (aq (.slice lb lbs cb) rfl) ?_ ?_
   ·intro w b k;obtain⟨x0,x1,x2,x3,x4⟩:=xs w b;clear k;simp [go_sem,x3];exact⟨Below.refl _ _,fun d hd=>by cases hd;rfl⟩
   rintro v ⟨_,_,h⟩;obtain rfl:v=(.slice lb lbs cb):=h _ rfl;clear h;simp only [Act.put,sU1,sU2,sU3];refine Mix.aj rfl (aq (.int .i64 lbs) rfl) ?_ ?_
   ·intro w b k;clear k;simp [go_sem];exact⟨Below.refl _ _,fun d hd=>by cases hd;rfl⟩
   rintro v ⟨_,_,h⟩;obtain rfl:v=(.int .i64 lbs):=h _ rfl;clear h;simp only [Act.put,sU1,sU2,sU3];refine Mix.aj rfl (aq (.bool true) rfl) ?_ ?_
   ·intro w b k;clear k;simp [go_sem,hob];exact⟨Below.refl _ _,fun d hd=>by cases hd;rfl⟩
   rintro v ⟨_,_,h⟩;obtain rfl:v=(.bool true):=h _ rfl;clear h;simp only [Act.put,sU1,sU2,sU3];refine Mix.aj rfl (aq (.bool true) rfl) ?_ ?_
   ·intro w b k;clear k;simp [go_sem];exact⟨Below.refl _ _,fun d hd=>by cases hd;rfl⟩
   rintro v ⟨_,_,h⟩;obtain rfl:v=(.bool true):=h _ rfl;clear h;simp only [Act.put,sU1,sU2,sU3];refine Mix.aj rfl (aq (.agg #[.string nm,.slice lp lps cp,.int .i64 rt,.slice lb lbs cb,.int .i64 pl]) rfl) ?_ ?_
   ·intro w b k;obtain⟨x0,x1,x2,x3,x4⟩:=xs w b;clear k;simp [go_sem,x0,x1,x2,x3,x4];exact⟨Below.refl _ _,fun d hd=>by cases hd;rfl⟩
   rintro v ⟨_,_,h⟩;obtain rfl:v=(.agg #[.string nm,.slice lp lps cp,.int .i64 rt,.slice lb lbs cb,.int .i64 pl]):=h _ rfl;clear h;simp only [Act.put,sU1,sU2,sU3];refine Mix.aj rfl (cD (CP W (Below.refl _ _))) ?_ ?_
   ·intro w b k;clear k;simp [go_sem];exact Calls.mono (CP w b) fun e w' ⟨v,he,hb,hf⟩=>⟨v,he,hb,fun d hd=>by cases hd;exact hf⟩
   rintro p12 -;simp only [Act.put,sU1,sU2,sU3];refine Mix.aj rfl (by
    obtain⟨pv,w',b,h⟩:=CX;obtain⟨g,o,c,u,_,hg,hu,hi⟩:=bW h HL.out;exact⟨.pointer (some ⟨g,o,none⟩),w',b,fun d hd=>by cases hd;exact⟨g,o,u,rfl,hg,hu,hi⟩⟩) ?_ ?_
   ·intro w b k;have f12:fL w (aK f) p12:=k 12 (by decide +kernel) (by simp [Mix.add]) p12 rfl;obtain⟨g,o,c,u,rfl,hg,hu,hi⟩:=bW f12 HL.out;clear k;simp [go_sem,hpl];exact⟨Below.refl _ _,fun d hd=>by cases hd;exact⟨g,o,u,rfl,hg,hu,hi⟩⟩
   rintro p13 -;simp only [Act.put,sU1,sU2,sU3];refine Mix.aj rfl (by
    obtain⟨pv,w',b,h⟩:=CX;obtain⟨g,o,c,u,_,hg,hu,hi⟩:=bW h HL.out;exact⟨u,w',b,fun d hd=>by cases hd;exact hi⟩) ?_ ?_
   ·intro w b k;have f13:uB w l p13:=k 13 (by decide +kernel) (by simp [Mix.add]) p13 rfl;obtain⟨g,o,u,rfl,hg,hu,hi⟩:=f13;clear k;obtain⟨so,sc,rfl,hi2⟩:=id hi;simp [go_sem,hu];exact⟨Below.refl _ _,fun d hd=>by cases hd;exact hi⟩
   rintro p14 -;simp only [Act.put,sU1,sU2,sU3];refine Mix.aj rfl (aq (.int .i64 l.length) rfl) ?_ ?_
   ·intro w b k;have f14:bX w l p14:=k 14 (by decide +kernel) (by simp [Mix.add]) p14 rfl;obtain⟨so,sc,rfl,_,_,_⟩:=f14;clear k;simp [go_sem];exact⟨Below.refl _ _,fun d hd=>by cases hd;rfl⟩
   rintro v ⟨_,_,h⟩;obtain rfl:v=(.int .i64 l.length):=h _ rfl;clear h;simp only [Act.put,sU1,sU2,sU3];refine Mix.aj rfl (aq (.bool false) rfl) ?_ ?_
   ·intro w b k;clear k;simp [go_sem,hzb];exact⟨Below.refl _ _,fun d hd=>by cases hd;rfl⟩
   rintro v ⟨_,_,h⟩;obtain rfl:v=(.bool false):=h _ rfl;clear h;simp only [Act.put,sU1,sU2,sU3];refine Mix.aj rfl (aq (.bool (true && false)) rfl) ?_ ?_
   ·intro w b k;clear k;simp [go_sem];exact⟨Below.refl _ _,fun d hd=>by cases hd;rfl⟩
   rintro v ⟨_,_,h⟩;obtain rfl:v=(.bool (true && false)):=h _ rfl;clear h;simp only [Act.put,sU1,sU2,sU3];refine Mix.aj rfl (aq (.bool (true && false)) rfl) ?_ ?_
   ·intro w b k;clear k;simp [go_sem];exact⟨Below.refl _ _,fun d hd=>by cases hd;rfl⟩
   rintro v ⟨_,_,h⟩;obtain rfl:v=(.bool (true && false)):=h _ rfl;clear h;simp only [Act.put,sU1,sU2,sU3];refine Mix.ed ?_;intro w2 b2 hk;clear CO CP CX xs hk HCo HCp;have HE:Hid (Below w.heap.size w w2):=ae (by have h:=B0.out;rw [←hq] at h;exact af h b2);go_wp2_with fail
   go_ret;exact⟨L5.aw HR.out,by first | exact HE.out | (rw [←hq];exact HE.out)⟩
 ·have HR:Hid ((false && false)=dq f):=ae (by rw [HRb.out,decide_eq_false ho];simp);have hob:(((aC f).length:Int) == (lbs:Int))=false:=beq_eq_false_iff_ne.2 (by omega);refine Mix.cj (E0 (.agg #[.string nm,.slice lp lps cp,.int .i64 rt,.slice lb lbs cb,.int .i64 pl]) (.slice lb lbs cb) f l q lbs false false) (by kernel_rfl) (by kernel_rfl) ?_;refine Mix.aj rfl (aq (.agg #[.string nm,.slice lp lps cp,.int .i64 rt,.slice lb lbs cb,.int .i64 pl]) rfl) ?_ ?_
  ·intro w b k;obtain⟨x0,x1,x2,x3,x4⟩:=xs w b;clear k;simp [go_sem,x0,x1,x2,x3,x4];exact⟨Below.refl _ _,fun d hd=>by cases hd;rfl⟩
  rintro v ⟨_,_,h⟩;obtain rfl:v=(.agg #[.string nm,.slice lp lps cp,.int .i64 rt,.slice lb lbs cb,.int .i64 pl]):=h _ rfl;clear h;simp only [Act.put,sU1,sU2,sU3];refine Mix.aj rfl (cD (CO W (Below.refl _ _))) ?_ ?_
  ·intro w b k;clear k;simp [go_sem];exact Calls.mono (CO w b) fun e w' ⟨v,he,hb,hf⟩=>⟨v,he,hb,fun d hd=>by cases hd;exact hf⟩
  rintro p4 -;simp only [Act.put,sU1,sU2,sU3];refine Mix.aj rfl (aq (.int .i64 (aC f).length) rfl) ?_ ?_
  ·intro w b k;have f4:bX w (aC f) p4:=k 4 (by decide +kernel) (by simp [Mix.add]) p4 rfl;obtain⟨so,sc,rfl,_,_,_⟩:=f4;clear k;simp [go_sem];exact⟨Below.refl _ _,fun d hd=>by cases hd;rfl⟩
  rintro v ⟨_,_,h⟩;obtain rfl:v=(.int .i64 (aC f).length):=h _ rfl;clear h;simp only [Act.put,sU1,sU2,sU3];refine Mix.aj rfl (aq (.pointer (some ⟨q,3,none⟩)) rfl) ?_ ?_
  ·intro w b k;clear k;simp [go_sem];exact⟨Below.refl _ _,fun d hd=>by cases hd;rfl⟩
  rintro v ⟨_,_,h⟩;obtain rfl:v=(.pointer (some ⟨q,3,none⟩)):=h _ rfl;clear h;simp only [Act.put,sU1,sU2,sU3];refine Mix.aj rfl (aq (.slice lb lbs cb) rfl) ?_ ?_
  ·intro w b k;obtain⟨x0,x1,x2,x3,x4⟩:=xs w b;clear k;simp [go_sem,x3];exact⟨Below.refl _ _,fun d hd=>by cases hd;rfl⟩
  rintro v ⟨_,_,h⟩;obtain rfl:v=(.slice lb lbs cb):=h _ rfl;clear h;simp only [Act.put,sU1,sU2,sU3];refine Mix.aj rfl (aq (.int .i64 lbs) rfl) ?_ ?_
  ·intro w b k;clear k;simp [go_sem];exact⟨Below.refl _ _,fun d hd=>by cases hd;rfl⟩
  rintro v ⟨_,_,h⟩;obtain rfl:v=(.int .i64 lbs):=h _ rfl;clear h;simp only [Act.put,sU1,sU2,sU3];refine Mix.aj rfl (aq (.bool false) rfl) ?_ ?_
  ·intro w b k;clear k;simp [go_sem,hob];exact⟨Below.refl _ _,fun d hd=>by cases hd;rfl⟩
  rintro v ⟨_,_,h⟩;obtain rfl:v=(.bool false):=h _ rfl;clear h;simp only [Act.put,sU1,sU2,sU3];refine Mix.aj rfl (aq (.bool false) rfl) ?_ ?_
  ·intro w b k;clear k;simp [go_sem];exact⟨Below.refl _ _,fun d hd=>by cases hd;rfl⟩
  rintro v ⟨_,_,h⟩;obtain rfl:v=(.bool false):=h _ rfl;clear h;simp only [Act.put,sU1,sU2,sU3];refine Mix.dE rfl ?_;simp only [Act.put,sU1,sU2,sU3];refine Mix.dE rfl ?_;simp only [Act.put,sU1,sU2,sU3];refine Mix.dE rfl ?_;simp only [Act.put,sU1,sU2,sU3];refine Mix.dE rfl ?_;simp only [Act.put,sU1,sU2,sU3];refine Mix.dE rfl ?_;simp only [Act.put,sU1,sU2,sU3];refine Mix.dE rfl ?_;simp only [Act.put,sU1,sU2,sU3];refine Mix.aj rfl (aq (.bool (false && false)) rfl) ?_ ?_
  ·intro w b k;clear k;simp [go_sem];exact⟨Below.refl _ _,fun d hd=>by cases hd;rfl⟩
  rintro v ⟨_,_,h⟩;obtain rfl:v=(.bool (false && false)):=h _ rfl;clear h;simp only [Act.put,sU1,sU2,sU3];refine Mix.aj rfl (aq (.bool (false && false)) rfl) ?_ ?_
  ·intro w b k;clear k;simp [go_sem];exact⟨Below.refl _ _,fun d hd=>by cases hd;rfl⟩
  rintro v ⟨_,_,h⟩;obtain rfl:v=(.bool (false && false)):=h _ rfl;clear h;simp only [Act.put,sU1,sU2,sU3];refine Mix.ed ?_;intro w2 b2 hk;clear CO CP CX xs hk HCo HCp;have HE:Hid (Below w.heap.size w w2):=ae (by have h:=B0.out;rw [←hq] at h;exact af h b2);go_wp2_with fail
  go_ret;exact⟨L5.aw HR.out,by first | exact HE.out | (rw [←hq];exact HE.out)⟩
end Go.Proofs.YtljkgcfnoegibaaGreatDoor
