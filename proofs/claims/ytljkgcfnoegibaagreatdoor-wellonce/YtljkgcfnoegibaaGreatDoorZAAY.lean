/- Texts of one chain, joined. -/
import Derived.Test.YtljkgcfnoegibaaGreatDoorZAAX
set_option maxHeartbeats 2000000
set_option maxRecDepth 20000
namespace Go.Proofs.YtljkgcfnoegibaaGreatDoor
open Go Go.RowKit
open G (Tok Er Ins Fun)
open Mix (Up)
def xJ (f:Fun):Int:=if(aH f).1≠0 then(aH f).1 else if dq f=false then 14 else 0
def D9 (fv bv:Value) (f:Fun) (l:List Int) (q lbs:Nat) (b1 b2:Bool) (t:Tmp):Up:=match t with
 |11 | 18=>Up.eq fv
 |12=>Up.rows (aK f)
 |13=>Up.LF l
 |14=>Up.ints l
 |15=>Up.eq (.int .i64 l.length)
 |16 | 17=>Up.eq (.bool b1)
 |19=>Up.ints (aC f)
 |20=>Up.eq (.int .i64 (aC f).length)
 |21=>Up.eq (.pointer (some ⟨q,3,none⟩))
 |22=>Up.eq bv
 |23=>Up.eq (.int .i64 lbs)
 |24=>Up.eq (.bool b2)
 |25=>Up.eq (.bool (b1 || b2))
 |_=>Up.any
theorem zg (f:Fun) (v:Value) (w0:World) (hv:cg w0 f v) (ht:Tab w0) (hK:(aH f).1=0→Ful f∧Tos f∧0 < f.2.2.2.1.length):
  Calls Tryz.prog 65 #[v] w0 fun e w'=>e= .returned (.int .i64 (xJ f))∧Below w0.heap.size w0 w':=by
 have HFc:Hid (xJ f=if(aH f).1≠0 then(aH f).1 else if dq f=false then 14 else 0):=ae rfl;have HRb:Hid (dq f=(decide ((aC f).length=f.2.2.2.1.length) && decide (((aK f).getD 0 []).length=0))):=ae rfl;have HSh:=ae (fun v w hv ht=>xW f v w hv ht);have HCo:=ae (fun v w hv hF hT h0=>pF f v w hv hF hT h0);have HCp:=ae (fun v w hv hF hT=>nN f v w hv hF hT);have HKk:=ae hK;clear hK;obtain⟨c,hcE⟩:∃c,xJ f=c:=⟨_,rfl⟩;rw [hcE] at HFc ⊢;clear hcE;obtain⟨lp,cp,lb,cb,rfl,X,b0⟩:=de hv;have HV:=ae (hv.below b0);have HTb:=ae (ht.below b0);have X0:=ae X;have B0:=ae b0;clear hv X b0 ht;generalize bs f.1=nm at *;generalize f.2.1.length=lps at *;generalize f.2.2.1=rt at *;generalize hlbs:f.2.2.2.1.length=lbs at *;generalize f.2.2.2.2=pl at *;replace hlbs:=ae hlbs;go_enter Tryz.func65,Tryz.ntmps65
 go_upto_region 1 with fail
 show Code.wp _ _ _ _ (w0.alloc (.cells #[.string nm,.slice lp lps cp,.int .i64 rt,.slice lb lbs cb,.int .i64 pl] 36));generalize w0.alloc (.cells #[.string nm,.slice lp lps cp,.int .i64 rt,.slice lb lbs cb,.int .i64 pl] 36)=W0 at *;generalize hq:w0.heap.size=q at *;have C1:=ae (HSh.out _ W0 HV.out HTb.out);obtain⟨⟨s1,s2⟩,hse⟩:∃s,aH f=s:=⟨_,rfl⟩;rw [hse] at C1 HFc HKk;clear hse;obtain⟨x0,x1,x2,x3,x4⟩:_∧_∧_∧_∧_:=⟨X0.out.2 0 _ rfl,X0.out.2 1 _ rfl,X0.out.2 2 _ rfl,X0.out.2 3 _ rfl,X0.out.2 4 _ rfl⟩;go_wp2_with fail
 refine C1.out.mono ?_;rintro e w1 ⟨rfl,b1⟩;have b2:=ah w1 (.cells #[.int .i64 s1,.int .i64 s2] 29);have H2:=ae (heap_alloc_new w1 (.cells #[.int .i64 s1,.int .i64 s2] 29));have X1:=ae ((X0.out.below b1).below b2);have HV1:=ae ((HV.out.below b1).below b2);have B1:Hid (Below q w0 (w1.alloc (.cells #[.int .i64 s1,.int .i64 s2] 29))):=ae (by have h:=af (af (by rw [hq];exact B0.out) b1) b2;rw [hq] at h;exact h);clear b1 b2 x0 x1 x2 x3 x4 X0 HV B0 C1 HTb;go_upto_region 2 with fail
 show Code.wp _ _ _ _ (w1.alloc (.cells #[.int .i64 s1,.int .i64 s2] 29));generalize w1.alloc (.cells #[.int .i64 s1,.int .i64 s2] 29)=W at *;generalize w1.heap.size=q1 at *;obtain⟨⟨z0,z1⟩,_,_⟩:=aP H2.out;by_cases hs0:s1=0
 ·obtain⟨hF,hT,h0⟩:=HKk.out hs0;replace HFc:Hid (c=if dq f=false then 14 else 0):=ae (by rw [HFc.out,if_neg (by simp [hs0])]);have hTos:Tos f:=hT;have hFul:Ful f:=hF;subst hs0;obtain⟨l,hl⟩:∃l,(aK f)[0]? =some l:=⟨_,List.getElem?_eq_getElem (by simp [aK];rw [hlbs.out];exact h0)⟩;have hgd:(aK f).getD 0 []=l:=by rw [List.getD_eq_getElem?_getD,hl];rfl
  have hpl:0 < (aK f).length:=by simp [aK];rw [hlbs.out];exact h0
  rw [hgd] at HRb;have HL:=ae hl;have h0':0 < f.2.2.2.1.length:=by rw [hlbs.out];exact h0
  have HLe:=ae (FJ hT h0');rw [hlbs.out] at HLe;have hol:(aC f).length≤lbs:=HLe.out;have hN:lbs≤1000000:=by have:=hF.1;rw [hlbs.out] at this;exact this
  have hll:l.length≤1000000:=by
   have hm:=List.mem_of_getElem? hl;unfold aK at hm;obtain⟨b,_,rfl⟩:=List.mem_map.1 hm;unfold bM;rw [List.length_map];exact Nat.le_trans (List.length_filter_le _ _) (by simp;exact hF.1)
  have CO:∀w,Below W.heap.size W w→Calls Tryz.prog 94 #[(.agg #[.string nm,.slice lp lps cp,.int .i64 rt,.slice lb lbs cb,.int .i64 pl])] w fun e w'=>∃v,e= .returned v∧Below w.heap.size w w'∧bX w' (aC f) v:=fun w b=>(HCo.out _ w (HV1.out.below b) hFul hTos h0).mono fun e w' ⟨u,he,h,b'⟩=>⟨_,he,b',dG h⟩;have CP:∀w,Below W.heap.size W w→Calls Tryz.prog 66 #[(.agg #[.string nm,.slice lp lps cp,.int .i64 rt,.slice lb lbs cb,.int .i64 pl])] w fun e w'=>∃v,e= .returned v∧Below w.heap.size w w'∧fL w' (aK f) v:=fun w b=>(HCp.out _ w (HV1.out.below b) hFul hTos).mono fun e w' ⟨v,he,h,b'⟩=>⟨_,he,b',h.read⟩;have CX:∃p w',Below W.heap.size W w'∧fL w' (aK f) p:=by
   obtain⟨_,w3,v3,_,b3,h3⟩:=dj (CP W (Below.refl _ _));exact⟨v3,w3,b3,h3⟩
  have xs:=fun(w:World) (b:Below W.heap.size W w)=>And.intro ((X1.out.below b).2 0 _ rfl) (And.intro ((X1.out.below b).2 1 _ rfl) (And.intro ((X1.out.below b).2 2 _ rfl) (And.intro ((X1.out.below b).2 3 _ rfl) ((X1.out.below b).2 4 _ rfl))));clear hF hT hgd hl hFul hTos h0 h0' HKk HSh HLe;go_upto_region 4 with fail
  clear z0 z1;by_cases hz:0 < l.length
  ·have HR:Hid (c=14):=ae (by rw [HFc.out,HRb.out,decide_eq_false (show ¬l.length=0 by omega)];simp);refine Mix.cj (D9 (.agg #[.string nm,.slice lp lps cp,.int .i64 rt,.slice lb lbs cb,.int .i64 pl]) (.slice lb lbs cb) f l q lbs true false) (by kernel_rfl) (by kernel_rfl) ?_;refine Mix.aj rfl (aq (.agg #[.string nm,.slice lp lps cp,.int .i64 rt,.slice lb lbs cb,.int .i64 pl]) rfl) ?_ ?_
   ·intro w b k;obtain⟨x0,x1,x2,x3,x4⟩:=xs w b;clear k;simp [go_sem,x0,x1,x2,x3,x4];exact⟨Below.refl _ _,fun d hd=>by cases hd;rfl⟩
   rintro v ⟨_,_,h⟩;obtain rfl:v=(.agg #[.string nm,.slice lp lps cp,.int .i64 rt,.slice lb lbs cb,.int .i64 pl]):=h _ rfl;clear h;simp only [Act.put,sU1,sU2,sU3];refine Mix.aj rfl (cD (CP W (Below.refl _ _))) ?_ ?_
   ·intro w b k;clear k;simp [go_sem];exact Calls.mono (CP w b) fun e w' ⟨v,he,hb,hf⟩=>⟨v,he,hb,fun d hd=>by cases hd;exact hf⟩
   rintro p12 -;simp only [Act.put,sU1,sU2,sU3];refine Mix.aj rfl (by
    obtain⟨pv,w',b,h⟩:=CX;obtain⟨g,o,c,u,_,hg,hu,hi⟩:=bW h HL.out;exact⟨.pointer (some ⟨g,o,none⟩),w',b,fun d hd=>by cases hd;exact⟨g,o,u,rfl,hg,hu,hi⟩⟩) ?_ ?_
   ·intro w b k;have f12:fL w (aK f) p12:=k 12 (by decide +kernel) (by simp [Mix.add]) p12 rfl;obtain⟨g,o,c,u,rfl,hg,hu,hi⟩:=bW f12 HL.out;clear k;simp [go_sem,hpl];exact⟨Below.refl _ _,fun d hd=>by cases hd;exact⟨g,o,u,rfl,hg,hu,hi⟩⟩
   rintro p13 -;simp only [Act.put,sU1,sU2,sU3];refine Mix.aj rfl (by
    obtain⟨pv,w',b,h⟩:=CX;obtain⟨g,o,c,u,_,hg,hu,hi⟩:=bW h HL.out;exact⟨u,w',b,fun d hd=>by cases hd;exact hi⟩) ?_ ?_
   ·intro w b k;have f13:uB w l p13:=k 13 (by decide +kernel) (by simp [Mix.add]) p13 rfl;obtain⟨g,o,u,rfl,hg,hu,hi⟩:=f13;clear k;obtain⟨so,sc,rfl,hi2⟩:=id hi;simp [go_sem,hu];exact⟨Below.refl _ _,fun d hd=>by cases hd;exact hi⟩
   rintro p14 -;simp only [Act.put,sU1,sU2,sU3];refine Mix.aj rfl (aq (.int .i64 l.length) rfl) ?_ ?_
   ·intro w b k;have f14:bX w l p14:=k 14 (by decide +kernel) (by simp [Mix.add]) p14 rfl;obtain⟨so,sc,rfl,_,_,_⟩:=f14;clear k;simp [go_sem];exact⟨Below.refl _ _,fun d hd=>by cases hd;rfl⟩
   rintro v ⟨_,_,h⟩;obtain rfl:v=(.int .i64 l.length):=h _ rfl;clear h;simp only [Act.put,sU1,sU2,sU3];refine Mix.aj rfl (aq (.bool true) rfl) ?_ ?_
   ·intro w b k;clear k;simp [go_sem,hz];exact⟨Below.refl _ _,fun d hd=>by cases hd;rfl⟩
   rintro v ⟨_,_,h⟩;obtain rfl:v=(.bool true):=h _ rfl;clear h;simp only [Act.put,sU1,sU2,sU3];refine Mix.aj rfl (aq (.bool true) rfl) ?_ ?_
   ·intro w b k;clear k;simp [go_sem];exact⟨Below.refl _ _,fun d hd=>by cases hd;rfl⟩
   rintro v ⟨_,_,h⟩;obtain rfl:v=(.bool true):=h _ rfl;clear h;simp only [Act.put,sU1,sU2,sU3];refine Mix.dE rfl ?_;simp only [Act.put,sU1,sU2,sU3];refine Mix.dE rfl ?_;simp only [Act.put,sU1,sU2,sU3];refine Mix.dE rfl ?_;simp only [Act.put,sU1,sU2,sU3];refine Mix.dE rfl ?_;simp only [Act.put,sU1,sU2,sU3];refine Mix.dE rfl ?_;simp only [Act.put,sU1,sU2,sU3];refine Mix.dE rfl ?_;simp only [Act.put,sU1,sU2,sU3];refine Mix.dE rfl ?_;simp only [Act.put,sU1,sU2,sU3];refine Mix.aj rfl (aq (.bool (true || false)) rfl) ?_ ?_
   ·intro w b k;clear k;simp [go_sem];exact⟨Below.refl _ _,fun d hd=>by cases hd;rfl⟩
   rintro v ⟨_,_,h⟩;obtain rfl:v=(.bool (true || false)):=h _ rfl;clear h;simp only [Act.put,sU1,sU2,sU3];refine Mix.ed ?_;intro w2 b2 hk;clear CO CP CX xs hk HCo HCp;have HE:Hid (Below q w0 w2):=ae (by have h:=af (show Below w0.heap.size w0 W by rw [hq];exact B1.out) b2;rw [hq] at h;exact h);go_wp2_with fail
   go_ret;exact⟨by rw [HR.out];rfl,by first | exact HE.out | (rw [hq];exact HE.out)⟩
  ·by_cases ho:(aC f).length < lbs
   ·have HR:Hid (c=14):=ae (by rw [HFc.out,HRb.out,decide_eq_false (show ¬(aC f).length=lbs by omega)];simp);refine Mix.cj (D9 (.agg #[.string nm,.slice lp lps cp,.int .i64 rt,.slice lb lbs cb,.int .i64 pl]) (.slice lb lbs cb) f l q lbs false true) (by kernel_rfl) (by kernel_rfl) ?_;refine Mix.aj rfl (aq (.agg #[.string nm,.slice lp lps cp,.int .i64 rt,.slice lb lbs cb,.int .i64 pl]) rfl) ?_ ?_
    ·intro w b k;obtain⟨x0,x1,x2,x3,x4⟩:=xs w b;clear k;simp [go_sem,x0,x1,x2,x3,x4];exact⟨Below.refl _ _,fun d hd=>by cases hd;rfl⟩
    rintro v ⟨_,_,h⟩;obtain rfl:v=(.agg #[.string nm,.slice lp lps cp,.int .i64 rt,.slice lb lbs cb,.int .i64 pl]):=h _ rfl;clear h;simp only [Act.put,sU1,sU2,sU3];refine Mix.aj rfl (cD (CP W (Below.refl _ _))) ?_ ?_
    ·intro w b k;clear k;simp [go_sem];exact Calls.mono (CP w b) fun e w' ⟨v,he,hb,hf⟩=>⟨v,he,hb,fun d hd=>by cases hd;exact hf⟩
    rintro p12 -;simp only [Act.put,sU1,sU2,sU3];refine Mix.aj rfl (by
     obtain⟨pv,w',b,h⟩:=CX;obtain⟨g,o,c,u,_,hg,hu,hi⟩:=bW h HL.out;exact⟨.pointer (some ⟨g,o,none⟩),w',b,fun d hd=>by cases hd;exact⟨g,o,u,rfl,hg,hu,hi⟩⟩) ?_ ?_
    ·intro w b k;have f12:fL w (aK f) p12:=k 12 (by decide +kernel) (by simp [Mix.add]) p12 rfl;obtain⟨g,o,c,u,rfl,hg,hu,hi⟩:=bW f12 HL.out;clear k;simp [go_sem,hpl];exact⟨Below.refl _ _,fun d hd=>by cases hd;exact⟨g,o,u,rfl,hg,hu,hi⟩⟩
    rintro p13 -;simp only [Act.put,sU1,sU2,sU3];refine Mix.aj rfl (by
     obtain⟨pv,w',b,h⟩:=CX;obtain⟨g,o,c,u,_,hg,hu,hi⟩:=bW h HL.out;exact⟨u,w',b,fun d hd=>by cases hd;exact hi⟩) ?_ ?_
    ·intro w b k;have f13:uB w l p13:=k 13 (by decide +kernel) (by simp [Mix.add]) p13 rfl;obtain⟨g,o,u,rfl,hg,hu,hi⟩:=f13;clear k;obtain⟨so,sc,rfl,hi2⟩:=id hi;simp [go_sem,hu];exact⟨Below.refl _ _,fun d hd=>by cases hd;exact hi⟩
    rintro p14 -;simp only [Act.put,sU1,sU2,sU3];refine Mix.aj rfl (aq (.int .i64 l.length) rfl) ?_ ?_
    ·intro w b k;have f14:bX w l p14:=k 14 (by decide +kernel) (by simp [Mix.add]) p14 rfl;obtain⟨so,sc,rfl,_,_,_⟩:=f14;clear k;simp [go_sem];exact⟨Below.refl _ _,fun d hd=>by cases hd;rfl⟩
    rintro v ⟨_,_,h⟩;obtain rfl:v=(.int .i64 l.length):=h _ rfl;clear h;simp only [Act.put,sU1,sU2,sU3];refine Mix.aj rfl (aq (.bool false) rfl) ?_ ?_
    ·intro w b k;clear k;simp [go_sem,hz];exact⟨Below.refl _ _,fun d hd=>by cases hd;rfl⟩
    rintro v ⟨_,_,h⟩;obtain rfl:v=(.bool false):=h _ rfl;clear h;simp only [Act.put,sU1,sU2,sU3];refine Mix.aj rfl (aq (.bool false) rfl) ?_ ?_
    ·intro w b k;clear k;simp [go_sem];exact⟨Below.refl _ _,fun d hd=>by cases hd;rfl⟩
    rintro v ⟨_,_,h⟩;obtain rfl:v=(.bool false):=h _ rfl;clear h;simp only [Act.put,sU1,sU2,sU3];refine Mix.aj rfl (aq (.agg #[.string nm,.slice lp lps cp,.int .i64 rt,.slice lb lbs cb,.int .i64 pl]) rfl) ?_ ?_
    ·intro w b k;obtain⟨x0,x1,x2,x3,x4⟩:=xs w b;clear k;simp [go_sem,x0,x1,x2,x3,x4];exact⟨Below.refl _ _,fun d hd=>by cases hd;rfl⟩
    rintro v ⟨_,_,h⟩;obtain rfl:v=(.agg #[.string nm,.slice lp lps cp,.int .i64 rt,.slice lb lbs cb,.int .i64 pl]):=h _ rfl;clear h;simp only [Act.put,sU1,sU2,sU3];refine Mix.aj rfl (cD (CO W (Below.refl _ _))) ?_ ?_
    ·intro w b k;clear k;simp [go_sem];exact Calls.mono (CO w b) fun e w' ⟨v,he,hb,hf⟩=>⟨v,he,hb,fun d hd=>by cases hd;exact hf⟩
    rintro p19 -;simp only [Act.put,sU1,sU2,sU3];refine Mix.aj rfl (aq (.int .i64 (aC f).length) rfl) ?_ ?_
    ·intro w b k;have f19:bX w (aC f) p19:=k 19 (by decide +kernel) (by simp [Mix.add]) p19 rfl;obtain⟨so,sc,rfl,_,_,_⟩:=f19;clear k;simp [go_sem];exact⟨Below.refl _ _,fun d hd=>by cases hd;rfl⟩
    rintro v ⟨_,_,h⟩;obtain rfl:v=(.int .i64 (aC f).length):=h _ rfl;clear h;simp only [Act.put,sU1,sU2,sU3];refine Mix.aj rfl (aq (.pointer (some ⟨q,3,none⟩)) rfl) ?_ ?_
    ·intro w b k;clear k;simp [go_sem];exact⟨Below.refl _ _,fun d hd=>by cases hd;rfl⟩
    rintro v ⟨_,_,h⟩;obtain rfl:v=(.pointer (some ⟨q,3,none⟩)):=h _ rfl;clear h;simp only [Act.put,sU1,sU2,sU3];refine Mix.aj rfl (aq (.slice lb lbs cb) rfl) ?_ ?_
    ·intro w b k;obtain⟨x0,x1,x2,x3,x4⟩:=xs w b;clear k;simp [go_sem,x3];exact⟨Below.refl _ _,fun d hd=>by cases hd;rfl⟩
    rintro v ⟨_,_,h⟩;obtain rfl:v=(.slice lb lbs cb):=h _ rfl;clear h;simp only [Act.put,sU1,sU2,sU3];refine Mix.aj rfl (aq (.int .i64 lbs) rfl) ?_ ?_
    ·intro w b k;clear k;simp [go_sem];exact⟨Below.refl _ _,fun d hd=>by cases hd;rfl⟩
    rintro v ⟨_,_,h⟩;obtain rfl:v=(.int .i64 lbs):=h _ rfl;clear h;simp only [Act.put,sU1,sU2,sU3];refine Mix.aj rfl (aq (.bool true) rfl) ?_ ?_
    ·intro w b k;clear k;simp [go_sem,ho];exact⟨Below.refl _ _,fun d hd=>by cases hd;rfl⟩
    rintro v ⟨_,_,h⟩;obtain rfl:v=(.bool true):=h _ rfl;clear h;simp only [Act.put,sU1,sU2,sU3];refine Mix.aj rfl (aq (.bool (false || true)) rfl) ?_ ?_
    ·intro w b k;clear k;simp [go_sem];exact⟨Below.refl _ _,fun d hd=>by cases hd;rfl⟩
    rintro v ⟨_,_,h⟩;obtain rfl:v=(.bool (false || true)):=h _ rfl;clear h;simp only [Act.put,sU1,sU2,sU3];refine Mix.ed ?_;intro w2 b2 hk;clear CO CP CX xs hk HCo HCp;have HE:Hid (Below q w0 w2):=ae (by have h:=af (show Below w0.heap.size w0 W by rw [hq];exact B1.out) b2;rw [hq] at h;exact h);go_wp2_with fail
    go_ret;exact⟨by rw [HR.out];rfl,by first | exact HE.out | (rw [hq];exact HE.out)⟩
   ·have HR:Hid (c=0):=ae (by rw [HFc.out,HRb.out,decide_eq_true (show(aC f).length=lbs by omega),decide_eq_true (show l.length=0 by omega)];simp);refine Mix.cj (D9 (.agg #[.string nm,.slice lp lps cp,.int .i64 rt,.slice lb lbs cb,.int .i64 pl]) (.slice lb lbs cb) f l q lbs false false) (by kernel_rfl) (by kernel_rfl) ?_;refine Mix.aj rfl (aq (.agg #[.string nm,.slice lp lps cp,.int .i64 rt,.slice lb lbs cb,.int .i64 pl]) rfl) ?_ ?_
    ·intro w b k;obtain⟨x0,x1,x2,x3,x4⟩:=xs w b;clear k;simp [go_sem,x0,x1,x2,x3,x4];exact⟨Below.refl _ _,fun d hd=>by cases hd;rfl⟩
    rintro v ⟨_,_,h⟩;obtain rfl:v=(.agg #[.string nm,.slice lp lps cp,.int .i64 rt,.slice lb lbs cb,.int .i64 pl]):=h _ rfl;clear h;simp only [Act.put,sU1,sU2,sU3];refine Mix.aj rfl (cD (CP W (Below.refl _ _))) ?_ ?_
    ·intro w b k;clear k;simp [go_sem];exact Calls.mono (CP w b) fun e w' ⟨v,he,hb,hf⟩=>⟨v,he,hb,fun d hd=>by cases hd;exact hf⟩
    rintro p12 -;simp only [Act.put,sU1,sU2,sU3];refine Mix.aj rfl (by
     obtain⟨pv,w',b,h⟩:=CX;obtain⟨g,o,c,u,_,hg,hu,hi⟩:=bW h HL.out;exact⟨.pointer (some ⟨g,o,none⟩),w',b,fun d hd=>by cases hd;exact⟨g,o,u,rfl,hg,hu,hi⟩⟩) ?_ ?_
    ·intro w b k;have f12:fL w (aK f) p12:=k 12 (by decide +kernel) (by simp [Mix.add]) p12 rfl;obtain⟨g,o,c,u,rfl,hg,hu,hi⟩:=bW f12 HL.out;clear k;simp [go_sem,hpl];exact⟨Below.refl _ _,fun d hd=>by cases hd;exact⟨g,o,u,rfl,hg,hu,hi⟩⟩
    rintro p13 -;simp only [Act.put,sU1,sU2,sU3];refine Mix.aj rfl (by
     obtain⟨pv,w',b,h⟩:=CX;obtain⟨g,o,c,u,_,hg,hu,hi⟩:=bW h HL.out;exact⟨u,w',b,fun d hd=>by cases hd;exact hi⟩) ?_ ?_
    ·intro w b k;have f13:uB w l p13:=k 13 (by decide +kernel) (by simp [Mix.add]) p13 rfl;obtain⟨g,o,u,rfl,hg,hu,hi⟩:=f13;clear k;obtain⟨so,sc,rfl,hi2⟩:=id hi;simp [go_sem,hu];exact⟨Below.refl _ _,fun d hd=>by cases hd;exact hi⟩
    rintro p14 -;simp only [Act.put,sU1,sU2,sU3];refine Mix.aj rfl (aq (.int .i64 l.length) rfl) ?_ ?_
    ·intro w b k;have f14:bX w l p14:=k 14 (by decide +kernel) (by simp [Mix.add]) p14 rfl;obtain⟨so,sc,rfl,_,_,_⟩:=f14;clear k;simp [go_sem];exact⟨Below.refl _ _,fun d hd=>by cases hd;rfl⟩
    rintro v ⟨_,_,h⟩;obtain rfl:v=(.int .i64 l.length):=h _ rfl;clear h;simp only [Act.put,sU1,sU2,sU3];refine Mix.aj rfl (aq (.bool false) rfl) ?_ ?_
    ·intro w b k;clear k;simp [go_sem,hz];exact⟨Below.refl _ _,fun d hd=>by cases hd;rfl⟩
    rintro v ⟨_,_,h⟩;obtain rfl:v=(.bool false):=h _ rfl;clear h;simp only [Act.put,sU1,sU2,sU3];refine Mix.aj rfl (aq (.bool false) rfl) ?_ ?_
    ·intro w b k;clear k;simp [go_sem];exact⟨Below.refl _ _,fun d hd=>by cases hd;rfl⟩
    rintro v ⟨_,_,h⟩;obtain rfl:v=(.bool false):=h _ rfl;clear h;simp only [Act.put,sU1,sU2,sU3];refine Mix.aj rfl (aq (.agg #[.string nm,.slice lp lps cp,.int .i64 rt,.slice lb lbs cb,.int .i64 pl]) rfl) ?_ ?_
    ·intro w b k;obtain⟨x0,x1,x2,x3,x4⟩:=xs w b;clear k;simp [go_sem,x0,x1,x2,x3,x4];exact⟨Below.refl _ _,fun d hd=>by cases hd;rfl⟩
    rintro v ⟨_,_,h⟩;obtain rfl:v=(.agg #[.string nm,.slice lp lps cp,.int .i64 rt,.slice lb lbs cb,.int .i64 pl]):=h _ rfl;clear h;simp only [Act.put,sU1,sU2,sU3];refine Mix.aj rfl (cD (CO W (Below.refl _ _))) ?_ ?_
    ·intro w b k;clear k;simp [go_sem];exact Calls.mono (CO w b) fun e w' ⟨v,he,hb,hf⟩=>⟨v,he,hb,fun d hd=>by cases hd;exact hf⟩
    rintro p19 -;simp only [Act.put,sU1,sU2,sU3];refine Mix.aj rfl (aq (.int .i64 (aC f).length) rfl) ?_ ?_
    ·intro w b k;have f19:bX w (aC f) p19:=k 19 (by decide +kernel) (by simp [Mix.add]) p19 rfl;obtain⟨so,sc,rfl,_,_,_⟩:=f19;clear k;simp [go_sem];exact⟨Below.refl _ _,fun d hd=>by cases hd;rfl⟩
    rintro v ⟨_,_,h⟩;obtain rfl:v=(.int .i64 (aC f).length):=h _ rfl;clear h;simp only [Act.put,sU1,sU2,sU3];refine Mix.aj rfl (aq (.pointer (some ⟨q,3,none⟩)) rfl) ?_ ?_
    ·intro w b k;clear k;simp [go_sem];exact⟨Below.refl _ _,fun d hd=>by cases hd;rfl⟩
    rintro v ⟨_,_,h⟩;obtain rfl:v=(.pointer (some ⟨q,3,none⟩)):=h _ rfl;clear h;simp only [Act.put,sU1,sU2,sU3];refine Mix.aj rfl (aq (.slice lb lbs cb) rfl) ?_ ?_
    ·intro w b k;obtain⟨x0,x1,x2,x3,x4⟩:=xs w b;clear k;simp [go_sem,x3];exact⟨Below.refl _ _,fun d hd=>by cases hd;rfl⟩
    rintro v ⟨_,_,h⟩;obtain rfl:v=(.slice lb lbs cb):=h _ rfl;clear h;simp only [Act.put,sU1,sU2,sU3];refine Mix.aj rfl (aq (.int .i64 lbs) rfl) ?_ ?_
    ·intro w b k;clear k;simp [go_sem];exact⟨Below.refl _ _,fun d hd=>by cases hd;rfl⟩
    rintro v ⟨_,_,h⟩;obtain rfl:v=(.int .i64 lbs):=h _ rfl;clear h;simp only [Act.put,sU1,sU2,sU3];refine Mix.aj rfl (aq (.bool false) rfl) ?_ ?_
    ·intro w b k;clear k;simp [go_sem,ho];exact⟨Below.refl _ _,fun d hd=>by cases hd;rfl⟩
    rintro v ⟨_,_,h⟩;obtain rfl:v=(.bool false):=h _ rfl;clear h;simp only [Act.put,sU1,sU2,sU3];refine Mix.aj rfl (aq (.bool (false || false)) rfl) ?_ ?_
    ·intro w b k;clear k;simp [go_sem];exact⟨Below.refl _ _,fun d hd=>by cases hd;rfl⟩
    rintro v ⟨_,_,h⟩;obtain rfl:v=(.bool (false || false)):=h _ rfl;clear h;simp only [Act.put,sU1,sU2,sU3];refine Mix.ed ?_;intro w2 b2 hk;clear CO CP CX xs hk HCo HCp;have HE:Hid (Below q w0 w2):=ae (by have h:=af (show Below w0.heap.size w0 W by rw [hq];exact B1.out) b2;rw [hq] at h;exact h);go_wp2_with fail
    go_ret;exact⟨by rw [HR.out];rfl,by first | exact HE.out | (rw [hq];exact HE.out)⟩
 ·have HR:Hid (c=s1):=ae (by rw [HFc.out,if_pos hs0]);go_wp2_with fail
  go_ret;exact⟨by rw [HR.out];rfl,by first | exact B1.out | (rw [hq];exact B1.out)⟩
open Go Go.RowKit Go.Maps
def KM (wM w':World):Prop:=wM.heap.size≤w'.heap.size∧∀(a:Addr) (v:Value),wM.cell? a=some v→w'.cell? a=some v
theorem KM.refl (w:World):KM w w:=⟨Nat.le_refl _,fun _ _ h=>h⟩
theorem KM.chg {B:Nat} {wM w w':World} (h:KM wM w) (k:Chg B w w'):KM wM w':=⟨Nat.le_trans h.1 k.1.size,fun a v ha=>k.cell (h.2 a v ha)⟩
theorem G7 {w:World} {a:Addr} {v:Value} (h:w.cell? a=some v):a.block < w.heap.size:=by
 obtain⟨x,t,z,hx⟩:=qS h;exact(Array.getElem?_eq_some_iff.1 hx).1
theorem KM.grown {r:Nat} {wM w w':World} (h:KM wM w) (k:w.grownBy w' (some r)) (hr:wM.heap.size≤r):KM wM w':=⟨Nat.le_trans h.1 k.size,fun a v ha=>k.cell (h.2 a v ha) (by
 intro e;injection e with e;have:=G7 ha;omega)⟩
theorem KM.sl {wM w:World} (h:KM wM w) {ao:Option Addr} {l:List Int} (hs:Sl wM ao l):Sl w ao l:=by
 rcases hs with hs | ⟨b,o,e,hb,hc⟩
 ·exact .inl hs
 ·exact .inr ⟨b,o,e,Nat.lt_of_lt_of_le hb h.1,fun i n hi=>h.2 _ _ (hc i n hi)⟩
theorem I3 {B:Nat} {w w':World} (h:Chg B w w') {ao:Option Addr} {l:List Int} (hs:Sl w ao l):Sl w' ao l:=KM.sl (KM.chg (KM.refl w) h) hs
theorem KM.tree {wM w:World} (h:KM wM w) {ll:List (List Int)} {N t ub uo db dd uc dc:Nat} (ht:jq wM ll N t ub uo db dd uc dc):jq w ll N t ub uo db dd uc dc:=by
 obtain⟨h1,h2,h3,h4,h5,h6,h7⟩:=ht;have:=h.1;exact⟨by omega,by omega,by omega,h.2 _ _ h4,h.2 _ _ h5,fun k hk=>h.2 _ _ (h6 k hk),fun k hk=>h.2 _ _ (h7 k hk)⟩
def PrC (w:World) (f:Fun) (qb qo:Nat):Prop:=∀k,k < f.2.2.2.1.length→∃qa qac,w.cell? ⟨qb,qo+k,none⟩=some (.slice qa (bM f k f.2.2.2.1.length).length qac)∧Sl w qa (bM f k f.2.2.2.1.length)
def plM (f:Fun) (k i:Nat):Int→Option (Int × Int):=fun a=>(plF f a k i).map fun m=>(m.1,m.2.1)
def S1 (w0 wM:World) (f:Fun) (mb tb an:Nat) (k i:Nat) (w:World):Prop:=Below w0.heap.size w0 w∧KM wM w∧SMap w mb (an+(bB f k i).length) (plM f k i)∧cI w tb 1000000 (fun a=>tyL f a (bB f f.2.2.2.1.length 0))
theorem S1.grown {w0 wM:World} {f:Fun} {mb tb an k i:Nat} {w w':World} {r:Nat} (h:S1 w0 wM f mb tb an k i w) (hg:w.grownBy w' (some r)) (hr:wM.heap.size≤r) (hm:mb < wM.heap.size) (ht:tb < wM.heap.size) (h0:w0.heap.size≤wM.heap.size):S1 w0 wM f mb tb an k i w':=by
 obtain⟨h1,h2,h3,h4⟩:=h;have hs:=h2.1;refine⟨h1.trans (cx hg (by omega) (by omega)),h2.grown hg hr,bS.kept h3 hg (by intro e;injection e with e;omega),bS.kept h4 hg (by intro e;injection e with e;omega)⟩
theorem S1.next {w0 wM:World} {f:Fun} {mb tb an k:Nat} {w:World} (hk:k < f.2.2.2.1.length) (h:S1 w0 wM f mb tb an k (aG f k).length w):S1 w0 wM f mb tb an (k+1) 0 w:=by
 obtain⟨h1,h2,h3,h4⟩:=h;refine⟨h1,h2,?_,h4⟩;rw [jl hk];have:plM f (k+1) 0=plM f k (aG f k).length:=funext fun a=>by unfold plM;rw [wJ hk]
 rw [this];exact h3
def uw (x:Ins):Prop:=(mkX x≠0→I64 x.2.1)∧(∀a∈x.2.2.2.2.1,I64 a)∧(∀a∈x.2.2.2.2.2.1,I64 a)∧x.2.2.2.2.1.length≤1000000∧x.2.2.2.2.2.1.length≤1000000
theorem zK (po ap ab:Option Addr) (pn pc an cp bn cb:Nat) (nm:ByteArray) (rt pl:Int) (src:Bool) (qb qo qn qc tr tb mb:Nat) (f:Fun) (w0 wM w:World) (k i:Nat) (xv:Value) (hbk:dy w0 f.2.2.2.1 (.slice ab bn cb)) (hbn:bn=f.2.2.2.1.length) (hM:Mod f) (hT:L5.Tab w0) (h0M:w0.heap.size≤wM.heap.size) (hmb:w0.heap.size≤mb) (hqb:qb < wM.heap.size) (hqn:qn=f.2.2.2.1.length) (hP:PrC wM f qb qo)
  (hKf:an+(bB f f.2.2.2.1.length 0).length≤1000000) (hKx:uw (au f k i)) (htm:tb=mb→mkX (au f k i)=0) (hk:k < bn) (hi:i < (aG f k).length) (hS:S1 w0 wM f mb tb an k i w) (hx:lT w (au f k i) xv):
  Calls Tryz.prog 69 #[.agg #[.slice po pn pc,.string nm,.slice ap an cp,.int .i64 rt,.slice ab bn cb,.int .i64 pl,.bool src,.slice (some ⟨qb,qo,none⟩) qn qc,.pointer (some ⟨tr,0,none⟩),.map (some tb),.map (some mb)],.agg #[.int .i64 k,.int .i64 i],xv] w fun e w'=>e= .returned (.int .i64 (cR f k i src))∧(cR f k i src=0→S1 w0 wM f mb tb an k (i+1) w')∧Chg w0.heap.size w w':=by
 obtain⟨h1,h2,h3,h4⟩:=hS;have hkl:k < f.2.2.2.1.length:=by omega
 obtain⟨ao,to,ca,ct,rfl,s1,s2,_⟩:=hx;have hval:cR f k i src=if(decide (L5.bD (au f k i).1 (au f k i).2.2.2.1≠0) && (plM f k i (au f k i).2.1).isSome)=true then 5 else if(decide ((au f k i).1=20) && !iI f k i)=true then 11 else if(src && (decide ((au f k i).1=23) || decide ((au f k i).1=24) || decide ((au f k i).1=25) || (decide ((au f k i).1=21) && decide ((au f k i).2.2.1≠0))))=true then 2 else 0:=by
  unfold cR du;have e:(eA f (au f k i).2.1 k i).2.2.2=(plM f k i (au f k i).2.1).isSome:=by
   rw [made_pl];unfold plM
   cases plF f (au f k i).2.1 k i <;> rfl
  rw [e];rfl
 have hnl:an+(bB f k i).length < maxLen:=by
  have:=th hkl (Nat.le_of_lt hi);unfold maxLen;omega
 have hs2:=h2.1;refine(uT po ap ab pn pc an cp bn cb nm rt pl src qb qo qn qc tr tb mb (au f k i).1 (au f k i).2.1 (au f k i).2.2.1 (au f k i).2.2.2.1 (au f k i).2.2.2.2.2.2.2 (au f k i).2.2.2.2.1 (au f k i).2.2.2.2.2.1 (bs (au f k i).2.2.2.2.2.2.1) ao to ca ct (k:Int) (i:Int) w w0.heap.size (an+(bB f k i).length) (plM f k i) (iI f k i) (by omega) hmb hnl (hT.below h1) h3 (fun h=>fJ (hKx.1 h)) ?_ (cR f k i src) hval).mono ?_
 ·intro h20 w' hC;have hb':=h1.trans hC.1;have hK':=h2.chg hC;obtain⟨qa,qac,hq1,hq2⟩:=hP k hkl;rw [vu hkl];refine Bz po ap ab pn pc an cp bn cb nm rt pl src qb qo qn qc tr tb mb k (i:Int) (bM f k f.2.2.2.1.length) (au f k i).2.2.2.2.2.1 to qa ct qac w' (decide (i=0) || decide ((au f k (i - 1)).1=20)) (mR f k _) ?_ hKx.2.2.2.2 ?_ (fun a ha=>fJ (hKx.2.2.1 a ha)) (by omega) ?_ (Nat.lt_of_lt_of_le hqb hK'.1) (hK'.2 _ _ hq1) (hK'.sl hq2) ?_
  ·refine Nat.le_trans (jV f k _) hM.1
  ·intro a ha;have h5:=qe f k _ a ha;have h6:=hM.1;exact fJ ⟨by omega,by omega⟩
  ·exact I3 hC s2
  ·by_cases hi0:i=0
   ·left;subst hi0;simp
   ·right;obtain⟨g,o,aoo,acc,e1,e2,e3,e4⟩:=eD (k:=k) (hbn ▸ hbk) (by omega);obtain⟨g2,o2,e5,e6⟩:=eR (i:=i - 1) (e4.below hb') (by omega);subst e5;obtain⟨_,_,_,_,_,d0,_⟩:=e6.val;have h6:=hM.blk k;refine⟨i - 1,g,o,g2,o2,(aG f k).length,acc,(au f k (i - 1)).1,by omega,e1,Nat.lt_of_lt_of_le e2 (Nat.le_trans (by omega) hb'.size),hk,(hb'.cell (p:=⟨g,o+k,none⟩) e2).trans e3,by omega,h6,e6.1,d0,?_⟩;simp [hi0]
 ·rintro e w' ⟨rfl,hs',hC,hG,hB⟩;refine⟨rfl,fun hv=> ?_,hC⟩;refine⟨h1.trans hC.1,h2.chg hC,?_,?_⟩
  ·have hs3:=hs' hv;rw [lB hi,List.length_append];have e1:zy (plM f k i) (au f k i).2.1 ((k:Int),(i:Int)) (decide (L5.bD (au f k i).1 (au f k i).2.2.2.1≠0))=plM f k (i+1):=by
    funext a;unfold zy plM;by_cases hm0:mkX (au f k i)=0
    ·rw [FR hkl hi hm0];have:(decide (L5.bD (au f k i).1 (au f k i).2.2.2.1≠0))=false:=by
      unfold mkX at hm0;simp [hm0]
     rw [this];simp
    ·have hno:plF f (au f k i).2.1 k i=none:=by
      rw [hval] at hv;split at hv
      ·omega
      ·rename_i hc;unfold mkX at hm0
       cases hp:plF f (au f k i).2.1 k i with
       |none=>rfl
       |some m=>
        exfalso;apply hc;unfold plM;rw [hp];simp [hm0]
     rw [Iv hkl hi hm0 hno a];have:(decide (L5.bD (au f k i).1 (au f k i).2.2.2.1≠0))=true:=by
      unfold mkX at hm0;simp [hm0]
     rw [this];by_cases ha:a=(au f k i).2.1
     ·simp [ha]
     ·simp [ha]
   rw [e1] at hs3;exact hs3
  ·by_cases hm0:mkX (au f k i)=0
   ·exact bS.below h4 (hB hm0)
   ·exact bS.kept h4 hG (fun e=>hm0 (htm (by injection e)))
theorem Ga {f:Fun} {v kd b1 b2:Int} (hy:∀a,tyL f a (bB f f.2.2.2.1.length 0)=(plF f a f.2.2.2.1.length 0).map (·.2.2)):tkI (aD f) (plM f f.2.2.2.1.length 0) (fun a=>tyL f a (bB f f.2.2.2.1.length 0)) v kd b1 b2=tkC f v kd (b1,b2):=by
 unfold tkI tkC plM;simp only [hy]
 cases plF f v f.2.2.2.1.length 0 with
 |none=>rfl
 |some m=>rfl
theorem y8 (po ap ab:Option Addr) (pn pc an cp bn cb:Nat) (nm:ByteArray) (rt pl:Int) (src:Bool) (qb qo qn qc tr tb mb:Nat) (p:List Fun) (f:Fun) (w0 wM w:World) (k i:Nat) (xv:Value) {ub uo db dd uc dc:Nat} (hp:bK w0 p (.slice po pn pc)) (hpn:pn=p.length) (hpl:p.length≤1000000) (hrt:rt=f.2.2.1) (hbk:dy w0 f.2.2.2.1 (.slice ab bn cb)) (hbn:bn=f.2.2.2.1.length) (hT:L5.Tab w0)
  (hTr:jq wM (aD f) (aD f).length tr ub uo db dd uc dc) (hTo:Tos f) (h0:0 < f.2.2.2.1.length) (hR:dq f=true) (hy:∀a,tyL f a (bB f f.2.2.2.1.length 0)=(plF f a f.2.2.2.1.length 0).map (·.2.2)) (hck:aJ (au f k i)=0) (hphi:(au f k i).1=20→iI f k i=true)
  (hKx:uw (au f k i)) (hk:k < bn) (hS:S1 w0 wM f mb tb an f.2.2.2.1.length 0 w) (hx:lT w (au f k i) xv):
  Calls Tryz.prog 70 #[.agg #[.slice po pn pc,.string nm,.slice ap an cp,.int .i64 rt,.slice ab bn cb,.int .i64 pl,.bool src,.slice (some ⟨qb,qo,none⟩) qn qc,.pointer (some ⟨tr,0,none⟩),.map (some tb),.map (some mb)],.agg #[.int .i64 k,.int .i64 i],xv] w fun e w'=>e= .returned (.int .i64 (ez p f k i))∧Below w.heap.size w w':=by
 obtain⟨h1,h2,h3,h4⟩:=hS;have hkl:k < f.2.2.2.1.length:=by omega
 obtain⟨ao,to,ca,ct,rfl,s1,s2,_⟩:=hx;have hG:=fI hTo h0;have hcn:=nD hck;have hlook:ez p f k i=if cE p f (au f k i)≠0 then cE p f (au f k i)else(bw (fun n=>if gD p f k i n≠0 then some (gD p f k i n)else none) (au f k i).2.2.2.2.1.length).getD 0:=rfl
 have hin:(au f k i).1=20→∀n,n < (au f k i).2.2.2.2.1.length→n < (au f k i).2.2.2.2.2.1.length∧0≤(au f k i).2.2.2.2.2.1.getD n 0∧(au f k i).2.2.2.2.2.1.getD n 0 < f.2.2.2.1.length:=fun h20 n hn=>by
  have hlt:n < (au f k i).2.2.2.2.2.1.length:=by
   unfold eU at hcn;rw [if_pos h20] at hcn;simp at hcn;omega
  have hj:=hphi h20;rw [vu hkl,Bool.and_eq_true] at hj;refine⟨hlt,Fb hj.2 _ ?_⟩;rw [List.getD_eq_getElem?_getD,List.getElem?_eq_getElem hlt];exact List.getElem_mem hlt
 rw [hlook];refine xP po ap ab pn pc an cp bn cb nm rt pl src qb qo qn qc tr tb mb (au f k i).1 (au f k i).2.1 (au f k i).2.2.1 (au f k i).2.2.2.1 (au f k i).2.2.2.2.2.2.2 (au f k i).2.2.2.2.1 (au f k i).2.2.2.2.2.1 (bs (au f k i).2.2.2.2.2.2.1) ao to ca ct (k:Int) (i:Int) w (cE p f (au f k i)) (dC p f (au f k i)) (kD f k i) (gD p f k i) hKx.2.2.2.1 s1 ?_ ?_ ?_
 ·intro w' b;have hb:=h1.trans ⟨b.os,b.tape,b.output,b.size,fun j hj=>b.block j (Nat.lt_of_lt_of_le hj h1.size)⟩;exact yF po ap ab pn pc an cp bn cb nm rt pl src qb qo qn qc tr tb mb (au f k i).1 (au f k i).2.1 (au f k i).2.2.1 (au f k i).2.2.2.1 (au f k i).2.2.2.2.2.2.2 (au f k i).2.2.2.2.1 (au f k i).2.2.2.2.2.1 (bs (au f k i).2.2.2.2.2.2.1) ao to ca ct p f (au f k i).2.2.2.2.2.2.1 w' (hp.below hb) hpn hpl rfl hrt (hT.below hb) (au f k i) rfl hKx.2.2.2.1 hck
 ·intro n w' hn b;have hb:=h1.trans ⟨b.os,b.tape,b.output,b.size,fun j hj=>b.block j (Nat.lt_of_lt_of_le hj h1.size)⟩;by_cases h20:(au f k i).1=20
  ·obtain⟨q1,q2,q3⟩:=hin h20 n hn;have e:kD f k i n=((au f k i).2.2.2.2.2.1.getD n 0,((aG f ((au f k i).2.2.2.2.2.1.getD n 0).toNat).length:Int)):=(by unfold kD;rw [if_pos h20]);rw [e];refine FI po ap ab pn pc an cp bn cb nm rt pl src qb qo qn qc tr tb mb (au f k i).1 (au f k i).2.1 (au f k i).2.2.1 (au f k i).2.2.2.1 (au f k i).2.2.2.2.2.2.2 (au f k i).2.2.2.2.1 (au f k i).2.2.2.2.2.1 (bs (au f k i).2.2.2.2.2.2.1) ao to ca ct (k:Int) (i:Int) n _ _ w' q1 (s2.below b) rfl q2 (by omega) ?_ h20;intro w'' b2;obtain⟨g,o,aoo,acc,e1,e2,e3,e4⟩:=eD (k:=((au f k i).2.2.2.2.2.1.getD n 0).toNat) (hbn ▸ hbk) (by omega);have hb2:=hb.trans ⟨b2.os,b2.tape,b2.output,b2.size,fun j hj=>b2.block j (Nat.lt_of_lt_of_le hj hb.size)⟩;exact⟨g,o,aoo,acc,e1,(hb2.cell (p:=⟨g,o+((au f k i).2.2.2.2.2.1.getD n 0).toNat,none⟩) e2).trans e3⟩
  ·have e:kD f k i n=((k:Int),(i:Int)):=(by unfold kD;rw [if_neg h20]);rw [e];exact yc po ap ab pn pc an cp bn cb nm rt pl src qb qo qn qc tr tb mb (au f k i).1 (au f k i).2.1 (au f k i).2.2.1 (au f k i).2.2.2.1 (au f k i).2.2.2.2.2.2.2 (au f k i).2.2.2.2.1 (au f k i).2.2.2.2.2.1 (bs (au f k i).2.2.2.2.2.2.1) ao to ca ct (k:Int) (i:Int) (n:Int) w' h20
 ·intro n w' hn b;have hK':=h2.chg (Chg.bJ (B:=0) b (Nat.zero_le _));have hwf:Wf6 ((au f k i).2.2.2.2.1.getD n 0):=fJ (hKx.2.1 _ (by rw [List.getD_eq_getElem?_getD,List.getElem?_eq_getElem hn];exact List.getElem_mem hn));have h:=BG po ap ab pn pc an cp bn cb nm rt pl src qb qo qn qc tr tb mb ((au f k i).2.2.2.2.1.getD n 0) (dC p f (au f k i) n) (kD f k i n).1 (kD f k i n).2 w' hG (hK'.tree hTr) (bS.below h3 b) (bS.below h4 b) hwf;rw [Ga hy,LJ hTo h0 hR hkl (fun h20=>(hin h20 n hn).2)] at h;exact h
theorem I5 {c a:Int} {e:Int × Int} (h:atC c a=some e):e.1≠0:=by
 unfold atC at h;split at h
 ·cases h;assumption
 ·cases h
theorem J3 {c a:Int} (h:atC c a=none):c=0:=by
 unfold atC at h;split at h
 ·cases h
 ·rename_i hh;simpa using hh
theorem ny {f:Fun} {c:Nat→Nat→Int} (h:bw (fun k=>bw (fun i=>atC (c k i) (au f k i).2.2.2.2.2.2.2) (aG f k).length) f.2.2.2.1.length=none):∀k,k < f.2.2.2.1.length→∀i,i < (aG f k).length→c k i=0:=
 fun k hk i hi=>J3 (fe (fe h k hk) i hi)
theorem nA {f:Fun} {c:Nat→Nat→Int} {e:Int × Int} (h:bw (fun k=>bw (fun i=>atC (c k i) (au f k i).2.2.2.2.2.2.2) (aG f k).length) f.2.2.2.1.length=some e):e.1≠0∧∃k i,k < f.2.2.2.1.length∧i < (aG f k).length∧e.2=(au f k i).2.2.2.2.2.2.2:=by
 obtain⟨k,hk,h1,_⟩:=da h;obtain⟨i,hi,h2,_⟩:=da h1;refine⟨I5 h2,k,i,hk,hi,?_⟩;unfold atC at h2;split at h2
 ·cases h2;rfl
 ·cases h2
theorem tx {p:List Fun} {f:Fun} {src:Bool} (h:(dH p f src).1=0):(aH f).1=0∧dq f=true∧(∀k,k < f.2.2.2.1.length→∀i,i < (aG f k).length→cR f k i src=0)∧∀k,k < f.2.2.2.1.length→∀i,i < (aG f k).length→ez p f k i=0:=by
 unfold dH at h;split at h
 ·rename_i h1;exact absurd h h1
 ·rename_i h1;split at h
  ·simp at h
  ·rename_i h2
   cases hv:dZ f src with
   |some e=>rw [hv] at h;exact absurd h (nA hv).1
   |none=>
    rw [hv] at h
    cases hl:iZ p f with
    |some e=>rw [hl] at h;exact absurd h (nA hl).1
    |none=>exact⟨by simpa using h1,by simpa using h2,ny hv,ny hl⟩
theorem mM {p:List Fun} {src:Bool} (h:(bj p src).1=0):(wholeF 0 0 p).1=0∧(namesF p).1=0∧∀i,i < p.length→(dH p (aF p i) src).1=0:=by
 unfold bj at h;split at h
 ·rename_i h1;exact absurd h h1
 ·rename_i h1;split at h
  ·rename_i h2;exact absurd h h2
  ·rename_i h2;refine⟨by simpa using h1,by simpa using h2,fun i hi=> ?_⟩
   cases hf:bw (eG p src) p.length with
   |some e=>
    rw [hf] at h;obtain⟨K,_,h3,_⟩:=da hf;unfold eG at h3;split at h3
    ·rename_i h4;cases h3;exact absurd h h4
    ·cases h3
   |none=>
    have h3:=fe hf i hi;unfold eG at h3;split at h3
    ·cases h3
    ·rename_i h4;simpa using h4
def iV (p:List Fun):Bool:=decide (total p≤100) && p.all fun f=>decide (f.2.2.2.1.length≤12)
theorem kS (p:List Fun) (po:Option Addr) (pc:Nat) (w:World) (hp:bK w p (.slice po p.length pc)) (hl:p.length≤140737488355328) (hS:∀f∈p,ShF f):
  Calls Tryz.prog 7 #[.agg #[.slice po p.length pc]] w fun e w'=>e= .returned (.int .i64 (if iV p then 0 else 1))∧Below w.heap.size w w':=by
 have HL:Hid (iV p=(decide (total p≤100) && p.all fun f=>decide (f.2.2.2.1.length≤12))):=ae rfl;have CS:=ae (fun w' (b:Below w.heap.size w w')=>Cx p po pc w' (hp.below b) hl hS);have HRd:Hid (∀i,i < p.length→∃g o,po=some ⟨g,o,none⟩∧lS w (aF p i) g (o+i * 5)):=ae (fun i hi=>eh hp hi);have HSb:Hid (∀i,i < p.length→(aF p i).2.2.2.1.length≤maxLen):=ae (fun i hi=>by
  obtain⟨g,o,_,hfr⟩:=eh hp hi;obtain⟨_,vp,vb,_,_,⟨_,_,_,h1,h2,_⟩⟩:=hfr;exact Nat.le_trans h1 h2)
 have HMm:Hid (∀f∈p,∃i,i < p.length∧aF p i=f):=ae (fun f hf=>by
  obtain⟨i,hi⟩:=List.mem_iff_getElem?.1 hf;exact⟨i,(List.getElem?_eq_some_iff.1 hi).1,Aj hi⟩)
 have HMi:Hid (∀i,i < p.length→aF p i∈p):=ae (fun i hi=>List.mem_of_getElem? (eQ hi));clear hp hS;obtain⟨r,hr⟩:∃r,iV p=r:=⟨_,rfl⟩;rw [hr] at HL ⊢;clear hr;obtain⟨rv,HRv⟩:∃rv:Int,Hid ((if r then(0:Int)else 1)=rv):=⟨_,ae rfl⟩;rw [HRv.out];generalize hpn:p.length=pn at *;replace hpn:=ae hpn;have B0:=ae (ah w (.cells #[.slice po pn pc] 24));have H1:=ae (heap_alloc_new w (.cells #[.slice po pn pc] 24));go_enter Tryz.func7,Tryz.ntmps7
 go_upto_region 1 with fail
 show Code.wp _ _ _ _ (w.alloc (.cells #[.slice po pn pc] 24));generalize w.alloc (.cells #[.slice po pn pc] 24)=W at *;have hq0:w.heap.size < W.heap.size:=(aV H1.out).2;have c0:=(aV H1.out).1;have C1:=ae (CS.out W B0.out);go_wp2_with fail
 refine C1.out.mono ?_;rintro e w1 ⟨⟨n,rfl,hcn⟩,b1⟩;have BW1:=ae b1;clear C1 CS c0 b1;by_cases ht:total p≤100
 ·obtain rfl:n=total p:=by
   rcases hcn with h | h
   ·exact h
   ·omega
  have htI:¬(100:Int) < (total p:Int):=by omega
  have HL2:Hid (r=p.all fun f=>decide (f.2.2.2.1.length≤12)):=ae (by rw [HL.out,decide_eq_true ht];simp);clear hcn HL;generalize total p=tp at *;go_wp2_with fail
  go_loopw [3] (fun iv wr=>∃i:Nat,i≤pn∧iv= .int .i64 i∧Hid (∀j,j < i→(aF p j).2.2.2.1.length≤12)∧Hid (Below W.heap.size W wr)) (fun iv _=>pn - (intOf iv).toNat)
  case atStart=>exact⟨0,Nat.zero_le _,rfl,ae (fun j h=>absurd h (Nat.not_lt_zero _)),BW1⟩
  case round=>
   clear BW1;obtain⟨i,hi,rfl,HF,HW⟩:=hrel;have c0:=(HW.out.cell (p:=⟨w.heap.size,0,none⟩) hq0).trans (aV H1.out).1;have Bw:=ae (af B0.out HW.out);by_cases hit:i < pn
   ·have hiI:(i:Int) < pn:=(by omega);obtain⟨g,o,rfl,hfr⟩:=HRd.out i hit;obtain⟨_,bo,_,cb,_,_,_,_,d3,_⟩:=hfr.val;replace d3:=(Bw.out.cell (p:=⟨g,o+i * 5+3,none⟩) hfr.1).trans d3;have hbl:=HSb.out i hit;unfold maxLen at hbl;obtain⟨bn,hbn⟩:∃bn,(aF p i).2.2.2.1.length=bn:=⟨_,rfl⟩;rw [hbn] at d3 hbl;clear hfr;by_cases h12:bn≤12
    ·have h12I:¬(12:Int) < (bn:Int):=(by omega);have HF2:Hid (∀j,j < i+1→(aF p j).2.2.2.1.length≤12):=ae (fun j hj=>by
      by_cases e:j=i
      ·rw [e,hbn];exact h12
      ·exact HF.out j (by omega))
     clear hbn;go_wp2_with fail
     go_roundw
     case rel=>exact⟨i+1,by omega,by go_num,HF2,HW⟩
     case measure=>simp [intOf];omega
    ·have h12I:(12:Int) < (bn:Int):=(by omega);have HR:Hid ((1:Int)=rv):=ae (by
      have:r=false:=by
       rw [HL2.out,Bool.eq_false_iff];intro hall;have:=List.all_eq_true.1 hall _ (HMi.out i hit);rw [hbn] at this;simp at this;omega
      rw [←HRv.out,this];rfl)
     clear hbn;go_wp2_with fail
     go_ret;exact⟨bU HR.out,Bw.out⟩
   ·obtain rfl:i=pn:=(by omega);have HR:Hid ((0:Int)=rv):=ae (by
     have:r=true:=by
      rw [HL2.out];refine List.all_eq_true.2 fun f hf=> ?_;obtain⟨j,hj,rfl⟩:=HMm.out f hf;simpa using HF.out j hj
     rw [←HRv.out,this];rfl)
    go_wp2_with fail
    go_ret;exact⟨bU HR.out,Bw.out⟩
 ·have hn100:(100:Int) < (n:Int):=by
   rcases hcn with h | h <;> omega
  have HR:Hid ((1:Int)=rv):=ae (by rw [←HRv.out,HL.out,decide_eq_false ht];rfl);have HE:=ae (af B0.out BW1.out);clear hcn;go_wp2_with fail
  go_ret;exact⟨bU HR.out,HE.out⟩
end Go.Proofs.YtljkgcfnoegibaaGreatDoor
