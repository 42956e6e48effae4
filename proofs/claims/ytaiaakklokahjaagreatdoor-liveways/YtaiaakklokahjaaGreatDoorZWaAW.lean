/- Texts of one chain, joined. -/
import Derived.Test.YtaiaakklokahjaaGreatDoorZWaAV
set_option maxHeartbeats 3000000
set_option maxRecDepth 20000
namespace Go.Proofs.YtaiaakklokahjaaGreatDoor
open Go Go.RowKit
open G (Tok Er Ins Fun)
open Mix (Up)
def zz (w:World) (l:List Int) (v:Value):Prop:=∃g o u,v= .pointer (some ⟨g,o,none⟩)∧g < w.heap.size∧w.cell? ⟨g,o,none⟩=some u∧bT w l u
theorem zz.below {w w':World} {l:List Int} {v:Value} (h:zz w l v) (b:Below w.heap.size w w'):zz w' l v:=by
 obtain⟨g,o,u,e,hg,hc,hi⟩:=h;exact⟨g,o,u,e,Nat.lt_of_lt_of_le hg b.size,(b.cell (p:=⟨g,o,none⟩) hg).trans hc,hi.below b⟩
def Up.LM (l:List Int):Up:=⟨fun v w=>zz w l v,fun _ _ _ b h=>h.below b⟩
theorem eO {w:World} {ll:List (List Int)} {v:Value} {l:List Int} (h:jx w ll v) (hl:ll[0]? =some l):∃g o c u,v= .slice (some ⟨g,o,none⟩) ll.length c∧g < w.heap.size∧w.cell? ⟨g,o,none⟩=some u∧bT w l u:=by
 obtain⟨ao,c,rfl,hr,_,_⟩:=h;rcases hr with he | ⟨g,o,rfl,hg,hc⟩
 ·rw [he] at hl;simp at hl
 ·obtain⟨u,hu,hi⟩:=hc 0 l hl;exact⟨g,o,c,u,rfl,hg,hu,hi⟩
def Fc (fv bv:Value) (f:Fun) (l:List Int) (q lbs:Nat) (b1 b2:Bool) (t:Tmp):Up:=match t with
 |3 | 11=>Up.eq fv
 |4=>Up.ints (aE f)
 |5=>Up.eq (.int .i64 (aE f).length)
 |6=>Up.eq (.pointer (some ⟨q,3,none⟩))
 |7=>Up.eq bv
 |8=>Up.eq (.int .i64 lbs)
 |9 | 10=>Up.eq (.bool b1)
 |12=>Up.rows (aJ f)
 |13=>Up.LM l
 |14=>Up.ints l
 |15=>Up.eq (.int .i64 l.length)
 |16=>Up.eq (.bool b2)
 |17 | 2=>Up.eq (.bool (b1 && b2))
 |_=>Up.any
theorem rX (f:Fun) (v:Value) (w:World) (hv:bS w f v) (hF:Ful f) (hT:Tos f) (h0:0 < f.2.2.2.1.length):
  Calls Tryz.prog 90 #[v] w fun e w'=>e= .returned (.bool (fB f))∧Below w.heap.size w w':=by
 have HRb:Hid (fB f=(decide ((aE f).length=f.2.2.2.1.length) && decide (((aJ f).getD 0 []).length=0))):=aa rfl;have HCo:=aa (fun v w hv=>vJ f v w hv hF hT h0);have HCp:=aa (fun v w hv=>om f v w hv hF);obtain⟨l,hl⟩:∃l,(aJ f)[0]? =some l:=⟨_,List.getElem?_eq_getElem (by simp [aJ];exact h0)⟩;have hgd:(aJ f).getD 0 []=l:=by rw [List.getD_eq_getElem?_getD,hl];rfl
 have hpl:0 < (aJ f).length:=by simp [aJ];exact h0
 rw [hgd] at HRb;have HL:=aa hl;have hol:(aE f).length≤1000000:=Nat.le_trans (kG hT h0) hF.1;have hll:l.length≤1000000:=by
  have hm:=List.mem_of_getElem? hl;unfold aJ at hm;obtain⟨b,_,rfl⟩:=List.mem_map.1 hm;unfold aY;rw [List.length_map];exact Nat.le_trans (List.length_filter_le _ _) (by simp;exact hF.1)
 have hN:=hF.1;clear hF hT hgd hl;obtain⟨lp,cp,lb,cb,rfl,X,b0⟩:=dx hv;have HV:=aa (hv.below b0);have X0:=aa X;have B0:=aa b0;clear hv X b0;generalize bs f.1=nm at *;generalize f.2.1.length=lps at *;generalize f.2.2.1=rt at *;generalize hlbs:f.2.2.2.1.length=lbs at *;generalize f.2.2.2.2=pl at *;replace hlbs:=aa hlbs;go_enter Tryz.func90,Tryz.ntmps90
 go_upto_region 1 with fail
 show Code.wp _ _ _ _ (w.alloc (.cells #[.string nm,.slice lp lps cp,.int .i64 rt,.slice lb lbs cb,.int .i64 pl] 29));generalize w.alloc (.cells #[.string nm,.slice lp lps cp,.int .i64 rt,.slice lb lbs cb,.int .i64 pl] 29)=W at *;generalize hq:w.heap.size=q at *;have CO:∀w,Below W.heap.size W w→Calls Tryz.prog 133 #[(.agg #[.string nm,.slice lp lps cp,.int .i64 rt,.slice lb lbs cb,.int .i64 pl])] w fun e w'=>∃v,e= .returned v∧Below w.heap.size w w'∧bT w' (aE f) v:=fun w b=>(HCo.out _ w (HV.out.below b)).mono fun e w' ⟨u,he,h,b'⟩=>⟨_,he,b',fe h⟩;have CP:∀w,Below W.heap.size W w→Calls Tryz.prog 134 #[(.agg #[.string nm,.slice lp lps cp,.int .i64 rt,.slice lb lbs cb,.int .i64 pl])] w fun e w'=>∃v,e= .returned v∧Below w.heap.size w w'∧jx w' (aJ f) v:=fun w b=>HCp.out _ w (HV.out.below b);have CX:∃p w',Below W.heap.size W w'∧jx w' (aJ f) p:=by
  obtain⟨_,w3,v3,_,b3,h3⟩:=ft (CP W (Below.refl _ _));exact⟨v3,w3,b3,h3⟩
 have xs:=fun(w:World) (b:Below W.heap.size W w)=>And.intro ((X0.out.below b).2 0 _ rfl) (And.intro ((X0.out.below b).2 1 _ rfl) (And.intro ((X0.out.below b).2 2 _ rfl) (And.intro ((X0.out.below b).2 3 _ rfl) ((X0.out.below b).2 4 _ rfl))));by_cases ho:(aE f).length=lbs
 ·by_cases hz:l.length=0
  ·have HR:Hid ((true && true)=fB f):=aa (by rw [HRb.out,decide_eq_true ho,decide_eq_true hz]);have hob:(((aE f).length:Int) == (lbs:Int))=true:=beq_iff_eq.2 (by omega);have hzb:((l.length:Int) == 0)=true:=beq_iff_eq.2 (by omega);refine Mix.eV (Fc (.agg #[.string nm,.slice lp lps cp,.int .i64 rt,.slice lb lbs cb,.int .i64 pl]) (.slice lb lbs cb) f l q lbs true true) (by kernel_rfl) (by kernel_rfl) ?_;refine Mix.aj rfl (aq (.agg #[.string nm,.slice lp lps cp,.int .i64 rt,.slice lb lbs cb,.int .i64 pl]) rfl) ?_ ?_
   ·intro w b k;obtain⟨x0,x1,x2,x3,x4⟩:=xs w b;clear k;simp [go_sem,x0,x1,x2,x3,x4];exact⟨Below.refl _ _,fun d hd=>by cases hd;rfl⟩
   rintro v ⟨_,_,h⟩;obtain rfl:v=(.agg #[.string nm,.slice lp lps cp,.int .i64 rt,.slice lb lbs cb,.int .i64 pl]):=h _ rfl;clear h;simp only [Act.put,sU1,sU2,sU3];refine Mix.aj rfl (fu (CO W (Below.refl _ _))) ?_ ?_
   ·intro w b k;clear k;simp [go_sem];exact Calls.mono (CO w b) fun e w' ⟨v,he,hb,hf⟩=>⟨v,he,hb,fun d hd=>by cases hd;exact hf⟩
   rintro p4 -;simp only [Act.put,sU1,sU2,sU3];refine Mix.aj rfl (aq (.int .i64 (aE f).length) rfl) ?_ ?_
   ·intro w b k;have f4:bT w (aE f) p4:=k 4 (by decide +kernel) (by simp [Mix.add]) p4 rfl;obtain⟨so,sc,rfl,_,_,_⟩:=f4;clear k;simp [go_sem];exact⟨Below.refl _ _,fun d hd=>by cases hd;rfl⟩
   rintro v ⟨_,_,h⟩;obtain rfl:v=(.int .i64 (aE f).length):=h _ rfl;clear h;simp only [Act.put,sU1,sU2,sU3];refine Mix.aj rfl (aq (.pointer (some ⟨q,3,none⟩)) rfl) ?_ ?_
   ·intro w b k;clear k;simp [go_sem];exact⟨Below.refl _ _,fun d hd=>by cases hd;rfl⟩
   rintro v ⟨_,_,h⟩;obtain rfl:v=(.pointer (some ⟨q,3,none⟩)):=h _ rfl;clear h;simp only [Act.put,sU1,sU2,sU3];refine Mix.aj rfl (aq (.slice lb lbs cb) rfl) ?_ ?_
   ·intro w b k;obtain⟨x0,x1,x2,x3,x4⟩:=xs w b;clear k;simp [go_sem,x3];exact⟨Below.refl _ _,fun d hd=>by cases hd;rfl⟩
   rintro v ⟨_,_,h⟩;obtain rfl:v=(.slice lb lbs cb):=h _ rfl;clear h;simp only [Act.put,sU1,sU2,sU3];refine Mix.aj rfl (aq (.int .i64 lbs) rfl) ?_ ?_
   ·intro w b k;clear k;simp [go_sem];exact⟨Below.refl _ _,fun d hd=>by cases hd;rfl⟩
   rintro v ⟨_,_,h⟩;obtain rfl:v=(.int .i64 lbs):=h _ rfl;clear h;simp only [Act.put,sU1,sU2,sU3];refine Mix.aj rfl (aq (.bool true) rfl) ?_ ?_
   ·intro w b k;clear k;simp [go_sem,hob];exact⟨Below.refl _ _,fun d hd=>by cases hd;rfl⟩
   rintro v ⟨_,_,h⟩;obtain rfl:v=(.bool true):=h _ rfl;clear h;simp only [Act.put,sU1,sU2,sU3];refine Mix.aj rfl (aq (.bool true) rfl) ?_ ?_
   ·intro w b k;clear k;simp [go_sem];exact⟨Below.refl _ _,fun d hd=>by cases hd;rfl⟩
   rintro v ⟨_,_,h⟩;obtain rfl:v=(.bool true):=h _ rfl;clear h;simp only [Act.put,sU1,sU2,sU3];refine Mix.aj rfl (aq (.agg #[.string nm,.slice lp lps cp,.int .i64 rt,.slice lb lbs cb,.int .i64 pl]) rfl) ?_ ?_
   ·intro w b k;obtain⟨x0,x1,x2,x3,x4⟩:=xs w b;clear k;simp [go_sem,x0,x1,x2,x3,x4];exact⟨Below.refl _ _,fun d hd=>by cases hd;rfl⟩
   rintro v ⟨_,_,h⟩;obtain rfl:v=(.agg #[.string nm,.slice lp lps cp,.int .i64 rt,.slice lb lbs cb,.int .i64 pl]):=h _ rfl;clear h;simp only [Act.put,sU1,sU2,sU3];refine Mix.aj rfl (fu (CP W (Below.refl _ _))) ?_ ?_
   ·intro w b k;clear k;simp [go_sem];exact Calls.mono (CP w b) fun e w' ⟨v,he,hb,hf⟩=>⟨v,he,hb,fun d hd=>by cases hd;exact hf⟩
   rintro p12 -;simp only [Act.put,sU1,sU2,sU3];refine Mix.aj rfl (by
    obtain⟨pv,w',b,h⟩:=CX;obtain⟨g,o,c,u,_,hg,hu,hi⟩:=eO h HL.out;exact⟨.pointer (some ⟨g,o,none⟩),w',b,fun d hd=>by cases hd;exact⟨g,o,u,rfl,hg,hu,hi⟩⟩) ?_ ?_
   ·intro w b k;have f12:jx w (aJ f) p12:=k 12 (by decide +kernel) (by simp [Mix.add]) p12 rfl;obtain⟨g,o,c,u,rfl,hg,hu,hi⟩:=eO f12 HL.out;clear k;simp [go_sem,hpl];exact⟨Below.refl _ _,fun d hd=>by cases hd;exact⟨g,o,u,rfl,hg,hu,hi⟩⟩
   rintro p13 -;simp only [Act.put,sU1,sU2,sU3];refine Mix.aj rfl (by
    obtain⟨pv,w',b,h⟩:=CX;obtain⟨g,o,c,u,_,hg,hu,hi⟩:=eO h HL.out;exact⟨u,w',b,fun d hd=>by cases hd;exact hi⟩) ?_ ?_
   ·intro w b k;have f13:zz w l p13:=k 13 (by decide +kernel) (by simp [Mix.add]) p13 rfl;obtain⟨g,o,u,rfl,hg,hu,hi⟩:=f13;clear k;obtain⟨so,sc,rfl,hi2⟩:=id hi;simp [go_sem,hu];exact⟨Below.refl _ _,fun d hd=>by cases hd;exact hi⟩
   rintro p14 -;simp only [Act.put,sU1,sU2,sU3];refine Mix.aj rfl (aq (.int .i64 l.length) rfl) ?_ ?_
   ·intro w b k;have f14:bT w l p14:=k 14 (by decide +kernel) (by simp [Mix.add]) p14 rfl;obtain⟨so,sc,rfl,_,_,_⟩:=f14;clear k;simp [go_sem];exact⟨Below.refl _ _,fun d hd=>by cases hd;rfl⟩
   rintro v ⟨_,_,h⟩;obtain rfl:v=(.int .i64 l.length):=h _ rfl;clear h;simp only [Act.put,sU1,sU2,sU3];refine Mix.aj rfl (aq (.bool true) rfl) ?_ ?_
   ·intro w b k;clear k;simp [go_sem,hzb];exact⟨Below.refl _ _,fun d hd=>by cases hd;rfl⟩
   rintro v ⟨_,_,h⟩;obtain rfl:v=(.bool true):=h _ rfl;clear h;simp only [Act.put,sU1,sU2,sU3];refine Mix.aj rfl (aq (.bool (true && true)) rfl) ?_ ?_
   ·intro w b k;clear k;simp [go_sem];exact⟨Below.refl _ _,fun d hd=>by cases hd;rfl⟩
   rintro v ⟨_,_,h⟩;obtain rfl:v=(.bool (true && true)):=h _ rfl;clear h;simp only [Act.put,sU1,sU2,sU3];refine Mix.aj rfl (aq (.bool (true && true)) rfl) ?_ ?_
   ·intro w b k;clear k;simp [go_sem];exact⟨Below.refl _ _,fun d hd=>by cases hd;rfl⟩
   rintro v ⟨_,_,h⟩;obtain rfl:v=(.bool (true && true)):=h _ rfl;clear h;simp only [Act.put,sU1,sU2,sU3];refine Mix.iG ?_;intro w2 b2 hk;clear CO CP CX xs hk HCo HCp;have HE:Hid (Below w.heap.size w w2):=aa (by have h:=B0.out;rw [←hq] at h;exact ae h b2);go_wp2_with fail
   go_ret;exact⟨L5.aw HR.out,by first | exact HE.out | (rw [←hq];exact HE.out)⟩
  ·have HR:Hid ((true && false)=fB f):=aa (by rw [HRb.out,decide_eq_true ho,decide_eq_false hz]);have hob:(((aE f).length:Int) == (lbs:Int))=true:=beq_iff_eq.2 (by omega);have hzb:((l.length:Int) == 0)=false:=beq_eq_false_iff_ne.2 (by omega);refine Mix.eV (Fc (.agg #[.string nm,.slice lp lps cp,.int .i64 rt,.slice lb lbs cb,.int .i64 pl]) (.slice lb lbs cb) f l q lbs true false) (by kernel_rfl) (by kernel_rfl) ?_;refine Mix.aj rfl (aq (.agg #[.string nm,.slice lp lps cp,.int .i64 rt,.slice lb lbs cb,.int .i64 pl]) rfl) ?_ ?_
   ·intro w b k;obtain⟨x0,x1,x2,x3,x4⟩:=xs w b;clear k;simp [go_sem,x0,x1,x2,x3,x4];exact⟨Below.refl _ _,fun d hd=>by cases hd;rfl⟩
   rintro v ⟨_,_,h⟩;obtain rfl:v=(.agg #[.string nm,.slice lp lps cp,.int .i64 rt,.slice lb lbs cb,.int .i64 pl]):=h _ rfl;clear h;simp only [Act.put,sU1,sU2,sU3];refine Mix.aj rfl (fu (CO W (Below.refl _ _))) ?_ ?_
   ·intro w b k;clear k;simp [go_sem];exact Calls.mono (CO w b) fun e w' ⟨v,he,hb,hf⟩=>⟨v,he,hb,fun d hd=>by cases hd;exact hf⟩
   rintro p4 -;simp only [Act.put,sU1,sU2,sU3];refine Mix.aj rfl (aq (.int .i64 (aE f).length) rfl) ?_ ?_
   ·intro w b k;have f4:bT w (aE f) p4:=k 4 (by decide +kernel) (by simp [Mix.add]) p4 rfl;obtain⟨so,sc,rfl,_,_,_⟩:=f4;clear k;simp [go_sem];exact⟨Below.refl _ _,fun d hd=>by cases hd;rfl⟩
   rintro v ⟨_,_,h⟩;obtain rfl:v=(.int .i64 (aE f).length):=h _ rfl;clear h;simp only [Act.put,sU1,sU2,sU3];refine Mix.aj rfl (aq (.pointer (some ⟨q,3,none⟩)) rfl) ?_ ?_
   ·intro w b k;clear k;simp [go_sem];exact⟨Below.refl _ _,fun d hd=>by cases hd;rfl⟩
   rintro v ⟨_,_,h⟩;obtain rfl:v=(.pointer (some ⟨q,3,none⟩)):=h _ rfl;clear h;simp only [Act.put,sU1,sU2,sU3];refine Mix.aj rfl (aq (.slice lb lbs cb) rfl) ?_ ?_
   ·intro w b k;obtain⟨x0,x1,x2,x3,x4⟩:=xs w b;clear k;simp [go_sem,x3];exact⟨Below.refl _ _,fun d hd=>by cases hd;rfl⟩
   rintro v ⟨_,_,h⟩;obtain rfl:v=(.slice lb lbs cb):=h _ rfl;clear h;simp only [Act.put,sU1,sU2,sU3];refine Mix.aj rfl (aq (.int .i64 lbs) rfl) ?_ ?_
   ·intro w b k;clear k;simp [go_sem];exact⟨Below.refl _ _,fun d hd=>by cases hd;rfl⟩
   rintro v ⟨_,_,h⟩;obtain rfl:v=(.int .i64 lbs):=h _ rfl;clear h;simp only [Act.put,sU1,sU2,sU3];refine Mix.aj rfl (aq (.bool true) rfl) ?_ ?_
   ·intro w b k;clear k;simp [go_sem,hob];exact⟨Below.refl _ _,fun d hd=>by cases hd;rfl⟩
   rintro v ⟨_,_,h⟩;obtain rfl:v=(.bool true):=h _ rfl;clear h;simp only [Act.put,sU1,sU2,sU3];refine Mix.aj rfl (aq (.bool true) rfl) ?_ ?_
   ·intro w b k;clear k;simp [go_sem];exact⟨Below.refl _ _,fun d hd=>by cases hd;rfl⟩
   rintro v ⟨_,_,h⟩;obtain rfl:v=(.bool true):=h _ rfl;clear h;simp only [Act.put,sU1,sU2,sU3];refine Mix.aj rfl (aq (.agg #[.string nm,.slice lp lps cp,.int .i64 rt,.slice lb lbs cb,.int .i64 pl]) rfl) ?_ ?_
   ·intro w b k;obtain⟨x0,x1,x2,x3,x4⟩:=xs w b;clear k;simp [go_sem,x0,x1,x2,x3,x4];exact⟨Below.refl _ _,fun d hd=>by cases hd;rfl⟩
   rintro v ⟨_,_,h⟩;obtain rfl:v=(.agg #[.string nm,.slice lp lps cp,.int .i64 rt,.slice lb lbs cb,.int .i64 pl]):=h _ rfl;clear h;simp only [Act.put,sU1,sU2,sU3];refine Mix.aj rfl (fu (CP W (Below.refl _ _))) ?_ ?_
   ·intro w b k;clear k;simp [go_sem];exact Calls.mono (CP w b) fun e w' ⟨v,he,hb,hf⟩=>⟨v,he,hb,fun d hd=>by cases hd;exact hf⟩
   rintro p12 -;simp only [Act.put,sU1,sU2,sU3];refine Mix.aj rfl (by
    obtain⟨pv,w',b,h⟩:=CX;obtain⟨g,o,c,u,_,hg,hu,hi⟩:=eO h HL.out;exact⟨.pointer (some ⟨g,o,none⟩),w',b,fun d hd=>by cases hd;exact⟨g,o,u,rfl,hg,hu,hi⟩⟩) ?_ ?_
   ·intro w b k;have f12:jx w (aJ f) p12:=k 12 (by decide +kernel) (by simp [Mix.add]) p12 rfl;obtain⟨g,o,c,u,rfl,hg,hu,hi⟩:=eO f12 HL.out;clear k;simp [go_sem,hpl];exact⟨Below.refl _ _,fun d hd=>by cases hd;exact⟨g,o,u,rfl,hg,hu,hi⟩⟩
   rintro p13 -;simp only [Act.put,sU1,sU2,sU3];refine Mix.aj rfl (by
    obtain⟨pv,w',b,h⟩:=CX;obtain⟨g,o,c,u,_,hg,hu,hi⟩:=eO h HL.out;exact⟨u,w',b,fun d hd=>by cases hd;exact hi⟩) ?_ ?_
   ·intro w b k;have f13:zz w l p13:=k 13 (by decide +kernel) (by simp [Mix.add]) p13 rfl;obtain⟨g,o,u,rfl,hg,hu,hi⟩:=f13;clear k;obtain⟨so,sc,rfl,hi2⟩:=id hi;simp [go_sem,hu];exact⟨Below.refl _ _,fun d hd=>by cases hd;exact hi⟩
   rintro p14 -;simp only [Act.put,sU1,sU2,sU3];refine Mix.aj rfl (aq (.int .i64 l.length) rfl) ?_ ?_
   ·intro w b k;have f14:bT w l p14:=k 14 (by decide +kernel) (by simp [Mix.add]) p14 rfl;obtain⟨so,sc,rfl,_,_,_⟩:=f14;clear k;simp [go_sem];exact⟨Below.refl _ _,fun d hd=>by cases hd;rfl⟩
   rintro v ⟨_,_,h⟩;obtain rfl:v=(.int .i64 l.length):=h _ rfl;clear h;simp only [Act.put,sU1,sU2,sU3];refine Mix.aj rfl (aq (.bool false) rfl) ?_ ?_
   ·intro w b k;clear k;simp [go_sem,hzb];exact⟨Below.refl _ _,fun d hd=>by cases hd;rfl⟩
   rintro v ⟨_,_,h⟩;obtain rfl:v=(.bool false):=h _ rfl;clear h;simp only [Act.put,sU1,sU2,sU3];refine Mix.aj rfl (aq (.bool (true && false)) rfl) ?_ ?_
   ·intro w b k;clear k;simp [go_sem];exact⟨Below.refl _ _,fun d hd=>by cases hd;rfl⟩
   rintro v ⟨_,_,h⟩;obtain rfl:v=(.bool (true && false)):=h _ rfl;clear h;simp only [Act.put,sU1,sU2,sU3];refine Mix.aj rfl (aq (.bool (true && false)) rfl) ?_ ?_
   ·intro w b k;clear k;simp [go_sem];exact⟨Below.refl _ _,fun d hd=>by cases hd;rfl⟩
   rintro v ⟨_,_,h⟩;obtain rfl:v=(.bool (true && false)):=h _ rfl;clear h;simp only [Act.put,sU1,sU2,sU3];refine Mix.iG ?_;intro w2 b2 hk;clear CO CP CX xs hk HCo HCp;have HE:Hid (Below w.heap.size w w2):=aa (by have h:=B0.out;rw [←hq] at h;exact ae h b2);go_wp2_with fail
   go_ret;exact⟨L5.aw HR.out,by first | exact HE.out | (rw [←hq];exact HE.out)⟩
 ·have HR:Hid ((false && false)=fB f):=aa (by rw [HRb.out,decide_eq_false ho];simp);have hob:(((aE f).length:Int) == (lbs:Int))=false:=beq_eq_false_iff_ne.2 (by omega);refine Mix.eV (Fc (.agg #[.string nm,.slice lp lps cp,.int .i64 rt,.slice lb lbs cb,.int .i64 pl]) (.slice lb lbs cb) f l q lbs false false) (by kernel_rfl) (by kernel_rfl) ?_;refine Mix.aj rfl (aq (.agg #[.string nm,.slice lp lps cp,.int .i64 rt,.slice lb lbs cb,.int .i64 pl]) rfl) ?_ ?_
  ·intro w b k;obtain⟨x0,x1,x2,x3,x4⟩:=xs w b;clear k;simp [go_sem,x0,x1,x2,x3,x4];exact⟨Below.refl _ _,fun d hd=>by cases hd;rfl⟩
  rintro v ⟨_,_,h⟩;obtain rfl:v=(.agg #[.string nm,.slice lp lps cp,.int .i64 rt,.slice lb lbs cb,.int .i64 pl]):=h _ rfl;clear h;simp only [Act.put,sU1,sU2,sU3];refine Mix.aj rfl (fu (CO W (Below.refl _ _))) ?_ ?_
  ·intro w b k;clear k;simp [go_sem];exact Calls.mono (CO w b) fun e w' ⟨v,he,hb,hf⟩=>⟨v,he,hb,fun d hd=>by cases hd;exact hf⟩
  rintro p4 -;simp only [Act.put,sU1,sU2,sU3];refine Mix.aj rfl (aq (.int .i64 (aE f).length) rfl) ?_ ?_
  ·intro w b k;have f4:bT w (aE f) p4:=k 4 (by decide +kernel) (by simp [Mix.add]) p4 rfl;obtain⟨so,sc,rfl,_,_,_⟩:=f4;clear k;simp [go_sem];exact⟨Below.refl _ _,fun d hd=>by cases hd;rfl⟩
  rintro v ⟨_,_,h⟩;obtain rfl:v=(.int .i64 (aE f).length):=h _ rfl;clear h;simp only [Act.put,sU1,sU2,sU3];refine Mix.aj rfl (aq (.pointer (some ⟨q,3,none⟩)) rfl) ?_ ?_
  ·intro w b k;clear k;simp [go_sem];exact⟨Below.refl _ _,fun d hd=>by cases hd;rfl⟩
  rintro v ⟨_,_,h⟩;obtain rfl:v=(.pointer (some ⟨q,3,none⟩)):=h _ rfl;clear h;simp only [Act.put,sU1,sU2,sU3];refine Mix.aj rfl (aq (.slice lb lbs cb) rfl) ?_ ?_
  ·intro w b k;obtain⟨x0,x1,x2,x3,x4⟩:=xs w b;clear k;simp [go_sem,x3];exact⟨Below.refl _ _,fun d hd=>by cases hd;rfl⟩
  rintro v ⟨_,_,h⟩;obtain rfl:v=(.slice lb lbs cb):=h _ rfl;clear h;simp only [Act.put,sU1,sU2,sU3];refine Mix.aj rfl (aq (.int .i64 lbs) rfl) ?_ ?_
  ·intro w b k;clear k;simp [go_sem];exact⟨Below.refl _ _,fun d hd=>by cases hd;rfl⟩
  rintro v ⟨_,_,h⟩;obtain rfl:v=(.int .i64 lbs):=h _ rfl;clear h;simp only [Act.put,sU1,sU2,sU3];refine Mix.aj rfl (aq (.bool false) rfl) ?_ ?_
  ·intro w b k;clear k;simp [go_sem,hob];exact⟨Below.refl _ _,fun d hd=>by cases hd;rfl⟩
  rintro v ⟨_,_,h⟩;obtain rfl:v=(.bool false):=h _ rfl;clear h;simp only [Act.put,sU1,sU2,sU3];refine Mix.aj rfl (aq (.bool false) rfl) ?_ ?_
  ·intro w b k;clear k;simp [go_sem];exact⟨Below.refl _ _,fun d hd=>by cases hd;rfl⟩
  rintro v ⟨_,_,h⟩;obtain rfl:v=(.bool false):=h _ rfl;clear h;simp only [Act.put,sU1,sU2,sU3];refine Mix.ia rfl ?_;simp only [Act.put,sU1,sU2,sU3];refine Mix.ia rfl ?_;simp only [Act.put,sU1,sU2,sU3];refine Mix.ia rfl ?_;simp only [Act.put,sU1,sU2,sU3];refine Mix.ia rfl ?_;simp only [Act.put,sU1,sU2,sU3];refine Mix.ia rfl ?_;simp only [Act.put,sU1,sU2,sU3];refine Mix.ia rfl ?_;simp only [Act.put,sU1,sU2,sU3];refine Mix.aj rfl (aq (.bool (false && false)) rfl) ?_ ?_
  ·intro w b k;clear k;simp [go_sem];exact⟨Below.refl _ _,fun d hd=>by cases hd;rfl⟩
  rintro v ⟨_,_,h⟩;obtain rfl:v=(.bool (false && false)):=h _ rfl;clear h;simp only [Act.put,sU1,sU2,sU3];refine Mix.aj rfl (aq (.bool (false && false)) rfl) ?_ ?_
  ·intro w b k;clear k;simp [go_sem];exact⟨Below.refl _ _,fun d hd=>by cases hd;rfl⟩
  rintro v ⟨_,_,h⟩;obtain rfl:v=(.bool (false && false)):=h _ rfl;clear h;simp only [Act.put,sU1,sU2,sU3];refine Mix.iG ?_;intro w2 b2 hk;clear CO CP CX xs hk HCo HCp;have HE:Hid (Below w.heap.size w w2):=aa (by have h:=B0.out;rw [←hq] at h;exact ae h b2);go_wp2_with fail
  go_ret;exact⟨L5.aw HR.out,by first | exact HE.out | (rw [←hq];exact HE.out)⟩
def BO (B:Nat) (w:World) (v:Value):Prop:=∃b,v= .pointer (some ⟨b,0,none⟩)∧B≤b∧w.heap[b]? =some (.cells #[.int .i64 0,.int .i64 0,.int .i64 0,.bool false] 164 (0,0))
theorem BO.below {B:Nat} {w w':World} {v:Value} (h:BO B w v) (b:Below w.heap.size w w'):BO B w' v:=by
 obtain⟨q,e,hb,hq⟩:=h;exact⟨q,e,hb,(b.block q (Array.getElem?_eq_some_iff.1 hq).1).trans hq⟩
def Up.Mb (B:Nat):Up:=⟨fun v w=>BO B w v,fun _ _ _ b h=>h.below b⟩
def Kk (fv mv av bv pv:Value) (q3 q1 n lbs B:Nat) (a:Int) (t:Tmp):Up:=match t with
 |23=>Up.eq fv
 |24=>Up.eq (.pointer (some ⟨q3,4,none⟩))
 |25=>Up.eq av
 |26=>Up.eq (.int .i64 n)
 |27=>Up.eq pv
 |28=>Up.eq (.int .i64 a)
 |29=>Up.eq (.pointer (some ⟨q1,3,none⟩))
 |30=>Up.eq bv
 |31=>Up.eq (.int .i64 lbs)
 |32=>Up.eq mv
 |14=>Up.Mb B
 |_=>Up.any
theorem A9 (p:List Fun) (f:Fun) (k i n:Nat) (po:Option Addr) (pc:Nat) (fv tv:Value) (w:World) (hp:eg w p (.slice po p.length pc)) (hl:p.length≤1000000) (hv:bS w f fv) (hM:Mod f) (hg:Gr (aC f)) (ht:vT w (aC f) tv)
  (hk:k < f.2.2.2.1.length) (hi:i < (ag f k).length) (hn:n < (au f k i).2.2.2.2.1.length) (hW:px p (au f k i) n) (hTo:(au f k i).1=20→n < (au f k i).2.2.2.2.2.1.length):
  Calls Tryz.prog 94 #[.agg #[.slice po p.length pc],fv,tv,.int .i64 k,.int .i64 i,.int .i64 n] w fun e w'=>e= .returned (.int .i64 (fw p f k i n))∧Below w.heap.size w w':=by
 have HTk:Hid (fw p f k i n=if(dV f ((au f k i).2.2.2.2.1.getD n 0) f.2.2.2.1.length 0).2.2.2=false then 8 else if(dV f ((au f k i).2.2.2.2.1.getD n 0) f.2.2.2.1.length 0).2.2.1≠fh p f (au f k i) n then 9 else if(dV f ((au f k i).2.2.2.2.1.getD n 0) f.2.2.2.1.length 0).2.1 < 0 then 0
  else if(au f k i).1=20 then(if cx (aC f) (dV f ((au f k i).2.2.2.2.1.getD n 0) f.2.2.2.1.length 0).1 ((au f k i).2.2.2.2.2.1.getD n 0)then 0 else 10)
  else if(decide ((dV f ((au f k i).2.2.2.2.1.getD n 0) f.2.2.2.1.length 0).1=k) && decide ((i:Int)≤(dV f ((au f k i).2.2.2.2.1.getD n 0) f.2.2.2.1.length 0).2.1))=true then 10 else if(decide ((dV f ((au f k i).2.2.2.2.1.getD n 0) f.2.2.2.1.length 0).1≠k) && !cx (aC f) (dV f ((au f k i).2.2.2.2.1.getD n 0) f.2.2.2.1.length 0).1 k)=true then 10 else 0):=aa rfl
 have HWt:=aa (fun(x:Ins) (xv:Value) w' (b:Below w.heap.size w w') (hx:ib w' x xv) (hk:px p x n)=>Bt p f x n po pc fv xv w' (hp.below b) hl (hv.below b) hx hk);have HAh:=aa (fun(c d:Int) w' (b:Below w.heap.size w w')=>xO (aC f) c d tv w' (ht.below b) hg);have HMd:=aa (fun w' (b:Below w.heap.size w w') a=>qL f a f.2.2.2.1.length 0 _ w' (hv.below b) hM hM.1 (by omega));have HP:=aa hp;have HV:=aa hv;have HTt:=aa ht;obtain⟨lp,cp,lb,cb,rfl,X,b0⟩:=dx hv;have HRd:Hid (∃g o ao c g2 o2,lb=some ⟨g,o,none⟩∧g < w.heap.size∧w.cell? ⟨g,o+k,none⟩=some (.slice ao (ag f k).length c)∧ao=some ⟨g2,o2,none⟩∧nF w (au f k i) g2 (o2+i * 8)):=aa (by
  obtain⟨g,o,ao,c,h1,h2,h3,h4⟩:=eD (ff hv) hk;obtain⟨g2,o2,h5,h6⟩:=dy h4 hi;exact⟨g,o,ao,c,g2,o2,h1,h2,h3,h5,h6⟩)
 have hkI:(k:Int) < f.2.2.2.1.length:=by omega
 have hiI:(i:Int) < (ag f k).length:=by omega
 have hbn:=hM.blk k;have hN:=hM.1;obtain⟨g,o,ao,c,g2,o2,rfl,hgl,cu,rfl,hins⟩:=HRd.out;obtain⟨xo,zo,xc,zc,hxv,e0,e1,e2,e3,e4,e5,e6,e7⟩:=hins.val;have hg2:=hins.1;obtain⟨x,hx⟩:∃x,au f k i=x:=⟨_,rfl⟩;rw [hx] at e0 e1 e2 e3 e4 e5 e6 e7 hxv hn hW hTo HTk;clear hv ht X b0 hins HRd hp hx;generalize hnm:bs f.1=nm at *;generalize hlps:f.2.1.length=lps at *;generalize hrt:f.2.2.1=rt at *;generalize hlbs:f.2.2.2.1.length=lbs at *;generalize hpl:f.2.2.2.2=pl at *;generalize hpn:p.length=pn at *;have b1:=af w (.cells #[.slice po pn pc] 24);have h1:=heap_alloc_new w (.cells #[.slice po pn pc] 24);have b2:=af (w.alloc (.cells #[.slice po pn pc] 24)) (.cells #[.string nm,.slice lp lps cp,.int .i64 rt,.slice (some ⟨g,o,none⟩) lbs cb,.int .i64 pl] 29);have X1:=L5.Box.new (w.alloc (.cells #[.slice po pn pc] 24)) [.string nm,.slice lp lps cp,.int .i64 rt,.slice (some ⟨g,o,none⟩) lbs cb,.int .i64 pl] 29;have hs1:(w.alloc (.cells #[.slice po pn pc] 24)).heap.size=w.heap.size+1:=by simp
 rw [hs1] at X1;have H1:=aa ((b2.block w.heap.size (by simp)).trans h1);have X0:Hid (L5.Box ((w.alloc (.cells #[.slice po pn pc] 24)).alloc (.cells #[.string nm,.slice lp lps cp,.int .i64 rt,.slice (some ⟨g,o,none⟩) lbs cb,.int .i64 pl] 29)) (w.heap.size+1) [.string nm,.slice lp lps cp,.int .i64 rt,.slice (some ⟨g,o,none⟩) lbs cb,.int .i64 pl]):=aa X1;have B0:=aa (ae b1 b2);clear b1 h1 b2 X1 hs1 hnm hlps hrt hpl;go_enter Tryz.func94,Tryz.ntmps94
 go_upto_region 1 with fail
 show Code.wp _ _ _ _ ((w.alloc (.cells #[.slice po pn pc] 24)).alloc (.cells #[.string nm,.slice lp lps cp,.int .i64 rt,.slice (some ⟨g,o,none⟩) lbs cb,.int .i64 pl] 29));generalize (w.alloc (.cells #[.slice po pn pc] 24)).alloc (.cells #[.string nm,.slice lp lps cp,.int .i64 rt,.slice (some ⟨g,o,none⟩) lbs cb,.int .i64 pl] 29)=W at *;obtain⟨x0,x1,x2,x3,x4⟩:_∧_∧_∧_∧_:=⟨X0.out.2 0 _ rfl,X0.out.2 1 _ rfl,X0.out.2 2 _ rfl,X0.out.2 3 _ rfl,X0.out.2 4 _ rfl⟩;replace cu:=(B0.out.cell (p:=⟨g,o+k,none⟩) hgl).trans cu;replace e0:=(B0.out.cell (p:=⟨g2,o2+i * 8,none⟩) hg2).trans e0;replace e1:=(B0.out.cell (p:=⟨g2,o2+i * 8+1,none⟩) hg2).trans e1;replace e2:=(B0.out.cell (p:=⟨g2,o2+i * 8+2,none⟩) hg2).trans e2;replace e3:=(B0.out.cell (p:=⟨g2,o2+i * 8+3,none⟩) hg2).trans e3;replace e4:=(B0.out.cell (p:=⟨g2,o2+i * 8+4,none⟩) hg2).trans e4;replace e5:=(B0.out.cell (p:=⟨g2,o2+i * 8+5,none⟩) hg2).trans e5;replace e6:=(B0.out.cell (p:=⟨g2,o2+i * 8+6,none⟩) hg2).trans e6;replace e7:=(B0.out.cell (p:=⟨g2,o2+i * 8+7,none⟩) hg2).trans e7;go_upto_region 2 with fail
 show Code.wp _ _ _ _ (W.alloc (.cells #[.int .i64 x.1,.int .i64 x.2.1,.int .i64 x.2.2.1,.int .i64 x.2.2.2.1,.slice xo x.2.2.2.2.1.length xc,.slice zo x.2.2.2.2.2.1.length zc,.string (bs x.2.2.2.2.2.2.1),.int .i64 x.2.2.2.2.2.2.2] 41));have b3:=af W (.cells #[.int .i64 x.1,.int .i64 x.2.1,.int .i64 x.2.2.1,.int .i64 x.2.2.2.1,.slice xo x.2.2.2.2.1.length xc,.slice zo x.2.2.2.2.2.1.length zc,.string (bs x.2.2.2.2.2.2.1),.int .i64 x.2.2.2.2.2.2.2] 41);have Y0:=aa (L5.Box.new W [.int .i64 x.1,.int .i64 x.2.1,.int .i64 x.2.2.1,.int .i64 x.2.2.2.1,.slice xo x.2.2.2.2.1.length xc,.slice zo x.2.2.2.2.2.1.length zc,.string (bs x.2.2.2.2.2.2.1),.int .i64 x.2.2.2.2.2.2.2] 41);replace Y0:Hid (L5.Box (W.alloc (.cells #[.int .i64 x.1,.int .i64 x.2.1,.int .i64 x.2.2.1,.int .i64 x.2.2.2.1,.slice xo x.2.2.2.2.1.length xc,.slice zo x.2.2.2.2.2.1.length zc,.string (bs x.2.2.2.2.2.2.1),.int .i64 x.2.2.2.2.2.2.2] 41)) W.heap.size [.int .i64 x.1,.int .i64 x.2.1,.int .i64 x.2.2.1,.int .i64 x.2.2.2.1,.slice xo x.2.2.2.2.1.length xc,.slice zo x.2.2.2.2.2.1.length zc,.string (bs x.2.2.2.2.2.2.1),.int .i64 x.2.2.2.2.2.2.2]):=Y0;have X3:=aa (X0.out.below b3);have H3:=aa ((b3.block _ (bC H1.out).2).trans H1.out);have B3:=aa (ae B0.out b3);clear e0 e1 e2 e3 e4 e5 e6 e7 cu x0 x1 x2 x3 x4 b3 X0 H1 B0;generalize W.alloc (.cells #[.int .i64 x.1,.int .i64 x.2.1,.int .i64 x.2.2.1,.int .i64 x.2.2.2.1,.slice xo x.2.2.2.2.1.length xc,.slice zo x.2.2.2.2.2.1.length zc,.string (bs x.2.2.2.2.2.2.1),.int .i64 x.2.2.2.2.2.2.2] 41)=w3 at *;generalize W.heap.size=q3 at *;obtain⟨x0,x1,x2,x3,x4⟩:_∧_∧_∧_∧_:=⟨X3.out.2 0 _ rfl,X3.out.2 1 _ rfl,X3.out.2 2 _ rfl,X3.out.2 3 _ rfl,X3.out.2 4 _ rfl⟩;obtain⟨y0,y1,y2,y3,y4,y5,y6,y7⟩:_∧_∧_∧_∧_∧_∧_∧_:=⟨Y0.out.2 0 _ rfl,Y0.out.2 1 _ rfl,Y0.out.2 2 _ rfl,Y0.out.2 3 _ rfl,Y0.out.2 4 _ rfl,Y0.out.2 5 _ rfl,Y0.out.2 6 _ rfl,Y0.out.2 7 _ rfl⟩;have HXv3:=aa (hxv.below B3.out);have hnI:(n:Int) < x.2.2.2.2.1.length:=by omega
 obtain⟨a,ha⟩:∃a,x.2.2.2.2.1[n]? =some a:=⟨_,List.getElem?_eq_getElem hn⟩;obtain⟨ab,aof,rfl,hab,hac⟩:∃ab aof,xo=some ⟨ab,aof,none⟩∧ab < w.heap.size∧w.cell? ⟨ab,aof+n,none⟩=some (.int .i64 a):=by
  obtain⟨a1,a2,a3,a4,e,h1,_⟩:=hxv;injection e with e;have e1:=congrArg (fun a=>a[4]?) e;simp at e1;obtain⟨rfl,rfl⟩:=e1;rcases h1 with he | ⟨ab,aof,rfl,hb,hc⟩
  ·rw [he] at ha;simp at ha
  ·exact⟨ab,aof,rfl,hb,hc n a ha⟩
 have ca:=(B3.out.cell (p:=⟨ab,aof+n,none⟩) hab).trans hac;have HM:=aa (HMd.out);have hxs:x.2.2.2.2.1.length≤maxLen:=by
  obtain⟨a1,a2,a3,a4,e,_,_,h3,h4,_⟩:=hxv;exact Nat.le_trans h3 h4
 unfold maxLen at hxs;clear hac HMd;unfold Jc at HM;obtain⟨m,hm⟩:∃m,dV f a lbs 0=m:=⟨_,rfl⟩;have HM1:=aa (fun w' b=>HM.out w' (ae B3.out b) a);have hga:x.2.2.2.2.1.getD n 0=a:=by rw [List.getD_eq_getElem?_getD,ha];rfl
 rw [hga,hm] at HTk;rw [hm] at HM1;clear HM hm hga ha;have xs:=fun(w:World) (b:Below w3.heap.size w3 w)=>And.intro ((X3.out.below b).2 0 _ rfl) (And.intro ((X3.out.below b).2 1 _ rfl) (And.intro ((X3.out.below b).2 2 _ rfl) (And.intro ((X3.out.below b).2 3 _ rfl) ((X3.out.below b).2 4 _ rfl))));have y4s:=fun(w:World) (b:Below w3.heap.size w3 w)=>(Y0.out.below b).2 4 _ rfl;have cas:=fun(w:World) (b:Below w3.heap.size w3 w)=>(b.cell (p:=⟨ab,aof+n,none⟩) (Nat.lt_of_lt_of_le hab B3.out.size)).trans ca;clear ca x0 x1 x2 x3 x4 y0 y1 y2 y3 y4 y5 y6 y7;refine Mix.jB (Kk (.agg #[.string nm,.slice lp lps cp,.int .i64 rt,.slice (some ⟨g,o,none⟩) lbs cb,.int .i64 pl]) (.agg #[.int .i64 m.1,.int .i64 m.2.1,.int .i64 m.2.2.1,.bool m.2.2.2]) (.slice (some ⟨ab,aof,none⟩) x.2.2.2.2.1.length xc) (.slice (some ⟨g,o,none⟩) lbs cb) (.pointer (some ⟨ab,aof+n,none⟩)) q3 (w.heap.size+1) n lbs w3.heap.size a) 11 _ rfl rfl (by kernel_rfl) (by kernel_rfl) (by kernel_rfl) ?_;refine Mix.aj rfl (aq (.agg #[.string nm,.slice lp lps cp,.int .i64 rt,.slice (some ⟨g,o,none⟩) lbs cb,.int .i64 pl]) rfl) ?_ ?_
 ·intro w b k;obtain⟨x0,x1,x2,x3,x4⟩:=xs w b;clear k;simp [go_sem,x0,x1,x2,x3,x4];exact⟨Below.refl _ _,fun d hd=>by cases hd;rfl⟩
 rintro v ⟨_,_,h⟩;obtain rfl:v=(.agg #[.string nm,.slice lp lps cp,.int .i64 rt,.slice (some ⟨g,o,none⟩) lbs cb,.int .i64 pl]):=h _ rfl;clear h;simp only [Act.put,sU1,sU2,sU3];refine Mix.aj rfl (aq (.pointer (some ⟨q3,4,none⟩)) rfl) ?_ ?_
 ·intro w b k;clear k;simp [go_sem];exact⟨Below.refl _ _,fun d hd=>by cases hd;rfl⟩
 rintro v ⟨_,_,h⟩;obtain rfl:v=(.pointer (some ⟨q3,4,none⟩)):=h _ rfl;clear h;simp only [Act.put,sU1,sU2,sU3];refine Mix.aj rfl (aq (.slice (some ⟨ab,aof,none⟩) x.2.2.2.2.1.length xc) rfl) ?_ ?_
 ·intro w b k;have y4:=y4s w b;clear k;simp [go_sem,y4];exact⟨Below.refl _ _,fun d hd=>by cases hd;rfl⟩
 rintro v ⟨_,_,h⟩;obtain rfl:v=(.slice (some ⟨ab,aof,none⟩) x.2.2.2.2.1.length xc):=h _ rfl;clear h;simp only [Act.put,sU1,sU2,sU3];refine Mix.aj rfl (aq (.int .i64 n) rfl) ?_ ?_
 ·intro w b k;clear k;simp [go_sem];exact⟨Below.refl _ _,fun d hd=>by cases hd;rfl⟩
 rintro v ⟨_,_,h⟩;obtain rfl:v=(.int .i64 n):=h _ rfl;clear h;simp only [Act.put,sU1,sU2,sU3];refine Mix.aj rfl (aq (.pointer (some ⟨ab,aof+n,none⟩)) rfl) ?_ ?_
 ·intro w b k;clear k;simp [go_sem,hnI];exact⟨Below.refl _ _,fun d hd=>by cases hd;rfl⟩
 rintro v ⟨_,_,h⟩;obtain rfl:v=(.pointer (some ⟨ab,aof+n,none⟩)):=h _ rfl;clear h;simp only [Act.put,sU1,sU2,sU3];refine Mix.aj rfl (aq (.int .i64 a) rfl) ?_ ?_
 ·intro w b k;have ca:=cas w b;clear k;simp [go_sem,ca];exact⟨Below.refl _ _,fun d hd=>by cases hd;rfl⟩
 rintro v ⟨_,_,h⟩;obtain rfl:v=(.int .i64 a):=h _ rfl;clear h;simp only [Act.put,sU1,sU2,sU3];refine Mix.aj rfl (aq (.pointer (some ⟨w.heap.size+1,3,none⟩)) rfl) ?_ ?_
 ·intro w b k;clear k;simp [go_sem];exact⟨Below.refl _ _,fun d hd=>by cases hd;rfl⟩
 rintro v ⟨_,_,h⟩;obtain rfl:v=(.pointer (some ⟨w.heap.size+1,3,none⟩)):=h _ rfl;clear h;simp only [Act.put,sU1,sU2,sU3];refine Mix.aj rfl (aq (.slice (some ⟨g,o,none⟩) lbs cb) rfl) ?_ ?_
 ·intro w b k;obtain⟨x0,x1,x2,x3,x4⟩:=xs w b;clear k;simp [go_sem,x3];exact⟨Below.refl _ _,fun d hd=>by cases hd;rfl⟩
 rintro v ⟨_,_,h⟩;obtain rfl:v=(.slice (some ⟨g,o,none⟩) lbs cb):=h _ rfl;clear h;simp only [Act.put,sU1,sU2,sU3];refine Mix.aj rfl (aq (.int .i64 lbs) rfl) ?_ ?_
 ·intro w b k;clear k;simp [go_sem];exact⟨Below.refl _ _,fun d hd=>by cases hd;rfl⟩
 rintro v ⟨_,_,h⟩;obtain rfl:v=(.int .i64 lbs):=h _ rfl;clear h;simp only [Act.put,sU1,sU2,sU3];refine Mix.aj rfl (aq (.agg #[.int .i64 m.1,.int .i64 m.2.1,.int .i64 m.2.2.1,.bool m.2.2.2]) rfl) ?_ ?_
 ·intro w b k;clear k;simp [go_sem];exact Calls.mono (HM1.out w b) fun e w' ⟨he,hb⟩=>⟨_,he,hb,fun d hd=>by cases hd;rfl⟩
 rintro v ⟨_,_,h⟩;obtain rfl:v=(.agg #[.int .i64 m.1,.int .i64 m.2.1,.int .i64 m.2.2.1,.bool m.2.2.2]):=h _ rfl;clear h;simp only [Act.put,sU1,sU2,sU3];refine Mix.aj rfl ⟨.pointer (some ⟨w3.heap.size,0,none⟩),_,af w3 (.cells #[.int .i64 0,.int .i64 0,.int .i64 0,.bool false] 164),fun d hd=>by cases hd;exact⟨_,rfl,Nat.le_refl _,heap_alloc_new _ _⟩⟩ ?_ ?_
 ·intro w b k;clear k;simp [go_sem];exact⟨af _ _,fun d hd=>by cases hd;exact⟨_,rfl,b.size,heap_alloc_new _ _⟩⟩
 rintro p14 -;simp only [Act.put,sU1,sU2,sU3];refine Mix.iG ?_;intro w4 b4 hk;obtain⟨q4,rfl,hqB,hq4⟩:BO w3.heap.size w4 p14:=hk 14 (by simp [Mix.add]) p14 rfl;clear hk;refine⟨rfl,fun K hK=> ?_⟩;obtain⟨⟨z0,z1,z2,z3⟩,⟨f0,f1,f2,f3⟩,_⟩:=j4 hq4;unfold Oper.wp;simp [go_sem,z0,z1,z2,z3,f0,f1,f2,f3];refine hK _ _ ?_;have HZ5:Hid (((((w4.setCell ⟨q4,0,none⟩ (.int .i64 m.1)).setCell ⟨q4,1,none⟩ (.int .i64 m.2.1)).setCell ⟨q4,2,none⟩ (.int .i64 m.2.2.1)).setCell ⟨q4,3,none⟩ (.bool m.2.2.2)).heap[q4]? =some (.cells #[.int .i64 m.1,.int .i64 m.2.1,.int .i64 m.2.2.1,.bool m.2.2.2] 164 (0,0))):=aa (by
  rw [heap_setCell_same _ q4 3 _ 164 _ ((heap_setCell_same _ q4 2 _ 164 _ ((heap_setCell_same _ q4 1 _ 164 _ ((heap_setCell_same w4 q4 0 _ 164 _ hq4).trans rfl)).trans rfl)).trans rfl)];rfl)
 have B35:Hid (Below w3.heap.size w3 ((((w4.setCell ⟨q4,0,none⟩ (.int .i64 m.1)).setCell ⟨q4,1,none⟩ (.int .i64 m.2.1)).setCell ⟨q4,2,none⟩ (.int .i64 m.2.2.1)).setCell ⟨q4,3,none⟩ (.bool m.2.2.2))):=aa ((((b4.setCell (p:=⟨q4,0,none⟩) hqB _).setCell (p:=⟨q4,1,none⟩) hqB _).setCell (p:=⟨q4,2,none⟩) hqB _).setCell (p:=⟨q4,3,none⟩) hqB _);generalize ((((w4.setCell ⟨q4,0,none⟩ (.int .i64 m.1)).setCell ⟨q4,1,none⟩ (.int .i64 m.2.1)).setCell ⟨q4,2,none⟩ (.int .i64 m.2.2.1)).setCell ⟨q4,3,none⟩ (.bool m.2.2.2))=w5 at *;clear hK z0 z1 z2 z3 f0 f1 f2 f3 hq4 b4 xs y4s cas HM1;have Bw5:=aa (ae B3.out B35.out);have Y5:=aa (Y0.out.below B35.out);have X5:=aa (X3.out.below B35.out);have H5:=aa ((B35.out.block _ (bC H3.out).2).trans H3.out);have HXv5:=aa (HXv3.out.below B35.out);have hq0:w.heap.size < w5.heap.size:=(bC H5.out).2;have hTs:x.1=20→∃tb tof u,zo=some ⟨tb,tof,none⟩∧tb < w.heap.size∧w.cell? ⟨tb,tof+n,none⟩=some (.int .i64 u)∧x.2.2.2.2.2.1.getD n 0=u:=fun h20=>by
  have hnt:=hTo h20;obtain⟨u,hu⟩:∃u,x.2.2.2.2.2.1[n]? =some u:=⟨_,List.getElem?_eq_getElem hnt⟩;rcases hxv.ox.1 with he | ⟨tb,tof,rfl,hb,hc⟩
  ·rw [he] at hu;simp at hu
  ·exact⟨tb,tof,u,rfl,hb,hc n u hu,by rw [List.getD_eq_getElem?_getD,hu];rfl⟩
 replace hTs:=aa hTs;have hxt:x.2.2.2.2.2.1.length≤maxLen:=hxv.ox.2;unfold maxLen at hxt;replace hTo:=aa hTo;obtain⟨⟨z0,z1,z2,z3⟩,_,hzl⟩:=j4 HZ5.out;clear HXv3 B3 B35 X3 Y0 H3 hqB hxv
 cases hms:m.2.2.2 with
 |false=>
  have HR:Hid (8=fw p f k i n):=aa (by rw [HTk.out,hms];simp);rw [hms] at z3;go_wp2_with fail
  go_ret;exact⟨bD HR.out,Bw5.out⟩
 |true=>
  rw [hms] at z3;obtain⟨wt,hwt⟩:∃wt,fh p f x n=wt:=⟨_,rfl⟩;have hBz:=fun z=>L5.aD w5 z;have HW1:=aa (fun z=>HWt.out x _ (L5.bM w5 z) (ae Bw5.out (hBz z)) (HXv5.out.below (hBz z)) hW);rw [hwt] at HW1;rw [hms,hwt] at HTk;have c0:=fun z=>((hBz z).cell (p:=⟨w.heap.size,0,none⟩) hq0).trans (bC H5.out).1;have x0:=fun z=>(X5.out.below (hBz z)).2 0 _ rfl;have x1:=fun z=>(X5.out.below (hBz z)).2 1 _ rfl;have x2:=fun z=>(X5.out.below (hBz z)).2 2 _ rfl;have x3:=fun z=>(X5.out.below (hBz z)).2 3 _ rfl;have x4:=fun z=>(X5.out.below (hBz z)).2 4 _ rfl;have y0:=fun z=>(Y5.out.below (hBz z)).2 0 _ rfl;have y1:=fun z=>(Y5.out.below (hBz z)).2 1 _ rfl;have y2:=fun z=>(Y5.out.below (hBz z)).2 2 _ rfl;have y3:=fun z=>(Y5.out.below (hBz z)).2 3 _ rfl;have y4:=fun z=>(Y5.out.below (hBz z)).2 4 _ rfl;have y5:=fun z=>(Y5.out.below (hBz z)).2 5 _ rfl;have y6:=fun z=>(Y5.out.below (hBz z)).2 6 _ rfl;have y7:=fun z=>(Y5.out.below (hBz z)).2 7 _ rfl;have k2:=fun z=>((hBz z).cell (p:=⟨q4,2,none⟩) hzl).trans z2;have HBz:=aa hBz;have HZf:=aa (fun z=>((hBz z).block q4 hzl).trans HZ5.out);clear hwt HWt hBz z0 z1 z2;by_cases hkd:m.2.2.1=wt
  ·have hkb:(m.2.2.1 == wt)=true:=beq_iff_eq.2 hkd;go_wp2_with fail
   refine L5.aM (by kernel_rfl) (by kernel_rfl) ?_;repeat (go_big_quiet_step ((go_at_call 140;exact L5.eT (HW1.out _))))
   refine wpQuiet_nil ?_;rintro _ ⟨z,rfl⟩;obtain⟨⟨z0,z1,z2,z3⟩,_,hzl⟩:=j4 (HZf.out z);have Y6:=aa (Y5.out.below (HBz.out z));have Bw6:=aa (ae Bw5.out (HBz.out z));clear c0 x0 x1 x2 x3 x4 y0 y1 y2 y3 y4 y5 y6 y7 k2 HW1 HBz Y5 Bw5;have HZ6:=aa (HZf.out z);clear HZf;generalize L5.bM w5 z=w6 at *;obtain⟨y0,y1,y2,y3,y4,y5,y6,y7⟩:_∧_∧_∧_∧_∧_∧_∧_:=⟨Y6.out.2 0 _ rfl,Y6.out.2 1 _ rfl,Y6.out.2 2 _ rfl,Y6.out.2 3 _ rfl,Y6.out.2 4 _ rfl,Y6.out.2 5 _ rfl,Y6.out.2 6 _ rfl,Y6.out.2 7 _ rfl⟩;by_cases hat:m.2.1 < 0
   ·have HR:Hid (0=fw p f k i n):=aa (by rw [HTk.out];simp [hkd,hat]);clear hkd;go_wp2_with fail
    go_ret;exact⟨bD HR.out,Bw6.out⟩
   ·by_cases h20:x.1=20
    ·have e20:(x.1 == 20)=true:=beq_iff_eq.2 h20;obtain⟨tb,tof,u,rfl,htb,htc,htd⟩:=hTs.out h20;have hnt:=hTo.out h20;have hntI:(n:Int) < x.2.2.2.2.2.1.length:=(by omega);have HA:=aa (fun z=>HAh.out m.1 u (L5.bM w6 z) (ae Bw6.out (L5.aD w6 z)));have HT2:Hid (fw p f k i n=if cx (aC f) m.1 u then 0 else 10):=aa (by rw [HTk.out,htd];simp [hkd,hat,h20]);have k0:=fun z=>((L5.aD w6 z).cell (p:=⟨q4,0,none⟩) hzl).trans z0;have l5:=fun z=>(Y6.out.below (L5.aD w6 z)).2 5 _ rfl;have tc:=fun z=>((ae Bw6.out (L5.aD w6 z)).cell (p:=⟨tb,tof+n,none⟩) htb).trans htc;have HBz:=aa (fun z=>ae Bw6.out (L5.aD w6 z));clear htd h20 hkd HTk HAh htc
     cases hah:cx (aC f) m.1 u with
     |true=>
      rw [hah] at HA HT2;have HR:Hid (0=fw p f k i n):=aa HT2.out.symm;clear hah;go_wp2_with fail
      refine L5.aM (by kernel_rfl) (by kernel_rfl) ?_;repeat (go_big_quiet_step ((go_at_call 141;exact L5.bV (HA.out _))))
      refine wpQuiet_nil ?_;rintro _ ⟨z,rfl⟩;go_wp2_with fail
      go_ret;exact⟨bD HR.out,HBz.out z⟩
     |false=>
      rw [hah] at HA HT2;have HR:Hid (10=fw p f k i n):=aa HT2.out.symm;clear hah;go_wp2_with fail
      refine L5.aM (by kernel_rfl) (by kernel_rfl) ?_;repeat (go_big_quiet_step ((go_at_call 141;exact L5.bV (HA.out _))))
      refine wpQuiet_nil ?_;rintro _ ⟨z,rfl⟩;go_wp2_with fail
      go_ret;exact⟨bD HR.out,HBz.out z⟩
    ·have e20:(x.1 == 20)=false:=beq_eq_false_iff_ne.2 h20;have HT2:Hid (fw p f k i n=if(decide (m.1=k) && decide ((i:Int)≤m.2.1))=true then 10 else if(decide (m.1≠k) && !cx (aC f) m.1 k)=true then 10 else 0):=aa (by rw [HTk.out];simp [hkd,hat,h20]);clear h20 hkd HTk;by_cases hmk:m.1=k
     ·have emk:(m.1 == (k:Int))=true:=beq_iff_eq.2 hmk;by_cases hmi:(i:Int)≤m.2.1
      ·have HR:Hid (10=fw p f k i n):=aa (by rw [HT2.out];simp [hmk,hmi]);go_wp2_with fail
       go_ret;exact⟨bD HR.out,Bw6.out⟩
      ·have HR:Hid (0=fw p f k i n):=aa (by rw [HT2.out];simp [hmk,hmi]);go_wp2_with fail
       go_ret;exact⟨bD HR.out,Bw6.out⟩
     ·have emk:(m.1 == (k:Int))=false:=beq_eq_false_iff_ne.2 hmk;have HA:=aa (HAh.out m.1 k w6 Bw6.out)
      cases hah:cx (aC f) m.1 k with
      |true=>
       rw [hah] at HA;have HR:Hid (0=fw p f k i n):=aa (by rw [HT2.out,hah];simp [hmk]);go_wp2_with fail
       refine HA.out.mono ?_;rintro e w7 ⟨rfl,rfl⟩;clear HA;go_wp2_with fail
       go_ret;exact⟨bD HR.out,Bw6.out⟩
      |false=>
       rw [hah] at HA;have HR:Hid (10=fw p f k i n):=aa (by rw [HT2.out,hah];simp [hmk]);go_wp2_with fail
       refine HA.out.mono ?_;rintro e w7 ⟨rfl,rfl⟩;clear HA;go_wp2_with fail
       go_ret;exact⟨bD HR.out,Bw6.out⟩
  ·have hkb:(m.2.2.1 == wt)=false:=beq_eq_false_iff_ne.2 hkd;have HR:Hid (9=fw p f k i n):=aa (by rw [HTk.out];simp [hkd]);clear hkd;go_wp2_with fail
   refine L5.aM (by kernel_rfl) (by kernel_rfl) ?_;repeat (go_big_quiet_step ((go_at_call 140;exact L5.eT (HW1.out _))))
   refine wpQuiet_nil ?_;rintro _ ⟨z,rfl⟩;have HE:=aa (ae Bw5.out (HBz.out z));clear c0 x0 x1 x2 x3 x4 y0 y1 y2 y3 y4 y5 y6 y7 k2;go_wp2_with fail
   go_ret;exact⟨bD HR.out,HE.out⟩
end Go.Proofs.YtaiaakklokahjaaGreatDoor
