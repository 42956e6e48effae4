/- Texts of one chain, joined. -/
import Derived.Test.YtfdhemcahjommaaGreatDoorZAAZ
set_option maxHeartbeats 4000000
set_option maxRecDepth 20000
namespace Go.Proofs.YtfdhemcahjommaaGreatDoor
open Go Go.RowKit
open G (Tok Er Ins Fun)
theorem GxF.LZ {f:Fun} (h:GxF f):OkF f:=by
 obtain⟨h1,_,_,h4⟩:=h;unfold Few at h1;refine⟨by unfold maxLen;omega,fun b hb x hx=> ?_⟩;obtain⟨_,k2,_,_,_,_,k7⟩:=h4 b hb x hx;unfold Few at k7;exact⟨k2,by unfold maxLen;omega⟩
theorem GxF.Lf {f:Fun} (h:GxF f):ShF f:=by
 obtain⟨h1,h2,h3,h4⟩:=h;refine⟨h1,h2,h3,fun b hb x hx=> ?_⟩;obtain⟨_,_,_,_,k5,k6,k7⟩:=h4 b hb x hx;exact⟨k5,k6,k7⟩
def Kn (p:List Fun):Prop:=∀f∈p,f.2.2.2.1.length≤1000000∧f.2.1.length≤1000000∧∀b∈f.2.2.2.1,b.length≤1000000∧∀x∈b,x.2.2.2.2.1.length≤1000000∧x.2.2.2.2.2.1.length≤1000000
theorem uf {α:Type} (g:α→Nat) {l:List α} {x:α} (h:x∈l):g x≤(l.map g).sum:=by
 induction l with
 |nil=>simp at h
 |cons y l ih=>
  simp only [List.map_cons,List.sum_cons];rcases List.mem_cons.1 h with rfl | h
  ·omega
  ·have:=ih h;omega
theorem Hx (b:List Ins):b.length≤wB b:=by
 unfold wB;induction b with
 |nil=>simp
 |cons x b ih=>
  simp only [List.length_cons,List.map_cons,List.sum_cons];have:1≤wI x:=by unfold wI;omega
  omega
theorem It {p:List Fun} (h:nG p=true):p.length≤100∧Kn p:=by
 unfold nG at h;simp only [Bool.and_eq_true,decide_eq_true_eq,List.all_eq_true] at h;obtain⟨h1,h2⟩:=h;unfold total at h1;refine⟨by omega,fun f hf=> ?_⟩;have hf1:wF f≤wFs p:=uf wF hf;have hf2:wF0 f+wBs f.2.2.2.1≤100:=by unfold wF at hf1;omega
 have h3:=h2 f hf;refine⟨by omega,by unfold wF0 at hf2;omega,fun b hb=> ?_⟩;have hb1:wB b≤wBs f.2.2.2.1:=uf wB hb;refine⟨by have:=Hx b;omega,fun x hx=> ?_⟩;have hx1:wI x≤wB b:=uf wI hx;unfold wI at hx1;omega
theorem iy {p:List Fun} (h:nG p=true) (gp:∀y∈p,GxF y):p.length≤1000000∧(∀f∈p,OkF f)∧(∀f∈p,Mod f∧f.2.1.length≤1000000)∧((aW 0 0 p).1=0→∀f∈p,Kept p f):=by
 obtain⟨h1,hS⟩:=It h;exact⟨by omega,fun f hf=>(gp f hf).LZ,fun f hf=>⟨⟨(hS f hf).1,fun b hb=>((hS f hf).2.2 b hb).1⟩,(hS f hf).2.1⟩,fun hW=>FT hW fun g hg=>⟨(hS g hg).1,fun b hb x hx=>(((hS g hg).2.2 b hb).2 x hx).2⟩⟩
def lgQ (p:List Fun):Bool:=nG p && decide ((iN p false).1=0) && decide (0 < p.length)
def An (p:List Fun) (wh:Int) (w:World) (e:Ending) (w':World):Prop:=
 (∃lp cp lb cb lps lbs nm rt pl,e= .returned (.tuple #[.agg #[.string nm,.slice lp lps cp,.int .i64 rt,.slice lb lbs cb,.int .i64 pl],.bool (lgQ p)])∧(lgQ p=true→bG w' (bh p (wh % (p.length:Int)).toNat) (.agg #[.string nm,.slice lp lps cp,.int .i64 rt,.slice lb lbs cb,.int .i64 pl])))∧Below w.heap.size w w'
abbrev zF:Array Value:= #[.string ⟨#[]⟩,.slice none 0 0,.int .i64 0,.slice none 0 0,.int .i64 0]
theorem Ie (w:World) (a b:Obj):Below w.heap.size w ((w.alloc a).alloc b)∧((w.alloc a).alloc b).heap[w.heap.size]? =some a∧((w.alloc a).alloc b).heap[w.heap.size+1]? =some b:=by
 have h1:=ag w a;have h2:=ag (w.alloc a) b;have hs:(w.alloc a).heap.size=w.heap.size+1:=by simp
 refine⟨af h1 h2,(h2.block _ (by omega)).trans (heap_alloc_new w a),?_⟩;rw [←hs];exact heap_alloc_new _ b
theorem iW {B q:Nat} {w0 w:World} (hq:B≤q) (h:Below B w0 w) (a b c d e:Value):Below B w0 (((((w.setCell ⟨q,0,none⟩ a).setCell ⟨q,1,none⟩ b).setCell ⟨q,2,none⟩ c).setCell ⟨q,3,none⟩ d).setCell ⟨q,4,none⟩ e):=
 ((((h.setCell (p:=⟨q,0,none⟩) hq _).setCell (p:=⟨q,1,none⟩) hq _).setCell (p:=⟨q,2,none⟩) hq _).setCell (p:=⟨q,3,none⟩) hq _).setCell (p:=⟨q,4,none⟩) hq _
def Kz (q g o R n pc:Nat) (wh:Int) (fv:Value) (t:Tmp):Mix.Up:=match t with
 |22 | 26=>Mix.Up.eq (.pointer (some ⟨q,0,none⟩))
 |23 | 27=>Mix.Up.eq (.slice (some ⟨g,o,none⟩) n pc)
 |24=>Mix.Up.eq (.int .u8 wh)
 |25=>Mix.Up.eq (.int .i64 wh)
 |28=>Mix.Up.eq (.int .i64 n)
 |29=>Mix.Up.eq (.int .i64 R)
 |30=>Mix.Up.eq (.pointer (some ⟨g,o+R * 5,none⟩))
 |31=>Mix.Up.eq fv
 |_=>Mix.Up.any
theorem qp (p:List Fun) (wh:Int) (po:Option Addr) (pc:Nat) (w:World) (hp:eg w p (.slice po p.length pc)) (gp:∀y∈p,GxF y) (fp:Few p.length) (hwb:0≤wh∧wh < 256):
  Calls Tryz.prog 6 #[.agg #[.slice po p.length pc],.int .u8 wh] w (An p wh w):=by
 have CL:=ae (fun w' (b:Below w.heap.size w w')=>ve p po pc w' (hp.below b) fp (fun f hf=>(gp f hf).Lf));have CC:=ae (fun(h:nG p=true) w' (b:Below w.heap.size w w')=>tz p false po pc w' (hp.below b) (iy h gp).1 (iy h gp).2.1 (iy h gp).2.2.1 (iy h gp).2.2.2);have HP:=ae hp;have HQ:Hid (lgQ p=(nG p && decide ((iN p false).1=0) && decide (0 < p.length))):=ae rfl;have HO:Hid (An p wh w=fun e w'=>(∃lp cp lb cb lps lbs nm rt pl,e= .returned (.tuple #[.agg #[.string nm,.slice lp lps cp,.int .i64 rt,.slice lb lbs cb,.int .i64 pl],.bool (lgQ p)])∧(lgQ p=true→bG w' (bh p (wh % (p.length:Int)).toNat) (.agg #[.string nm,.slice lp lps cp,.int .i64 rt,.slice lb lbs cb,.int .i64 pl])))∧Below w.heap.size w w'):=ae rfl;clear gp fp;obtain⟨⟨c1,c2⟩,hc⟩:∃c,iN p false=c:=⟨_,rfl⟩;rw [hc] at CC HQ;obtain⟨n,hn⟩:∃n,p.length=n:=⟨_,rfl⟩;rw [hn] at CL CC HQ HO ⊢;have Hn:=ae hn;clear hc hn hp;obtain⟨b0,h1,h2⟩:=Ie w (.cells #[.slice po n pc] 24) (.cells zF 28);have H1:=ae h1;have H2:=ae h2;have B0:=ae b0;clear b0 h1 h2;have hfl:∀(a b:Value) (w:World),(Instr.field 55 (.agg #[a,b]) 0).run Tryz.prog w= .ok a w:=fun _ _ _=>rfl;rw [HO.out];go_enter Tryz.func6,Tryz.ntmps6
 go_upto_region 1 with fail
 show Code.wp _ _ _ _ ((w.alloc (.cells #[.slice po n pc] 24)).alloc (.cells zF 28));generalize (w.alloc (.cells #[.slice po n pc] 24)).alloc (.cells zF 28)=W at *;have x0:=(bF H1.out).1;have C1:=ae (CL.out W B0.out);go_wp2_with fail
 refine C1.out.mono ?_;rintro e w1 ⟨rfl,b1⟩;have B1:=ae (af B0.out b1);have K1:=ae ((b1.block _ (Array.getElem?_eq_some_iff.1 H1.out).1).trans H1.out);have K2:=ae ((b1.block _ (Array.getElem?_eq_some_iff.1 H2.out).1).trans H2.out);clear b1 x0 C1 CL H1 H2 B0;have x0:=(bF K1.out).1;obtain⟨⟨z0,z1,z2,z3,z4⟩,⟨f0,f1,f2,f3,f4⟩,_⟩:=bW K2.out
 cases hL:nG p with
 |false=>
  have HF:Hid (lgQ p=false):=ae (by rw [HQ.out,hL];rfl);clear hL CC;have HE:=ae (iW (q:=w.heap.size+1) (Nat.le_succ _) B1.out (.string ⟨#[]⟩) (.slice none 0 0) (.int .i64 0) (.slice none 0 0) (.int .i64 0));go_wp2_with fail
  exact bodyPost_ret (v:= .tuple #[.agg zF,.bool false]) (by simp [results,Tryz.results6,go_sem,zF,z0,z1,z2,z3,z4]) rfl ⟨⟨none,0,none,0,0,0,⟨#[]⟩,0,0,by rw [HF.out],fun h=>by rw [HF.out] at h;cases h⟩,HE.out⟩
 |true=>
  have C2:=ae (CC.out hL w1 B1.out);replace HQ:Hid (lgQ p=(decide (c1=0) && decide (0 < n))):=ae (by rw [HQ.out,hL];rfl);clear hL CC z0 z1 z2 z3 z4 f0 f1 f2 f3 f4;go_wp2_with fail
  refine C2.out.mono ?_;rintro e w2 ⟨rfl,b2⟩;have B2:=ae (af B1.out b2);have K3:=ae ((b2.block _ (Array.getElem?_eq_some_iff.1 K1.out).1).trans K1.out);have K4:=ae ((b2.block _ (Array.getElem?_eq_some_iff.1 K2.out).1).trans K2.out);clear b2 x0 C2 K1 K2 B1;have x0:=(bF K3.out).1;obtain⟨⟨z0,z1,z2,z3,z4⟩,⟨f0,f1,f2,f3,f4⟩,_⟩:=bW K4.out;by_cases hc0:c1=0
  ·have g1:(c1 != 0)=false:=(by rw [bne_eq_false_iff_eq];exact hc0);by_cases hn0:n=0
   ·subst hn0;have HF:Hid (lgQ p=false):=ae (by rw [HQ.out];simp);clear hc0;have HE:=ae (iW (q:=w.heap.size+1) (Nat.le_succ _) B2.out (.string ⟨#[]⟩) (.slice none 0 0) (.int .i64 0) (.slice none 0 0) (.int .i64 0));go_wp2_with fail
    exact bodyPost_ret (v:= .tuple #[.agg zF,.bool false]) (by simp [results,Tryz.results6,go_sem,zF,z0,z1,z2,z3,z4]) rfl ⟨⟨none,0,none,0,0,0,⟨#[]⟩,0,0,by rw [HF.out],fun h=>by rw [HF.out] at h;cases h⟩,HE.out⟩
   ·have HF:Hid (lgQ p=true):=ae (by rw [HQ.out];simp [hc0];omega);have k2:((n:Int) == 0)=false:=beq_eq_false_iff_ne.2 (by omega);have hwh:IntKind.i64.wrap wh=wh:=IntWalk.i64_in _ ⟨by omega,by omega⟩;have hpn0:(n:Int)≠0:=(by omega);have hr0:0≤wh % (n:Int):=Int.emod_nonneg _ hpn0;have hr1:wh % (n:Int) < n:=Int.emod_lt_of_pos _ (by omega);obtain⟨R,hR⟩:∃R:Nat,wh % (n:Int)=(R:Int):=⟨(wh % (n:Int)).toNat,by omega⟩;have hRn:R < n:=(by omega);have hR2:(R:Int) < (n:Int):=(by omega);have hrm:Int.tmod wh n=(R:Int):=(by rw [←hR];exact Int.tmod_eq_emod_of_nonneg hwb.1);obtain⟨g,o,rfl,hfr⟩:=gC HP.out (i:=R) (by rw [Hn.out];exact hRn);obtain⟨ha,hb,hc,hdd,hfv,d0,d1,d2,d3,d4⟩:=hfr.val;have hgl:=hfr.1;obtain⟨nm,hnm⟩:∃x,bs (bh p R).1=x:=⟨_,rfl⟩;obtain⟨fl,hfl2⟩:∃x,(bh p R).2.1.length=x:=⟨_,rfl⟩;obtain⟨rt,hrt⟩:∃x,(bh p R).2.2.1=x:=⟨_,rfl⟩;obtain⟨fb,hfb⟩:∃x,(bh p R).2.2.2.1.length=x:=⟨_,rfl⟩;obtain⟨pl,hpl⟩:∃x,(bh p R).2.2.2.2=x:=⟨_,rfl⟩;have HFv:Hid (bG w (bh p R) (.agg #[.string nm,.slice ha fl hc,.int .i64 rt,.slice hb fb hdd,.int .i64 pl])):=ae (by
     rw [hnm,hfl2,hrt,hfb,hpl] at hfv;exact hfv)
    rw [hnm] at d0;rw [hfl2] at d1;rw [hrt] at d2;rw [hfb] at d3;rw [hpl] at d4;have HRe:Hid ((wh % (n:Int)).toNat=R):=ae (by rw [hR];rfl);have ds:=fun(w':World) (b:Below w2.heap.size w2 w')=>(⟨((af B2.out b).cell (p:=⟨g,o+R * 5,none⟩) hgl).trans d0,((af B2.out b).cell (p:=⟨g,o+R * 5+1,none⟩) hgl).trans d1,((af B2.out b).cell (p:=⟨g,o+R * 5+2,none⟩) hgl).trans d2,((af B2.out b).cell (p:=⟨g,o+R * 5+3,none⟩) hgl).trans d3,((af B2.out b).cell (p:=⟨g,o+R * 5+4,none⟩) hgl).trans d4⟩:_∧_∧_∧_∧_);have xs:=fun(w':World) (b:Below w2.heap.size w2 w')=>(bF ((b.block _ (Array.getElem?_eq_some_iff.1 K3.out).1).trans K3.out)).1;replace ds:=ae ds;replace xs:=ae xs;clear hfr hfv d0 d1 d2 d3 d4 hnm hfl2 hrt hfb hpl hc0 hR z0 z1 z2 z3 z4 f0 f1 f2 f3 f4 hr0 hr1;go_wp2_with fail
    replace ds:=ds.out;replace xs:=xs.out;refine Mix.pG (Kz w.heap.size g o R n pc wh (.agg #[.string nm,.slice ha fl hc,.int .i64 rt,.slice hb fb hdd,.int .i64 pl])) 10 1 _ rfl rfl (by kernel_rfl) (by kernel_rfl) (by kernel_rfl) (by kernel_rfl) ?_;refine Mix.aj rfl (al (.pointer (some ⟨w.heap.size,0,none⟩)) rfl) ?_ ?_
    ·intro w b k;clear k;simp [go_sem];exact⟨Below.refl _ _,fun d hd=>by cases hd;rfl⟩
    rintro v ⟨_,_,h⟩;obtain rfl:v=(.pointer (some ⟨w.heap.size,0,none⟩)):=h _ rfl;clear h;simp only [Act.put,sU1,sU2,sU3];refine Mix.aj rfl (al (.slice (some ⟨g,o,none⟩) n pc) rfl) ?_ ?_
    ·intro w b k;have y0:=xs w b;clear k;simp [go_sem,y0];exact⟨Below.refl _ _,fun d hd=>by cases hd;rfl⟩
    rintro v ⟨_,_,h⟩;obtain rfl:v=(.slice (some ⟨g,o,none⟩) n pc):=h _ rfl;clear h;simp only [Act.put,sU1,sU2,sU3];refine Mix.aj rfl (al (.int .u8 wh) rfl) ?_ ?_
    ·intro w b k;clear k;simp [go_sem];exact⟨Below.refl _ _,fun d hd=>by cases hd;rfl⟩
    rintro v ⟨_,_,h⟩;obtain rfl:v=(.int .u8 wh):=h _ rfl;clear h;simp only [Act.put,sU1,sU2,sU3];refine Mix.aj rfl (al (.int .i64 wh) rfl) ?_ ?_
    ·intro w b k;clear k;simp [go_sem,hwh];exact⟨Below.refl _ _,fun d hd=>by cases hd;rfl⟩
    rintro v ⟨_,_,h⟩;obtain rfl:v=(.int .i64 wh):=h _ rfl;clear h;simp only [Act.put,sU1,sU2,sU3];refine Mix.aj rfl (al (.pointer (some ⟨w.heap.size,0,none⟩)) rfl) ?_ ?_
    ·intro w b k;clear k;simp [go_sem];exact⟨Below.refl _ _,fun d hd=>by cases hd;rfl⟩
    rintro v ⟨_,_,h⟩;obtain rfl:v=(.pointer (some ⟨w.heap.size,0,none⟩)):=h _ rfl;clear h;simp only [Act.put,sU1,sU2,sU3];refine Mix.aj rfl (al (.slice (some ⟨g,o,none⟩) n pc) rfl) ?_ ?_
    ·intro w b k;have y0:=xs w b;clear k;simp [go_sem,y0];exact⟨Below.refl _ _,fun d hd=>by cases hd;rfl⟩
    rintro v ⟨_,_,h⟩;obtain rfl:v=(.slice (some ⟨g,o,none⟩) n pc):=h _ rfl;clear h;simp only [Act.put,sU1,sU2,sU3];refine Mix.aj rfl (al (.int .i64 n) rfl) ?_ ?_
    ·intro w b k;clear k;simp [go_sem];exact⟨Below.refl _ _,fun d hd=>by cases hd;rfl⟩
    rintro v ⟨_,_,h⟩;obtain rfl:v=(.int .i64 n):=h _ rfl;clear h;simp only [Act.put,sU1,sU2,sU3];refine Mix.aj rfl (al (.int .i64 R) rfl) ?_ ?_
    ·intro w b k;clear k;simp [go_sem,hn0,hrm];exact⟨Below.refl _ _,fun d hd=>by cases hd;rfl⟩
    rintro v ⟨_,_,h⟩;obtain rfl:v=(.int .i64 R):=h _ rfl;clear h;simp only [Act.put,sU1,sU2,sU3];refine Mix.aj rfl (al (.pointer (some ⟨g,o+R * 5,none⟩)) rfl) ?_ ?_
    ·intro w b k;clear k;simp [go_sem,hR2];exact⟨Below.refl _ _,fun d hd=>by cases hd;rfl⟩
    rintro v ⟨_,_,h⟩;obtain rfl:v=(.pointer (some ⟨g,o+R * 5,none⟩)):=h _ rfl;clear h;simp only [Act.put,sU1,sU2,sU3];refine Mix.aj rfl (al (.agg #[.string nm,.slice ha fl hc,.int .i64 rt,.slice hb fb hdd,.int .i64 pl]) rfl) ?_ ?_
    ·intro w b k;obtain⟨d0,d1,d2,d3,d4⟩:=ds w b;clear k;simp [go_sem,d0,d1,d2,d3,d4];exact⟨Below.refl _ _,fun d hd=>by cases hd;rfl⟩
    rintro v ⟨_,_,h⟩;obtain rfl:v=(.agg #[.string nm,.slice ha fl hc,.int .i64 rt,.slice hb fb hdd,.int .i64 pl]):=h _ rfl;clear h;simp only [Act.put,sU1,sU2,sU3];refine Mix.fQ ?_;intro w4 b4 hk;clear hk;obtain⟨⟨z0,z1,z2,z3,z4⟩,⟨f0,f1,f2,f3,f4⟩,_⟩:=bW ((b4.block _ (Array.getElem?_eq_some_iff.1 K4.out).1).trans K4.out);refine⟨rfl,fun K hK=> ?_⟩;unfold Oper.wp;simp [go_sem,z0,z1,z2,z3,z4,f0,f1,f2,f3,f4];refine hK _ _ ?_;clear hK;refine Mix.Ae (i:=11) (by kernel_rfl) rfl rfl ?_;intro K hK;unfold Oper.wp;simp [go_sem];refine hK _ _ ?_;clear hK;refine Mix.A7 (by kernel_rfl) ?_;have HE:=ae (iW (q:=w.heap.size+1) (Nat.le_succ _) (af B2.out b4) (.string nm) (.slice ha fl hc) (.int .i64 rt) (.slice hb fb hdd) (.int .i64 pl));clear ds xs;go_wp2_with fail
    exact bodyPost_ret (v:= .tuple #[.agg #[.string nm,.slice ha fl hc,.int .i64 rt,.slice hb fb hdd,.int .i64 pl],.bool true]) (by simp [results,Tryz.results6,go_sem,z0,z1,z2,z3,z4]) rfl ⟨⟨ha,hc,hb,hdd,fl,fb,nm,rt,pl,by rw [HF.out],fun _=>by rw [HRe.out];exact HFv.out.below HE.out⟩,HE.out⟩
  ·have g1:(c1 != 0)=true:=bne_iff_ne.2 hc0;have HF:Hid (lgQ p=false):=ae (by rw [HQ.out];simp [hc0]);clear hc0;have HE:=ae (iW (q:=w.heap.size+1) (Nat.le_succ _) B2.out (.string ⟨#[]⟩) (.slice none 0 0) (.int .i64 0) (.slice none 0 0) (.int .i64 0));go_wp2_with fail
   exact bodyPost_ret (v:= .tuple #[.agg zF,.bool false]) (by simp [results,Tryz.results6,go_sem,zF,z0,z1,z2,z3,z4]) rfl ⟨⟨none,0,none,0,0,0,⟨#[]⟩,0,0,by rw [HF.out],fun h=>by rw [HF.out] at h;cases h⟩,HE.out⟩
def inL (f:Fun) (k:Nat):List Int:=(cL f).filter fun id=>bf f k 0 id
theorem yR {w:World} {f:Fun} {nm:ByteArray} {lp lb:Option Addr} {lps cp lbs cb:Nat} {rt pl:Int} (h:bG w f (.agg #[.string nm,.slice lp lps cp,.int .i64 rt,.slice lb lbs cb,.int .i64 pl])):lps=f.2.1.length∧lbs=f.2.2.2.1.length:=by
 obtain⟨lp',cp',lb',cb',e,_⟩:=cG h;injection e with e;have e1:=congrArg (fun a=>a[1]?) e;have e3:=congrArg (fun a=>a[3]?) e;simp at e1 e3;exact⟨e1.2.1,e3.2.1⟩
theorem tw {l:List Int} {x a:Int}:a∈gY l x↔a=x∨a∈l:=by
 unfold gY;have h:a∈l↔a∈l.take (pQ x l)∨a∈l.drop (pQ x l):=by rw [←List.mem_append,List.take_append_drop]
 rw [h];simp only [List.mem_append,List.mem_singleton];constructor
 ·rintro ((q | q) | q)
  ·exact .inr (.inl q)
  ·exact .inl q
  ·exact .inr (.inr q)
 ·rintro (q | q | q)
  ·exact .inl (.inr q)
  ·exact .inl (.inl q)
  ·exact .inr q
theorem oJ {a:Int}:∀ {b:List Ins} {l:List Int},a∈eV l b↔a∈l∨∃x∈b,dm a x=true
 |[],l=>by simp [eV]
 |x :: b,l=>by
  have e:eV l (x :: b)=eV (if mkX x=0 then l else gY l x.2.1) b:=rfl;rw [e,oJ];by_cases hm:mkX x=0
  ·rw [if_pos hm];have hh:∀a,dm a x=false:=fun a=>by cases q:dm a x with | false=>rfl | true=>exact absurd hm (kq.1 q).2
   simp [hh]
  ·rw [if_neg hm,tw];have hh:dm a x=true↔a=x.2.1:=(by rw [kq];exact⟨fun h=>h.1.symm,fun h=>⟨h.symm,hm⟩⟩);simp only [List.mem_cons,exists_eq_or_imp,hh];constructor
   ·rintro ((q | q) | q)
    ·exact .inr (.inl q)
    ·exact .inl q
    ·exact .inr (.inr q)
   ·rintro (q | q | q)
    ·exact .inl (.inr q)
    ·exact .inl (.inl q)
    ·exact .inr q
theorem oK {a:Int}:∀ {bs:List (List Ins)} {l:List Int},a∈im l bs↔a∈l∨∃b∈bs,∃x∈b,dm a x=true
 |[],l=>by simp [im]
 |b :: bs,l=>by
  have e:im l (b :: bs)=im (eV l b) bs:=rfl;rw [e,oK,oJ];simp only [List.mem_cons,exists_eq_or_imp,or_assoc]
theorem Ex {f:Fun} {id:Int} (h:IsV f id):id∈cL f:=by
 unfold cL;rw [oK];rcases h with h | ⟨b,j,hb,hj,hx⟩
 ·left;unfold en at h;simp only [Bool.and_eq_true,decide_eq_true_eq] at h;unfold fX;exact List.mem_map.2 ⟨id.toNat,List.mem_range.2 (by omega),by omega⟩
 ·exact .inr ⟨ah f b,fq hb,ay f b j,pJ hj,hx⟩
def sG (f:Fun) (k:Nat):List Int:=(cL f).filter fun id=>eS f k id
def lX (f:Fun) (k i:Nat):List Int:=(cL f).filter fun id=>bf f k (gz f k i) id
theorem Ca (l:List (List Ins)):(l.map List.length).sum≤wBs l:=by
 unfold wBs;induction l with
 |nil=>simp
 |cons b l ih=>
  simp only [List.map_cons,List.sum_cons];have:=Hx b;omega
theorem EZ {p:List Fun} (hq:lgQ p=true) (gp:∀y∈p,GxF y) {i:Nat} (hi:i < p.length):LvF (bh p i)∧Gr (aC (bh p i))∧TkA p (bh p i)∧wid (bh p i)≤1000000∧0 < (bh p i).2.2.2.1.length:=by
 unfold lgQ at hq;simp only [Bool.and_eq_true,decide_eq_true_eq] at hq;obtain⟨⟨hL,hc⟩,_⟩:=hq;obtain⟨a,_,c⟩:=ue hc;obtain⟨s1,_,_,s4⟩:=yj (c i hi);have hm:=uX hi;obtain⟨_,_,C3,C4⟩:=iy hL gp;have k1:=C4 a _ hm;obtain⟨q1,q2,q3⟩:=k1.1 s1;obtain⟨_,hS⟩:=It hL;have hx:=(((qz p 0 0 (by omega) (by omega)).1.1 a).1 _ hm).2;refine⟨⟨q1,q2,(C3 _ hm).1,fun b hb x hxm=>⟨?_,fun h20=> ?_⟩⟩,mh q2 q3,fun k hk j hj n hn=>(zO (s4 k hk j hj) hn).2,?_,q3⟩
 ·have:=(((hS _ hm).2.2 b hb).2 x hxm).1;unfold maxLen;omega
 ·have hk:=ru (hx b hb x hxm);unfold jj at hk;rw [if_pos h20] at hk;simp at hk;exact⟨by omega,(((hS _ hm).2.2 b hb).2 x hxm).2⟩
 ·unfold nG at hL;simp only [Bool.and_eq_true,decide_eq_true_eq] at hL;have h1:=hL.1;unfold total at h1;have h2:wF (bh p i)≤wFs p:=uf wF hm;have h3:=Ca (bh p i).2.2.2.1;unfold wF wF0 at h2;unfold wid;omega
theorem Ct (w:World) (l:List Int) (h:l.length≤1000000):bT (w.alloc (.cells (ints l).toArray 3)) l (.slice (some ⟨w.heap.size,0,none⟩) l.length l.length):=by
 refine⟨_,_,rfl,.inr ⟨w.heap.size,0,rfl,by simp,fun i n hi=> ?_⟩,Nat.le_refl _,by unfold maxLen;omega⟩;have hq:=heap_alloc_new w (.cells (ints l).toArray 3);simp only [World.cell?,hq,Nat.zero_add];simp [ints,hi]
def ky (w:World) (l:List Int) (LV:World→Prop) (e:Ending) (w':World):Prop:=∃u,e= .returned u∧bT w' l u∧LV w'∧Below w.heap.size w w'
theorem rQ (p:List Fun) (f:Fun) (w:World) (LV:Nat→World→Prop) (hp:p.length=2) (hf:bh p 0=f) (hf4:f.2.2.2.1.length=4)
  (C25:Calls Tryz.prog 25 #[] w fun e w'=>∃ao c,e= .returned (.agg #[.slice ao p.length c])∧eg w' p (.slice ao p.length c)∧Below w.heap.size w w')
  (hLV:∀b w w',LV b w→Below w.heap.size w w'→LV b w')
  (C8:∀w' v,Below w.heap.size w w'→bG w' f v→Calls Tryz.prog 8 #[v] w' fun e w''=>∃b,e= .returned (.pointer (some ⟨b,0,none⟩))∧LV b w''∧Below w'.heap.size w' w'')
  (I1:∀w' b,Below w.heap.size w w'→LV b w'→Calls Tryz.prog 10 #[.pointer (some ⟨b,0,none⟩),.int .i64 1] w' (ky w' [1] (LV b)))
  (O0:∀w' b,Below w.heap.size w w'→LV b w'→Calls Tryz.prog 11 #[.pointer (some ⟨b,0,none⟩),.int .i64 0] w' (ky w' [0,1,2] (LV b)))
  (O2:∀w' b,Below w.heap.size w w'→LV b w'→Calls Tryz.prog 11 #[.pointer (some ⟨b,0,none⟩),.int .i64 2] w' (ky w' [1,5,6] (LV b)))
  (A21:∀w' b,Below w.heap.size w w'→LV b w'→Calls Tryz.prog 15 #[.pointer (some ⟨b,0,none⟩),.int .i64 2,.int .i64 1] w' (ky w' [1,5,6] (LV b)))
  (A10:∀w' b,Below w.heap.size w w'→LV b w'→Calls Tryz.prog 15 #[.pointer (some ⟨b,0,none⟩),.int .i64 1,.int .i64 0] w' (ky w' [1,3,4] (LV b)))
  (A30:∀w' b,Below w.heap.size w w'→LV b w'→Calls Tryz.prog 15 #[.pointer (some ⟨b,0,none⟩),.int .i64 3,.int .i64 0] w' (ky w' [7] (LV b)))
  (M:∀w' b,Below w.heap.size w w'→LV b w'→Calls Tryz.prog 17 #[.pointer (some ⟨b,0,none⟩)] w' fun e w''=>e= .returned (.int .i64 4)∧LV b w''∧Below w'.heap.size w' w''):
  Calls Tryz.prog 7 #[] w fun e w'=>e= .returned (.bool true)∧Below w.heap.size w w':=by
 have HC:Hid (∀w' (l:List Int) (u:Value),l.length≤1000000→bT w' l u→Calls Tryz.prog 26 #[u,.slice (some ⟨w'.heap.size,0,none⟩) l.length l.length] (w'.alloc (.cells (ints l).toArray 3)) fun e w''=>e= .returned (.bool true)∧Below w'.heap.size w' w''):=ae (fun w' l u hl hu=>(Cx l u _ _ (hu.below (ag w' _)) (Ct w' l hl)).mono fun e w'' ⟨he,hb⟩=>⟨he,af (ag w' _) hb⟩);replace C25:=ae C25;replace C8:=ae C8;replace hLV:=ae hLV;replace I1:=ae I1;replace O0:=ae O0;replace O2:=ae O2;replace A21:=ae A21;replace A10:=ae A10;replace A30:=ae A30;replace M:=ae M;replace hf:=ae hf;replace hf4:=ae hf4;have hp2:=ae hp;rw [hp] at C25;clear hp;go_enter Tryz.func7,Tryz.ntmps7
 go_wp2_with fail
 refine C25.out.mono ?_;rintro e w1 ⟨ao,c,rfl,hpr,b1⟩;have B1:=ae b1;obtain⟨g,o,rfl,hfr⟩:=gC hpr (i:=0) (by rw [hp2.out];exact Nat.zero_lt_succ _);rw [hf.out] at hfr;have hg:=hfr.1;obtain⟨ha,hb,hc,hdd,hfv,d0,d1,d2,d3,d4⟩:=hfr.val;rw [hf4.out] at d3 hfv;simp only [Nat.zero_mul,Nat.add_zero] at d0 d1 d2 d3 d4;have b2:=ag w1 (.cells #[.slice (some ⟨g,o,none⟩) 2 c] 24);have H2:=ae (heap_alloc_new w1 (.cells #[.slice (some ⟨g,o,none⟩) 2 c] 24));have B2:=ae (af B1.out b2);have HF:=ae (hfv.below b2);replace d0:=(b2.cell (p:=⟨g,o,none⟩) hg).trans d0;replace d1:=(b2.cell (p:=⟨g,o+1,none⟩) hg).trans d1;replace d2:=(b2.cell (p:=⟨g,o+2,none⟩) hg).trans d2;replace d3:=(b2.cell (p:=⟨g,o+3,none⟩) hg).trans d3;replace d4:=(b2.cell (p:=⟨g,o+4,none⟩) hg).trans d4;clear hfr hfv b1 b2 hpr C25;go_upto_region 2 with fail
 show Code.wp _ _ _ _ (w1.alloc (.cells #[.slice (some ⟨g,o,none⟩) 2 c] 24));generalize w1.alloc (.cells #[.slice (some ⟨g,o,none⟩) 2 c] 24)=w2 at *;have x0:=(bF H2.out).1;clear H2;go_wp2_with fail
 refine(C8.out w2 _ B2.out HF.out).mono ?_;rintro e w3 ⟨b,rfl,h3,b3⟩;have B3:=ae (af B2.out b3);have L3:=ae h3;clear h3 b3 d0 d1 d2 d3 d4 x0 HF B2;go_wp2_with fail
 refine(I1.out w3 b B3.out L3.out).mono ?_;rintro e w4 ⟨u4,rfl,hu,h,bb⟩;have B4:=ae (af B3.out bb);have L4:=ae h;have CC:=ae (HC.out w4 [1] u4 (by decide) hu);clear hu h bb;go_wp2_with fail
 refine CC.out.mono ?_;rintro e w5 ⟨rfl,bb⟩;have B5:=ae (af B4.out bb);have L5:=ae (hLV.out _ _ _ L4.out bb);clear bb CC;go_wp2_with fail
 refine(O0.out w5 b B5.out L5.out).mono ?_;rintro e w6 ⟨u6,rfl,hu,h,bb⟩;have B6:=ae (af B5.out bb);have L6:=ae h;have CC:=ae (HC.out w6 [0,1,2] u6 (by decide) hu);clear hu h bb;go_wp2_with fail
 refine CC.out.mono ?_;rintro e w7 ⟨rfl,bb⟩;have B7:=ae (af B6.out bb);have L7:=ae (hLV.out _ _ _ L6.out bb);clear bb CC;go_wp2_with fail
 refine(O2.out w7 b B7.out L7.out).mono ?_;rintro e w8 ⟨u8,rfl,hu,h,bb⟩;have B8:=ae (af B7.out bb);have L8:=ae h;have CC:=ae (HC.out w8 [1,5,6] u8 (by decide) hu);clear hu h bb;go_wp2_with fail
 refine CC.out.mono ?_;rintro e w9 ⟨rfl,bb⟩;have B9:=ae (af B8.out bb);have L9:=ae (hLV.out _ _ _ L8.out bb);clear bb CC;go_wp2_with fail
 refine(A21.out w9 b B9.out L9.out).mono ?_;rintro e w10 ⟨u10,rfl,hu,h,bb⟩;have B10:=ae (af B9.out bb);have L10:=ae h;have CC:=ae (HC.out w10 [1,5,6] u10 (by decide) hu);clear hu h bb;go_wp2_with fail
 refine CC.out.mono ?_;rintro e w11 ⟨rfl,bb⟩;have B11:=ae (af B10.out bb);have L11:=ae (hLV.out _ _ _ L10.out bb);clear bb CC;go_wp2_with fail
 refine(A10.out w11 b B11.out L11.out).mono ?_;rintro e w12 ⟨u12,rfl,hu,h,bb⟩;have B12:=ae (af B11.out bb);have L12:=ae h;have CC:=ae (HC.out w12 [1,3,4] u12 (by decide) hu);clear hu h bb;go_wp2_with fail
 refine CC.out.mono ?_;rintro e w13 ⟨rfl,bb⟩;have B13:=ae (af B12.out bb);have L13:=ae (hLV.out _ _ _ L12.out bb);clear bb CC;go_wp2_with fail
 refine(A30.out w13 b B13.out L13.out).mono ?_;rintro e w14 ⟨u14,rfl,hu,h,bb⟩;have B14:=ae (af B13.out bb);have L14:=ae h;have CC:=ae (HC.out w14 [7] u14 (by decide) hu);clear hu h bb;go_wp2_with fail
 refine CC.out.mono ?_;rintro e w15 ⟨rfl,bb⟩;have B15:=ae (af B14.out bb);have L15:=ae (hLV.out _ _ _ L14.out bb);clear bb CC;go_wp2_with fail
 refine(M.out w15 b B15.out L15.out).mono ?_;rintro e w16 ⟨rfl,h,bb⟩;have B16:=ae (af B15.out bb);clear h bb;go_wp2_with fail
 go_ret;exact⟨rfl,B16.out⟩
def gW (f:Fun) (k:Nat):Nat→Nat
 |0=>(inL f k).length
 |i+1=>max (gW f k i) (lX f k i).length
def fI (f:Fun):Nat→Nat
 |0=>0
 |k+1=>max (fI f k) (gW f k (ah f k).length)
def oO (f:Fun):Nat:=fI f f.2.2.2.1.length
def WyF (f:Fun) (wy:List Int) (K:Nat):Prop:=0 < wy.length∧K < f.2.2.2.1.length∧wy.getD (wy.length - 1) 0=(K:Int)∧(∀n,n < wy.length→0≤wy.getD n 0∧(wy.getD n 0).toNat < f.2.2.2.1.length)∧∀n,n+1 < wy.length→wy.getD (n+1) 0∈aF f (wy.getD n 0).toNat
theorem WyF.one {f:Fun} (h:0 < f.2.2.2.1.length):WyF f [0] 0:=⟨Nat.zero_lt_succ _,h,rfl,fun n hn=>by
 obtain rfl:n=0:=by simpa using hn
 exact⟨Int.le_refl _,h⟩,fun n hn=>by simp at hn⟩
theorem sN {l:List Int} {b:Int} {n:Nat} (h:n < l.length):(l ++ [b]).getD n 0=l.getD n 0:=by
 rw [List.getD_eq_getElem?_getD,List.getD_eq_getElem?_getD,List.getElem?_append_left h]
theorem xg {l:List Int} {b:Int}:(l ++ [b]).getD l.length 0=b:=by
 rw [List.getD_eq_getElem?_getD,List.getElem?_append_right (Nat.le_refl _),Nat.sub_self];rfl
theorem WyF.step {f:Fun} {wy:List Int} {K:Nat} {b:Int} (hT:Tos f) (h:WyF f wy K) (hb:b∈aF f K):WyF f (wy ++ [b]) b.toNat:=by
 obtain⟨h1,h2,h3,h4,h5⟩:=h;obtain⟨hl,h0⟩:=eE hT hb;have hlen:(wy ++ [b]).length=wy.length+1:=by simp
 refine⟨by omega,hl,?_,fun n hn=> ?_,fun n hn=> ?_⟩
 ·rw [hlen,Nat.add_sub_cancel,xg];omega
 ·rw [hlen] at hn;by_cases e:n < wy.length
  ·rw [sN e];exact h4 n e
  ·obtain rfl:n=wy.length:=(by omega);rw [xg];exact⟨h0,hl⟩
 ·rw [hlen] at hn;by_cases e:n+1 < wy.length
  ·rw [sN e,sN (by omega)];exact h5 n e
  ·obtain⟨m,rfl⟩:∃m,n=m:=⟨n,rfl⟩;have e2:n+1=wy.length:=(by omega);rw [e2,xg,sN (by omega)];have e3:wy.length - 1=n:=(by omega);rw [e3] at h3;rw [h3,Int.toNat_natCast];exact hb
def GU (b:List Ins):Nat:=(b.map fun x=>x.2.2.2.2.1.length).sum
theorem He (b:List Ins):GU b≤4 * wB b:=by
 unfold GU wB;induction b with
 |nil=>simp
 |cons x b ih=>
  simp only [List.map_cons,List.sum_cons];have:x.2.2.2.2.1.length≤4 * wI x:=by unfold wI;omega
  omega
end Go.Proofs.YtfdhemcahjommaaGreatDoor
