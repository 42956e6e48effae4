/- Texts of one chain, joined. -/
import Derived.Test.YtljkgcfnoegibaaGreatDoorZABB
set_option maxHeartbeats 4000000
set_option maxRecDepth 20000
namespace Go.Proofs.YtljkgcfnoegibaaGreatDoor
open Go Go.RowKit
open G (Tok Er Ins Fun)
open Mix (Up)
def rk (B:Nat) (w:World) (us:List Value) (v:Value):Prop:=w.ownsRow B 45 1 v us.length us
theorem rk.below {B:Nat} {w w':World} {us:List Value} {v:Value} (h:rk B w us v) (b:Below w.heap.size w w'):rk B w' us v:=br b B _ _ _ _ _ h
theorem rk.at_ {B:Nat} {w:World} {us:List Value} {v:Value} (h:rk B w us v) (h0:0 < us.length):∃g c,v= .slice (some ⟨g,0,none⟩) us.length c∧B≤g∧(∃cur,w.heap[g]? =some (Obj.cells cur 45 (0,0)))∧(∀k u,us[k]? =some u→w.cell? ⟨g,k,none⟩=some u)∧us.length≤c∧c≤maxLen:=by
 unfold rk at h;have h':=h;rcases h'.2 with ⟨_,hx⟩ | ⟨g,cap,cur,e1,q1,q2,q3,q4,_⟩
 ·omega
 ·refine⟨g,cap,e1,q1,⟨cur,q2⟩,fun k u hu=> ?_,q3,q4⟩;have:=World.ownsRow.cells h (g:=g) (by rw [e1];rfl) k u hu;rw [Addr.add_lit,Nat.zero_add] at this;exact this
def Up.Mc (B:Nat) (l:List Int):Up:=⟨fun v w=>o4 B w l v,fun _ _ _ b h=>h.below b⟩
def Up.MG (B:Nat) (us:List Value):Up:=⟨fun v w=>rk B w us v,fun _ _ _ b h=>h.below b⟩
def Kx (q B:Nat) (pv bv:Value) (ps:List Int) (us:List Value) (t:Tmp):Up:=match t with
 |7 | 13=>Up.eq (.pointer (some ⟨q,1,none⟩))
 |8=>Up.eq pv
 |9=>Up.Mc B ps
 |10=>Up.eq (.pointer (some ⟨q,3,none⟩))
 |11=>Up.eq bv
 |12=>Up.MG B us
 |_=>Up.any
def gI (w0:World) (A1 A2:Array Value) (ps:List Int) (v9:Value) (f:Fun) (Z:Nat→Prop) (gO gB:Nat) (b:List Ins):MixR.Rel:=
 ⟨fun w w'=>w.grownBy w' (some gB)∧(StA w0 Z A1 A2 ps v9 f gO gB w∧InX Z gO gB w b→StA w0 Z A1 A2 ps v9 f gO gB w'∧InX Z gO gB w' b),fun _=>⟨bY (Below.refl _ _) _,fun h=>h⟩,fun _ _ _ h k=>⟨h.1.trans k.1,fun q=>k.2 (h.2 q)⟩,fun _=>⟨bY (Below.refl _ _).drew _,fun h=>⟨h.1.fresh (Below.refl _ _).drew (.inl rfl),h.2.below (Below.refl _ _).drew⟩⟩⟩
theorem AY {w0:World} {A1 A2:Array Value} {ps:List Int} {v9:Value} {f:Fun} {Z:Nat→Prop} {gO gB:Nat} {b:List Ins} {w w':World} (k:Below w.heap.size w w'):(gI w0 A1 A2 ps v9 f Z gO gB b).1 w w':=⟨bY k _,fun h=>⟨h.1.fresh k (.inl rfl),h.2.below k⟩⟩
def DF (B gB:Nat) (w:World) (l:List Int) (v:Value):Prop:=o4 B w l v∧v.ownBlock≠some gB
def UpR.Lx (w0:World) (A1 A2:Array Value) (ps:List Int) (v9:Value) (f:Fun) (Z:Nat→Prop) (gO gB:Nat) (b:List Ins) (B:Nat) (l:List Int):MixR.Up (gI w0 A1 A2 ps v9 f Z gO gB b):=⟨fun v w=>DF B gB w l v,fun _ _ _ k h=>⟨World.ownsRow.kept h.1 k.1 (.inr h.2),h.2⟩⟩
theorem sN {R:MixR.Rel} {W:World} {F:Tmp→MixR.Up R} {d:Tmp} {f:FuncId} {args:Array Value} (h:Calls Tryz.prog f args W fun e w'=>∃v,e= .returned v∧R.1 W w'∧(F d).1 v w'):∃v,MixR.Valid W F (some d) v:=by
 obtain⟨e,w',v,_,b,hf⟩:=dj h;exact⟨v,w',b,fun d' hd=>by cases hd;exact hf⟩
theorem dw {R:MixR.Rel} {W:World} {F:Tmp→MixR.Up R} {d:Tmp} (c:Value) (h:(F d).1 c W):∃v,MixR.Valid W F (some d) v:=⟨c,W,R.2.1 _,fun d' hd=>by cases hd;exact h⟩
def Ky (w0:World) (A1 A2:Array Value) (ps:List Int) (v9:Value) (f:Fun) (Z:Nat→Prop) (gO gB:Nat) (b:List Ins) (sv iv av tv:Value) (q I B:Nat) (aa tt:List Int) (t:Tmp):MixR.Up (gI w0 A1 A2 ps v9 f Z gO gB b):=match t with
 |32 | 34=>MixR.Up.eq _ sv
 |33 | 35=>MixR.Up.eq _ iv
 |36=>MixR.Up.eq _ (.pointer (some ⟨q,4,none⟩))
 |37=>MixR.Up.eq _ av
 |38=>UpR.Lx w0 A1 A2 ps v9 f Z gO gB b B aa
 |39=>MixR.Up.eq _ (.pointer (some ⟨q,5,none⟩))
 |40=>MixR.Up.eq _ tv
 |41=>UpR.Lx w0 A1 A2 ps v9 f Z gO gB b B tt
 |42 | 44=>MixR.Up.eq _ (.pointer (some ⟨gB,I * 8,none⟩))
 |43=>MixR.Up.eq _ (.pointer (some ⟨gB,I * 8+4,none⟩))
 |45=>MixR.Up.eq _ (.pointer (some ⟨gB,I * 8+5,none⟩))
 |_=>MixR.Up.any _
theorem mh (l:List Int) (ao:Option Addr) (c:Nat) (w:World) (hs:Sl w ao l) (hl:l.length≤1000000):Calls Tryz.prog 50 #[.slice ao l.length c] w fun e w'=>∃v,e= .returned v∧Below w.heap.size w w'∧o4 w.heap.size w' l v:=by
 refine(Kb ao l.length c (ints l) w (by simp [ints]) ?_ (ints_oneCell .i64 l) hl).mono fun e w' ⟨v,he,ho,b⟩=>⟨v,he,b,ho⟩;rcases hs with rfl | ⟨b,o,e,hb,hc⟩
 ·exact .inl rfl
 ·refine .inr ⟨b,o,e,hb,fun j u hj=> ?_⟩;simp only [ints,List.getElem?_map,Option.map_eq_some_iff] at hj;obtain⟨n,hn,rfl⟩:=hj;exact hc j n hn
theorem Hv {w:World} {l:List (List Ins)} {ao:Option Addr} {n c:Nat} (h:dy w l (.slice ao n c)) (h0:0 < l.length):∃(us:List Value) (g o:Nat),us.length=l.length∧ao=some ⟨g,o,none⟩∧g < w.heap.size∧(∀(j:Nat) (u:Value),us[j]? =some u→w.cell? ⟨g,o+j,none⟩=some u)∧(∀u∈us,u.oneCell'=true)∧∀(k:Nat) (b:List Ins),l[k]? =some b→∃u,us[k]? =some u∧j7 w b u:=by
 obtain⟨ao',c',e,_,_,h3⟩:=h;injection e with e1 e2 e3;subst e1 e3;rcases h3 with h3 | ⟨g,o,e4,hg,h4⟩
 ·rw [h3] at h0;simp at h0
 ·refine⟨(List.range l.length).map fun k=>(w.cell? ⟨g,o+k,none⟩).getD undef,g,o,by simp,e4,hg,fun j u hj=> ?_,fun u hu=> ?_,fun k b hb=> ?_⟩
  ·have hj':j < l.length:=(by have:=(List.getElem?_eq_some_iff.1 hj).1;simpa using this);rw [List.getElem?_map,List.getElem?_range hj'] at hj;simp only [Option.map_some,Option.some.injEq] at hj;obtain⟨u',hu',_⟩:=h4 j _ (List.getElem?_eq_getElem hj');rw [hu'] at hj ⊢;rw [←hj];rfl
  ·simp only [List.mem_map,List.mem_range] at hu;obtain⟨k,hk,rfl⟩:=hu;obtain⟨u',hu',⟨_,_,rfl,_⟩⟩:=h4 k _ (List.getElem?_eq_getElem hk);rw [hu'];rfl
  ·obtain⟨u',hu',hb'⟩:=h4 k b hb;refine⟨u',?_,hb'⟩;have hk:k < l.length:=(List.getElem?_eq_some_iff.1 hb).1;rw [List.getElem?_map,List.getElem?_range hk];simp [hu']
theorem Bs (f:Fun) (fv:Value) (w00 w:World) (b00:Below w00.heap.size w00 w) (hv0:cg w00 f fv) (h0:0 < f.2.2.2.1.length) (hM:Mod f) (hp:f.2.1.length≤1000000) (hA:∀b∈f.2.2.2.1,b≠ []∧∀x∈b,x.2.2.2.2.1.length≤1000000∧x.2.2.2.2.2.1.length≤1000000):
  Calls Tryz.prog 28 #[fv] w fun e w'=>∃v,e= .returned v∧(∀w'':World,w'.heap.size≤w''.heap.size→(∀j,j < w'.heap.size→¬(w00.heap.size≤j∧j < w.heap.size)→w''.heap[j]? =w'.heap[j]?)→cg w'' f v)∧Below w.heap.size w w':=by
 have hv:=hv0.below b00;obtain⟨lp,cp,lb,cb,rfl,_,_⟩:=de hv;have hbk:=fN hv0;have HPs:Hid (Sl w lp f.2.1):=ae (by
  obtain⟨vp,vb,e,⟨ao',c',e2,hs,_⟩,_⟩:=hv;simp only [Value.agg.injEq,Array.mk.injEq,List.cons.injEq] at e;obtain⟨_,e3,_⟩:=e;rw [e2] at e3;injection e3 with e3;subst e3;exact hs)
 obtain⟨us,gS,oS,husl,rfl,hgS,husc,hus1,husB⟩:=Hv hbk h0;have HUc:Hid (∀(j:Nat) (u:Value),us[j]? =some u→w.cell? ⟨gS,oS+j,none⟩=some u):=ae (fun j u hj=>(b00.cell (p:=⟨gS,oS+j,none⟩) hgS).trans (husc j u hj));replace hgS:gS < w.heap.size:=Nat.lt_of_lt_of_le hgS b00.size;have B00:=ae b00;have hs00:=b00.size;have HU1:=ae hus1;have HUB:=ae husB;have HA:=ae hA;have HMb:=ae (fun k=>hM.blk k);have hN:=hM.1;clear hv hv0 b00 hbk husc hus1 husB hA hM;obtain⟨nm,hnm⟩:∃n,bs f.1=n:=⟨_,rfl⟩;obtain⟨ps,hps⟩:∃n,f.2.1=n:=⟨_,rfl⟩;obtain⟨rt,hrt⟩:∃n,f.2.2.1=n:=⟨_,rfl⟩;obtain⟨pl,hpl⟩:∃n,f.2.2.2.2=n:=⟨_,rfl⟩;obtain⟨lbs,hlbs⟩:∃n,f.2.2.2.1.length=n:=⟨_,rfl⟩;have HFv:Hid (∀(w':World) (vp vb:Value),bX w' ps vp→dy w' f.2.2.2.1 vb→cg w' f (.agg #[.string nm,vp,.int .i64 rt,vb,.int .i64 pl])):=ae (fun w' vp vb q1 q2=>⟨vp,vb,by rw [hnm,hrt,hpl],by rw [hps];exact q1,q2⟩);rw [hnm,hps,hrt,hpl,hlbs];rw [hps] at HPs hp;rw [hlbs] at h0 husl hN;obtain⟨lps,hlps⟩:∃n,ps.length=n:=⟨_,rfl⟩;rw [hlps];clear hnm hrt hpl hps;replace hlbs:=ae hlbs;have hus0:0 < us.length:=by omega
 obtain⟨b0,h0',h1⟩:=kK w (.cells #[.string nm,.slice lp lps cp,.int .i64 rt,.slice (some ⟨gS,oS,none⟩) lbs cb,.int .i64 pl] 36) (.cells #[.string ⟨#[]⟩,.slice none 0 0,.int .i64 0,.slice none 0 0,.int .i64 0] 36);have H0:=ae h0';have H1:=ae h1;have B0:=ae b0;clear b0 h0' h1;go_enter Tryz.func28,Tryz.ntmps28
 go_upto_region 1 with fail
 show Code.wp _ _ _ _ ((w.alloc (.cells #[.string nm,.slice lp lps cp,.int .i64 rt,.slice (some ⟨gS,oS,none⟩) lbs cb,.int .i64 pl] 36)).alloc (.cells #[.string ⟨#[]⟩,.slice none 0 0,.int .i64 0,.slice none 0 0,.int .i64 0] 36));have hWs:((w.alloc (.cells #[.string nm,.slice lp lps cp,.int .i64 rt,.slice (some ⟨gS,oS,none⟩) lbs cb,.int .i64 pl] 36)).alloc (.cells #[.string ⟨#[]⟩,.slice none 0 0,.int .i64 0,.slice none 0 0,.int .i64 0] 36)).heap.size=w.heap.size+2:=by simp
 generalize (w.alloc (.cells #[.string nm,.slice lp lps cp,.int .i64 rt,.slice (some ⟨gS,oS,none⟩) lbs cb,.int .i64 pl] 36)).alloc (.cells #[.string ⟨#[]⟩,.slice none 0 0,.int .i64 0,.slice none 0 0,.int .i64 0] 36)=W at *;replace hWs:=ae hWs;generalize hq:w.heap.size=q at *;have hq0:=(Array.getElem?_eq_some_iff.1 H0.out).1;have hq1:=(Array.getElem?_eq_some_iff.1 H1.out).1;have BW:Hid (Below w.heap.size w W):=ae (by rw [hq];exact B0.out);have CI:∀w',Below W.heap.size W w'→Calls Tryz.prog 50 #[.slice lp lps cp] w' fun e w''=>∃v,e= .returned v∧Below w'.heap.size w' w''∧o4 W.heap.size w'' ps v:=fun w' b=>by
  rw [←hlps];exact(mh ps lp cp w' (HPs.out.below (af BW.out b)) hp).mono fun e w'' ⟨v,he,b',hr⟩=>⟨v,he,b',aT hr b.size⟩
 have CB:∀w',Below W.heap.size W w'→Calls Tryz.prog 51 #[.slice (some ⟨gS,oS,none⟩) lbs cb] w' fun e w''=>∃v,e= .returned v∧Below w'.heap.size w' w''∧rk W.heap.size w'' us v:=fun w' b=>by
  have hbw:=af BW.out b;refine(Kc (some ⟨gS,oS,none⟩) lbs cb us w' (by omega) (.inr ⟨gS,oS,rfl,Nat.lt_of_lt_of_le hgS (by have:=hbw.size;omega),fun j u hj=>(hbw.cell (p:=⟨gS,oS+j,none⟩) (by rw [hq];exact hgS)).trans (HUc.out j u hj)⟩) HU1.out hN).mono fun e w'' ⟨v,he,ho,b'⟩=>⟨v,he,b',?_⟩;unfold rk;rw [husl];exact aT ho b.size
 have xs:=fun(w':World) (b:Below W.heap.size W w')=>(bP ((b.block _ hq0).trans H0.out)).1;refine Mix.wp_region_tail (Kx q W.heap.size (.slice lp lps cp) (.slice (some ⟨gS,oS,none⟩) lbs cb) ps us) 7 2 _ rfl rfl (by kernel_rfl) (by kernel_rfl) (by kernel_rfl) (by kernel_rfl) ?_;refine Mix.aj rfl (aq (.pointer (some ⟨q,1,none⟩)) rfl) ?_ ?_
 ·intro w b k;clear k;simp [go_sem];exact⟨Below.refl _ _,fun d hd=>by cases hd;rfl⟩
 rintro v ⟨_,_,h⟩;obtain rfl:v=(.pointer (some ⟨q,1,none⟩)):=h _ rfl;clear h;simp only [Act.put,sU1,sU2,sU3];refine Mix.aj rfl (aq (.slice lp lps cp) rfl) ?_ ?_
 ·intro w b k;obtain⟨x0,x1,x2,x3,x4⟩:=xs w b;clear k;simp [go_sem,x1];exact⟨Below.refl _ _,fun d hd=>by cases hd;rfl⟩
 rintro v ⟨_,_,h⟩;obtain rfl:v=(.slice lp lps cp):=h _ rfl;clear h;simp only [Act.put,sU1,sU2,sU3];refine Mix.aj rfl (cD (CI W (Below.refl _ _))) ?_ ?_
 ·intro w b k;clear k;simp [go_sem];exact Calls.mono (CI w b) fun e w' ⟨v,he,hb,hf⟩=>⟨v,he,hb,fun d hd=>by cases hd;exact hf⟩
 rintro p9 -;simp only [Act.put,sU1,sU2,sU3];refine Mix.aj rfl (aq (.pointer (some ⟨q,3,none⟩)) rfl) ?_ ?_
 ·intro w b k;clear k;simp [go_sem];exact⟨Below.refl _ _,fun d hd=>by cases hd;rfl⟩
 rintro v ⟨_,_,h⟩;obtain rfl:v=(.pointer (some ⟨q,3,none⟩)):=h _ rfl;clear h;simp only [Act.put,sU1,sU2,sU3];refine Mix.aj rfl (aq (.slice (some ⟨gS,oS,none⟩) lbs cb) rfl) ?_ ?_
 ·intro w b k;obtain⟨x0,x1,x2,x3,x4⟩:=xs w b;clear k;simp [go_sem,x3];exact⟨Below.refl _ _,fun d hd=>by cases hd;rfl⟩
 rintro v ⟨_,_,h⟩;obtain rfl:v=(.slice (some ⟨gS,oS,none⟩) lbs cb):=h _ rfl;clear h;simp only [Act.put,sU1,sU2,sU3];refine Mix.aj rfl (cD (CB W (Below.refl _ _))) ?_ ?_
 ·intro w b k;clear k;simp [go_sem];exact Calls.mono (CB w b) fun e w' ⟨v,he,hb,hf⟩=>⟨v,he,hb,fun d hd=>by cases hd;exact hf⟩
 rintro p12 -;simp only [Act.put,sU1,sU2,sU3];refine Mix.aj rfl (aq (.pointer (some ⟨q,1,none⟩)) rfl) ?_ ?_
 ·intro w b k;clear k;simp [go_sem];exact⟨Below.refl _ _,fun d hd=>by cases hd;rfl⟩
 rintro v ⟨_,_,h⟩;obtain rfl:v=(.pointer (some ⟨q,1,none⟩)):=h _ rfl;clear h;simp only [Act.put,sU1,sU2,sU3];refine Mix.ed ?_;intro w4 b4 hk;have f9:o4 W.heap.size w4 ps p9:=hk 9 (by simp [Mix.add]) p9 rfl;have f12:rk W.heap.size w4 us p12:=hk 12 (by simp [Mix.add]) p12 rfl;clear hk;obtain⟨so,sc,rfl,hso,hsc1,hsc2⟩:=dG f9;obtain⟨gO,cO,rfl,hgB,⟨curO,hgO⟩,hOc,hO1,hO2⟩:=f12.at_ hus0;refine⟨rfl,fun K hK=> ?_⟩;obtain⟨⟨x0,x1,x2,x3,x4⟩,⟨f0,f1,f2,f3,f4⟩,_⟩:=bP ((b4.block _ hq0).trans H0.out);unfold Oper.wp;simp [go_sem,x1,f1];refine hK _ _ ?_;clear hK;have hb1:=(heap_setCell_same w4 q 1 _ 36 (.slice so ps.length sc) ((b4.block _ hq0).trans H0.out)).trans (show _=some (Obj.cells #[.string nm,.slice so ps.length sc,.int .i64 rt,.slice (some ⟨gS,oS,none⟩) lbs cb,.int .i64 pl] 36 (0,0)) from rfl);refine Mix.n8 (i:=8) (by kernel_rfl) rfl rfl ?_;intro K hK;unfold Oper.wp;simp [go_sem];refine hK _ _ ?_;clear hK;refine Mix.n8 (i:=9) (by kernel_rfl) rfl rfl ?_;intro K hK;obtain⟨⟨y0,y1,y2,y3,y4⟩,⟨g0,g1,g2,g3,g4⟩,_⟩:=bP hb1;unfold Oper.wp;simp [go_sem,y3,g3];refine hK _ _ ?_;clear hK;have hb2:=(heap_setCell_same (w4.setCell ⟨q,1,none⟩ (.slice so ps.length sc)) q 3 _ 36 (.slice (some ⟨gO,0,none⟩) us.length cO) hb1).trans (show _=some (Obj.cells #[.string nm,.slice so ps.length sc,.int .i64 rt,.slice (some ⟨gO,0,none⟩) us.length cO,.int .i64 pl] 36 (0,0)) from rfl);refine Mix.sC (by kernel_rfl) ?_;clear x0 x1 x2 x3 x4 f0 f1 f2 f3 f4 y0 y1 y2 y3 y4 g0 g1 g2 g3 g4;rw [husl] at hb2 hO1 ⊢;have e9:Value.slice so ps.length sc= .slice so lps sc:=by rw [hlps]
 rw [e9] at hb2 f9 ⊢;replace hlps:=ae hlps;obtain⟨Z,hZ⟩:∃Z:Nat→Prop,∀b,Z b↔(b=w.heap.size+1∨(w00.heap.size≤b∧b < w.heap.size)):=⟨_,fun _=>Iff.rfl⟩;have HZ:=ae hZ;clear e9;have hWq:=hWs.out;have HSt:Hid (StA w Z #[.string nm,.slice so lps sc,.int .i64 rt,.slice (some ⟨gO,0,none⟩) lbs cO,.int .i64 pl] #[.string ⟨#[]⟩,.slice none 0 0,.int .i64 0,.slice none 0 0,.int .i64 0] ps (.slice so lps sc) f gO gO ((w4.setCell ⟨q,1,none⟩ (.slice so lps sc)).setCell ⟨q,3,none⟩ (.slice (some ⟨gO,0,none⟩) lbs cO))):=ae (by
  have hs:∀j,j≠q→((w4.setCell ⟨q,1,none⟩ (.slice so lps sc)).setCell ⟨q,3,none⟩ (.slice (some ⟨gO,0,none⟩) lbs cO)).heap[j]? =w4.heap[j]? :=fun j hj=>(Below.heap_setCell _ ⟨q,3,none⟩ _ j hj).trans (Below.heap_setCell w4 ⟨q,1,none⟩ _ j hj);have hsz:w4.heap.size≤((w4.setCell ⟨q,1,none⟩ (.slice so lps sc)).setCell ⟨q,3,none⟩ (.slice (some ⟨gO,0,none⟩) lbs cO)).heap.size:=Nat.le_trans (cJ w4 ⟨q,1,none⟩ _).size (cJ _ ⟨q,3,none⟩ _).size;have hbw:=af BW.out b4;have hB5:=((hbw.setCell (p:=⟨q,1,none⟩) (by show w.heap.size≤q;omega) (.slice so lps sc)).setCell (p:=⟨q,3,none⟩) (by show w.heap.size≤q;omega) (.slice (some ⟨gO,0,none⟩) lbs cO));refine⟨hB5,by rw [hq];exact hb2,by rw [hq,hs _ (by omega)];exact(b4.block _ hq1).trans H1.out,by omega,?_,⟨curO,(hs _ (by omega)).trans hgO⟩,fun k hk=> ?_⟩
  ·have h9:=f9.a (fun b=>b=gO∨b=q∨Z b) (fun b hb=>by
    rcases hb with rfl | rfl | hb
    ·exact .inr ⟨curO,45,(0,0),by decide,hgO⟩
    ·exact .inl (by omega)
    ·exact .inl (by have:=(hZ b).1 hb;omega))
   exact h9.grown hsz (fun b _ hn=>⟨hs b (fun e=>hn (.inr (.inl e))),fun e=>hn (by
    rcases e with e | e | e
    ·exact .inl e
    ·exact .inl e
    ·exact .inr (.inr e))⟩)
  ·obtain⟨u,hu,hbr⟩:=HUB.out k _ (eS hk);refine⟨u,lA (hs _ (by omega)) (hOc k u hu),(Hr hbr).grown (by have:=hbw.size;omega) (fun b hb _=>⟨(hB5.block b (by omega)).trans (B00.out.block b hb),?_⟩)⟩;intro e;rcases e with e | e | e
   ·omega
   ·omega
   ·have:=(hZ b).1 e;omega)
 clear hZ;have HgO:Hid (w.heap.size+1 < gO):=ae (by omega);clear hb1 hb2 hgO hOc f9 hso b4 hWq CI CB xs H0 H1 HUB HUc HU1 HPs f12 BW B0;generalize (w4.setCell ⟨q,1,none⟩ (.slice so lps sc)).setCell ⟨q,3,none⟩ (.slice (some ⟨gO,0,none⟩) lbs cO)=w5 at *;obtain⟨A1,hA1⟩:∃A:Array Value,A= #[.string nm,.slice so lps sc,.int .i64 rt,.slice (some ⟨gO,0,none⟩) lbs cO,.int .i64 pl]:=⟨_,rfl⟩;have HA1:=ae hA1;obtain⟨A2,hA2⟩:∃A:Array Value,A= #[.string ⟨#[]⟩,.slice none 0 0,.int .i64 0,.slice none 0 0,.int .i64 0]:=⟨_,rfl⟩;have HA2:=ae hA2;rw [←hA1,←hA2] at HSt;clear hA1 hA2;have bx:=HSt.out.2.1;rw [HA1.out,hq] at bx;obtain⟨⟨x0,x1,x2,x3,x4⟩,_,_⟩:=bP bx;go_wp2_with fail
 clear x0 x1 x2 x3 x4 bx;go_loopw [18] (fun kv wr=>∃K:Nat,K≤lbs∧kv= .int .i64 K∧Hid (StA w Z A1 A2 ps (.slice so lps sc) f gO gO wr)) (fun kv _=>lbs - (intOf kv).toNat)
 case atStart=>exact⟨0,Nat.zero_le _,rfl,HSt⟩
 case round=>
  clear HSt;obtain⟨K,hK,rfl,HSt⟩:=hrel;by_cases hkt:K < lbs
  ·have hkI:(K:Int) < lbs:=(by omega);have hkl:K < f.2.2.2.1.length:=(by rw [hlbs.out];exact hkt);obtain⟨u,cu,hbu⟩:=HSt.out.2.2.2.2.2.2 K hkl;have hmem:aG f K∈f.2.2.2.1:=List.mem_of_getElem? (eS hkl);have HBe:=ae (HA.out _ hmem);have hlb:=HMb.out K;obtain⟨ub,uc,rfl,hu1,hu2,hu3⟩:=hbu;obtain⟨gS',oS',rfl,hnS,hIns⟩:∃g o,ub=some ⟨g,o,none⟩∧¬Nn Z gO gO g∧∀i x,(aG f K)[i]? =some x→zL (Nn Z gO gO) wr x g (o+i * 8):=by
    rcases hu3 with h | h
    ·exact absurd h HBe.out.1
    ·exact h
   obtain⟨b,hbE⟩:∃b,aG f K=b:=⟨_,rfl⟩;rw [hbE] at cu HBe hlb hu1 hIns;have HbE:=ae hbE;clear hbE hmem hu3;obtain⟨ys,hys,hyc,hy1,hyx⟩:=Ca hIns;have hbpos:0 < b.length:=List.length_pos_iff.2 HBe.out.1;have hgS':gS' < wr.heap.size:=by
    obtain⟨x,hx⟩:∃x,b[0]? =some x:=⟨b[0],List.getElem?_eq_getElem hbpos⟩;exact(hIns 0 x hx).1
   have HCx:=ae (IU (some ⟨gS',oS',none⟩) b.length uc ys wr hys (.inr ⟨gS',oS',rfl,hgS',hyc⟩) hy1 hlb);obtain⟨n,hbn⟩:∃n,b.length=n:=⟨_,rfl⟩;rw [hbn] at cu HCx hlb hbpos;have HYx:=ae hyx;replace hbn:=ae hbn;have hysl:=ae hys;clear hyc hy1 hyx hIns hnS hys hu1 hu2;go_wp2_with fail
   refine HCx.out.mono ?_;rintro e w6 ⟨v6,rfl,ho6,b6⟩;obtain⟨gB,cB,rfl,hgB6,hcB,hx6⟩:∃gB cB,v6= .slice (some ⟨gB,0,none⟩) n cB∧wr.heap.size≤gB∧(n≤cB∧cB≤maxLen)∧InX Z gO gB w6 b:=by
    have ho7:=ho6;rcases ho7.2 with ⟨_,hx⟩ | ⟨g,cap,cur,e1,q1,q2,q3,q4,_⟩
    ·omega
    ·refine⟨g,cap,e1,q1,⟨q3,q4⟩,⟨cur,q2⟩,fun i x hx=> ?_⟩;obtain⟨va,vt,d0,d1,d2⟩:=HYx.out i x hx;have hk:∀z,z < wr.heap.size→¬Nn Z gO gO z→w6.heap[z]? =wr.heap[z]? ∧¬Nn Z gO g z:=fun z hz hn=>⟨b6.block z hz,fun e=>by
      rcases e with e | e | e
      ·exact hn (.inl e)
      ·omega
      ·exact hn (.inr (.inr e))⟩
     refine⟨(Array.getElem?_eq_some_iff.1 q2).1,va,vt,fun j t hj=> ?_,d1.grown b6.size hk,d2.grown b6.size hk⟩;have:=World.ownsRow.cells ho6 (g:=g) (by rw [e1];rfl) (i * 8+j) t (d0 j t hj);rw [Addr.add_lit,Nat.zero_add] at this;exact this
   have HS6:=ae (HSt.out.fresh b6 (.inr (.inr hgB6)));have HX6:=ae hx6;have hgOl:gO < wr.heap.size:=by
    obtain⟨cur,h⟩:=HSt.out.2.2.2.2.2.1;exact(Array.getElem?_eq_some_iff.1 h).1
   have HgB:Hid (gB≠gO∧w.heap.size+1 < gB):=ae ⟨by omega,by have:=HgO.out;omega⟩;clear ho6 b6 HCx HYx hx6 cu hgB6 hgOl HSt;go_wp2_with fail
   go_loopw [27] (fun iv wr2=>∃I:Nat,I≤n∧iv= .int .i64 I∧Hid (StA w Z A1 A2 ps (.slice so lps sc) f gO gB wr2)∧Hid (InX Z gO gB wr2 b)) (fun iv _=>n - (intOf iv).toNat)
   case atStart=>exact⟨0,Nat.zero_le _,rfl,HS6,HX6⟩
   case round=>
    clear HS6 HX6;obtain⟨I,hI,rfl,HS,HX⟩:=hrel;by_cases hit:I < n
    ·have hiI:(I:Int) < n:=(by omega);obtain⟨x,hx⟩:∃x,b[I]? =some x:=⟨b[I]'(by rw [hbn.out];exact hit),List.getElem?_eq_getElem (by rw [hbn.out];exact hit)⟩;have Hxx:=ae hx;have HLe:=ae (HBe.out.2 x (List.mem_of_getElem? hx));obtain⟨hgl,va,vt,cc,hva,hvt⟩:=HX.out.2 I x hx;have HIa:=ae hva;have HIz:=ae hvt;obtain⟨xo,xc,rfl,_,_,_⟩:=hva;obtain⟨zo,zc,rfl,_,_,_⟩:=hvt;have e0:wr.cell? ⟨gB,I * 8,none⟩=some (.int .i64 x.1):=cc 0 _ rfl;have e1:wr.cell? ⟨gB,I * 8+1,none⟩=some (.int .i64 x.2.1):=cc 1 _ rfl;have e2:wr.cell? ⟨gB,I * 8+2,none⟩=some (.int .i64 x.2.2.1):=cc 2 _ rfl;have e3:wr.cell? ⟨gB,I * 8+3,none⟩=some (.int .i64 x.2.2.2.1):=cc 3 _ rfl;have e4:wr.cell? ⟨gB,I * 8+4,none⟩=some (.slice xo x.2.2.2.2.1.length xc):=cc 4 _ rfl;have e5:wr.cell? ⟨gB,I * 8+5,none⟩=some (.slice zo x.2.2.2.2.2.1.length zc):=cc 5 _ rfl;have e6:wr.cell? ⟨gB,I * 8+6,none⟩=some (.string (bs x.2.2.2.2.2.2.1)):=cc 6 _ rfl;have e7:wr.cell? ⟨gB,I * 8+7,none⟩=some (.int .i64 x.2.2.2.2.2.2.2):=cc 7 _ rfl;obtain⟨xl,hxl⟩:∃n,x.2.2.2.2.1.length=n:=⟨_,rfl⟩;obtain⟨zl,hzl⟩:∃n,x.2.2.2.2.2.1.length=n:=⟨_,rfl⟩;rw [hxl] at e4;rw [hzl] at e5;clear cc hx;replace hgl:=ae hgl;have b3:=ah wr (.cells #[.int .i64 x.1,.int .i64 x.2.1,.int .i64 x.2.2.1,.int .i64 x.2.2.2.1,.slice xo xl xc,.slice zo zl zc,.string (bs x.2.2.2.2.2.2.1),.int .i64 x.2.2.2.2.2.2.2] 47);have Y3:=ae (heap_alloc_new wr (.cells #[.int .i64 x.1,.int .i64 x.2.1,.int .i64 x.2.2.1,.int .i64 x.2.2.2.1,.slice xo xl xc,.slice zo zl zc,.string (bs x.2.2.2.2.2.2.1),.int .i64 x.2.2.2.2.2.2.2] 47));have HS3:=ae (HS.out.fresh b3 (.inl rfl));have HX3:=ae (HX.out.below b3);have HIa3:=ae (HIa.out.grown (N':=Nn Z gO gB) b3.size (fun z hz hn=>⟨b3.block z hz,hn⟩));have HIz3:=ae (HIz.out.grown (N':=Nn Z gO gB) b3.size (fun z hz hn=>⟨b3.block z hz,hn⟩));have Hq3:Hid (gB < wr.heap.size):=hgl;have Inv3:=ae (And.intro HS3.out HX3.out);have hgl3:Hid (wr.heap.size < (wr.alloc (.cells #[.int .i64 x.1,.int .i64 x.2.1,.int .i64 x.2.2.1,.int .i64 x.2.2.2.1,.slice xo xl xc,.slice zo zl zc,.string (bs x.2.2.2.2.2.2.1),.int .i64 x.2.2.2.2.2.2.2] 47)).heap.size):=ae (by simp);clear b3 HS HX HIa HIz;go_upto_region 9 with fail
     show Code.wp _ _ _ _ (wr.alloc (.cells #[.int .i64 x.1,.int .i64 x.2.1,.int .i64 x.2.2.1,.int .i64 x.2.2.2.1,.slice xo xl xc,.slice zo zl zc,.string (bs x.2.2.2.2.2.2.1),.int .i64 x.2.2.2.2.2.2.2] 47));generalize wr.alloc (.cells #[.int .i64 x.1,.int .i64 x.2.1,.int .i64 x.2.2.1,.int .i64 x.2.2.2.1,.slice xo xl xc,.slice zo zl zc,.string (bs x.2.2.2.2.2.2.1),.int .i64 x.2.2.2.2.2.2.2] 47)=w3 at *;generalize wr.heap.size=q3 at *;clear e0 e1 e2 e3 e4 e5 e6 e7;have hq3:=(Array.getElem?_eq_some_iff.1 Y3.out).1;have CA:∀w',(gI w A1 A2 ps (.slice so lps sc) f Z gO gB b).1 w3 w'→Calls Tryz.prog 50 #[.slice xo xl xc] w' fun e w''=>∃v,e= .returned v∧(gI w A1 A2 ps (.slice so lps sc) f Z gO gB b).1 w' w''∧DF w3.heap.size gB w'' x.2.2.2.2.1 v:=fun w' k=>by
      have hs:=(HIa3.out.grown (N':=Nn Z gO gB) k.1.size (fun z hz hn=>⟨k.1.block z hz (by intro e;injection e with e;exact hn (.inr (.inl e))),hn⟩)).v;obtain⟨ao',c',e,hsl,_⟩:=hs;injection e with e1 e2 e3;subst e1;rw [←hxl];refine(mh x.2.2.2.2.1 xo xc w' hsl HLe.out.1).mono fun e w'' ⟨v,he,b',hr⟩=>⟨v,he,AY b',aT hr k.1.size,fun e5=> ?_⟩;have h5:=(World.ownsRow.lt hr gB e5).1;have h6:=k.1.size;have h7:=Hq3.out;have h8:=hgl3.out;omega
     have CT:∀w',(gI w A1 A2 ps (.slice so lps sc) f Z gO gB b).1 w3 w'→Calls Tryz.prog 50 #[.slice zo zl zc] w' fun e w''=>∃v,e= .returned v∧(gI w A1 A2 ps (.slice so lps sc) f Z gO gB b).1 w' w''∧DF w3.heap.size gB w'' x.2.2.2.2.2.1 v:=fun w' k=>by
      have hs:=(HIz3.out.grown (N':=Nn Z gO gB) k.1.size (fun z hz hn=>⟨k.1.block z hz (by intro e;injection e with e;exact hn (.inr (.inl e))),hn⟩)).v;obtain⟨ao',c',e,hsl,_⟩:=hs;injection e with e1 e2 e3;subst e1;rw [←hzl];refine(mh x.2.2.2.2.2.1 zo zc w' hsl HLe.out.2).mono fun e w'' ⟨v,he,b',hr⟩=>⟨v,he,AY b',aT hr k.1.size,fun e5=> ?_⟩;have h5:=(World.ownsRow.lt hr gB e5).1;have h6:=k.1.size;have h7:=Hq3.out;have h8:=hgl3.out;omega
     have hqg:q3≠gB:=(by have:=Hq3.out;omega);have Hzl:Hid (∀z,Z z→z < w3.heap.size):=ae (fun z hz=>by have:=(HZ.out z).1 hz;have:=HgB.out.2;have:=Hq3.out;have:=hgl3.out;omega);have ys4:=fun(w':World) (k:(gI w A1 A2 ps (.slice so lps sc) f Z gO gB b).1 w3 w')=>(cH (oW k.1 Y3.out hqg)).1.2.2.2.2.1;have ys5:=fun(w':World) (k:(gI w A1 A2 ps (.slice so lps sc) f Z gO gB b).1 w3 w')=>(cH (oW k.1 Y3.out hqg)).1.2.2.2.2.2.1;refine MixR.cj (Ky w A1 A2 ps (.slice so lps sc) f Z gO gB b (.slice (some ⟨gB,0,none⟩) n cB) (.int .i64 I) (.slice xo xl xc) (.slice zo zl zc) q3 I w3.heap.size x.2.2.2.2.1 x.2.2.2.2.2.1) (by kernel_rfl) (by kernel_rfl) ?_;refine MixR.aj rfl (dw (.slice (some ⟨gB,0,none⟩) n cB) rfl) ?_ ?_
     ·intro w b k;clear k;simp [go_sem];exact⟨(gI _ _ _ _ _ _ _ _ _ _).2.1 _,fun d hd=>by cases hd;rfl⟩
     rintro v ⟨_,_,h⟩;obtain rfl:v=(.slice (some ⟨gB,0,none⟩) n cB):=h _ rfl;clear h;simp only [Act.put,sU1,sU2,sU3];refine MixR.aj rfl (dw (.int .i64 I) rfl) ?_ ?_
     ·intro w b k;clear k;simp [go_sem];exact⟨(gI _ _ _ _ _ _ _ _ _ _).2.1 _,fun d hd=>by cases hd;rfl⟩
     rintro v ⟨_,_,h⟩;obtain rfl:v=(.int .i64 I):=h _ rfl;clear h;simp only [Act.put,sU1,sU2,sU3];refine MixR.aj rfl (dw (.slice (some ⟨gB,0,none⟩) n cB) rfl) ?_ ?_
     ·intro w b k;clear k;simp [go_sem];exact⟨(gI _ _ _ _ _ _ _ _ _ _).2.1 _,fun d hd=>by cases hd;rfl⟩
     rintro v ⟨_,_,h⟩;obtain rfl:v=(.slice (some ⟨gB,0,none⟩) n cB):=h _ rfl;clear h;simp only [Act.put,sU1,sU2,sU3];refine MixR.aj rfl (dw (.int .i64 I) rfl) ?_ ?_
     ·intro w b k;clear k;simp [go_sem];exact⟨(gI _ _ _ _ _ _ _ _ _ _).2.1 _,fun d hd=>by cases hd;rfl⟩
     rintro v ⟨_,_,h⟩;obtain rfl:v=(.int .i64 I):=h _ rfl;clear h;simp only [Act.put,sU1,sU2,sU3];refine MixR.aj rfl (dw (.pointer (some ⟨q3,4,none⟩)) rfl) ?_ ?_
     ·intro w b k;clear k;simp [go_sem];exact⟨(gI _ _ _ _ _ _ _ _ _ _).2.1 _,fun d hd=>by cases hd;rfl⟩
     rintro v ⟨_,_,h⟩;obtain rfl:v=(.pointer (some ⟨q3,4,none⟩)):=h _ rfl;clear h;simp only [Act.put,sU1,sU2,sU3];refine MixR.aj rfl (dw (.slice xo xl xc) rfl) ?_ ?_
     ·intro w b k;have y4:=ys4 w b;clear k;simp [go_sem,y4];exact⟨(gI _ _ _ _ _ _ _ _ _ _).2.1 _,fun d hd=>by cases hd;rfl⟩
     rintro v ⟨_,_,h⟩;obtain rfl:v=(.slice xo xl xc):=h _ rfl;clear h;simp only [Act.put,sU1,sU2,sU3];refine MixR.aj rfl (sN (CA w3 ((gI _ _ _ _ _ _ _ _ _ _).2.1 _))) ?_ ?_
     ·intro w b k;clear k;simp [go_sem];exact Calls.mono (CA w b) fun e w' ⟨v,he,hb,hf⟩=>⟨v,he,hb,fun d hd=>by cases hd;exact hf⟩
     rintro p38 -;simp only [Act.put,sU1,sU2,sU3];refine MixR.aj rfl (dw (.pointer (some ⟨q3,5,none⟩)) rfl) ?_ ?_
     ·intro w b k;clear k;simp [go_sem];exact⟨(gI _ _ _ _ _ _ _ _ _ _).2.1 _,fun d hd=>by cases hd;rfl⟩
     rintro v ⟨_,_,h⟩;obtain rfl:v=(.pointer (some ⟨q3,5,none⟩)):=h _ rfl;clear h;simp only [Act.put,sU1,sU2,sU3];refine MixR.aj rfl (dw (.slice zo zl zc) rfl) ?_ ?_
     ·intro w b k;have y5:=ys5 w b;clear k;simp [go_sem,y5];exact⟨(gI _ _ _ _ _ _ _ _ _ _).2.1 _,fun d hd=>by cases hd;rfl⟩
     rintro v ⟨_,_,h⟩;obtain rfl:v=(.slice zo zl zc):=h _ rfl;clear h;simp only [Act.put,sU1,sU2,sU3];refine MixR.aj rfl (sN (CT w3 ((gI _ _ _ _ _ _ _ _ _ _).2.1 _))) ?_ ?_
     ·intro w b k;clear k;simp [go_sem];exact Calls.mono (CT w b) fun e w' ⟨v,he,hb,hf⟩=>⟨v,he,hb,fun d hd=>by cases hd;exact hf⟩
     rintro p41 -;simp only [Act.put,sU1,sU2,sU3];refine MixR.aj rfl (dw (.pointer (some ⟨gB,I * 8,none⟩)) rfl) ?_ ?_
     ·intro w b k;clear k;simp [go_sem,hiI];exact⟨(gI _ _ _ _ _ _ _ _ _ _).2.1 _,fun d hd=>by cases hd;rfl⟩
     rintro v ⟨_,_,h⟩;obtain rfl:v=(.pointer (some ⟨gB,I * 8,none⟩)):=h _ rfl;clear h;simp only [Act.put,sU1,sU2,sU3];refine MixR.aj rfl (dw (.pointer (some ⟨gB,I * 8+4,none⟩)) rfl) ?_ ?_
     ·intro w b k;clear k;simp [go_sem];exact⟨(gI _ _ _ _ _ _ _ _ _ _).2.1 _,fun d hd=>by cases hd;rfl⟩
     rintro v ⟨_,_,h⟩;obtain rfl:v=(.pointer (some ⟨gB,I * 8+4,none⟩)):=h _ rfl;clear h;simp only [Act.put,sU1,sU2,sU3];refine MixR.aj rfl ⟨undef,w3,(gI _ _ _ _ _ _ _ _ _ _).2.1 _,fun d hd=>by cases hd⟩ ?_ ?_
     ·intro w b k;have ff:DF w3.heap.size gB w x.2.2.2.2.1 p38:=k 38 (by decide +kernel) (by simp [MixR.add]) p38 rfl;clear k;obtain⟨hSt',hIn'⟩:=b.2 Inv3.out;obtain⟨⟨curB,hgB4⟩,hInB⟩:=id hIn';obtain⟨_,va0,vt0,cc0,_,_⟩:=hInB I x Hxx.out;have cc:=cc0 4 _ rfl;have fr:w.frozen? ⟨gB,I * 8+4,none⟩=false:=mn hgB4;have hia:gK (Nn Z gO gB) w x.2.2.2.2.1 p38:=ff.1.a (Nn Z gO gB) (fun z hz=>by
       obtain⟨curO,hcO⟩:=hSt'.2.2.2.2.2.1;rcases hz with rfl | rfl | hz
       ·exact .inr ⟨curO,45,(0,0),by decide,hcO⟩
       ·exact .inr ⟨curB,47,(0,0),by decide,hgB4⟩
       ·exact .inl (Hzl.out _ hz))
      obtain⟨ao',ac',rfl,_,_,_⟩:=dG ff.1;simp [go_sem,cc,fr];exact⟨⟨cJ w ⟨gB,I * 8+4,none⟩ _,fun _=>⟨hSt'.set HgB.out.1 HgB.out.2 _ _,hIn'.Mf Hxx.out hia⟩⟩,fun d hd=>by cases hd⟩
     rintro _ -;simp only [Act.put];refine MixR.aj rfl (dw (.pointer (some ⟨gB,I * 8,none⟩)) rfl) ?_ ?_
     ·intro w b k;clear k;simp [go_sem,hiI];exact⟨(gI _ _ _ _ _ _ _ _ _ _).2.1 _,fun d hd=>by cases hd;rfl⟩
     rintro v ⟨_,_,h⟩;obtain rfl:v=(.pointer (some ⟨gB,I * 8,none⟩)):=h _ rfl;clear h;simp only [Act.put,sU1,sU2,sU3];refine MixR.aj rfl (dw (.pointer (some ⟨gB,I * 8+5,none⟩)) rfl) ?_ ?_
     ·intro w b k;clear k;simp [go_sem];exact⟨(gI _ _ _ _ _ _ _ _ _ _).2.1 _,fun d hd=>by cases hd;rfl⟩
     rintro v ⟨_,_,h⟩;obtain rfl:v=(.pointer (some ⟨gB,I * 8+5,none⟩)):=h _ rfl;clear h;simp only [Act.put,sU1,sU2,sU3];refine MixR.aj rfl ⟨undef,w3,(gI _ _ _ _ _ _ _ _ _ _).2.1 _,fun d hd=>by cases hd⟩ ?_ ?_
     ·intro w b k;have ff:DF w3.heap.size gB w x.2.2.2.2.2.1 p41:=k 41 (by decide +kernel) (by simp [MixR.add]) p41 rfl;clear k;obtain⟨hSt',hIn'⟩:=b.2 Inv3.out;obtain⟨⟨curB,hgB4⟩,hInB⟩:=id hIn';obtain⟨_,va0,vt0,cc0,_,_⟩:=hInB I x Hxx.out;have cc:=cc0 5 _ rfl;have fr:w.frozen? ⟨gB,I * 8+5,none⟩=false:=mn hgB4;have hia:gK (Nn Z gO gB) w x.2.2.2.2.2.1 p41:=ff.1.a (Nn Z gO gB) (fun z hz=>by
       obtain⟨curO,hcO⟩:=hSt'.2.2.2.2.2.1;rcases hz with rfl | rfl | hz
       ·exact .inr ⟨curO,45,(0,0),by decide,hcO⟩
       ·exact .inr ⟨curB,47,(0,0),by decide,hgB4⟩
       ·exact .inl (Hzl.out _ hz))
      obtain⟨ao',ac',rfl,_,_,_⟩:=dG ff.1;simp [go_sem,cc,fr];exact⟨⟨cJ w ⟨gB,I * 8+5,none⟩ _,fun _=>⟨hSt'.set HgB.out.1 HgB.out.2 _ _,hIn'.LP Hxx.out hia⟩⟩,fun d hd=>by cases hd⟩
     rintro _ -;simp only [Act.put];refine MixR.ed ?_;intro w4 b4 hk;clear hk CA CT ys4 ys5;have HInv:=ae (b4.2 Inv3.out);clear b4;have HS4:=ae HInv.out.1;have HX4:=ae HInv.out.2;clear HInv Inv3 Y3 HS3 HX3;go_wp2_with fail
     go_roundw
     case rel=>exact⟨I+1,by omega,by go_num,HS4,HX4⟩
     case measure=>simp [intOf];omega
    ·obtain rfl:I=n:=(by omega);have HSw:=ae HS.out.LX;have HBk:Hid (tB (Nn Z gO gO) wr (aG f K) (.slice (some ⟨gB,0,none⟩) I cB)):=ae (by
      rw [HbE.out];refine⟨some ⟨gB,0,none⟩,cB,by rw [hbn.out],by rw [hbn.out];exact hcB.1,hcB.2,.inr ⟨gB,0,rfl,fun e=>by
       have h1:=HgB.out.1;have h2:=HgB.out.2;rcases e with e | e | e
       ·omega
       ·omega
       ·have:=(HZ.out _).1 e;omega,fun i x hx=> ?_⟩⟩
      have:=HX.out.2 i x hx;rw [Nat.zero_add];exact this.grown (Nat.le_refl _) (fun z _ hn=>⟨rfl,fun e=>hn (by
       rcases e with e | e | e
       ·exact .inl e
       ·exact .inl e
       ·exact .inr (.inr e))⟩) rfl)
     have bx:=HSw.out.2.1;rw [HA1.out,hq] at bx;obtain⟨⟨x0,x1,x2,x3,x4⟩,_,_⟩:=bP bx;obtain⟨u0,cu0,_⟩:=HSw.out.2.2.2.2.2.2 K hkl;obtain⟨curO,hcO⟩:=HSw.out.2.2.2.2.2.1;have frO:wr.frozen? ⟨gO,K,none⟩=false:=mn hcO;have HSe:=ae (HSw.out.put hkl HBk.out);clear hcO bx;go_wp2_with fail
     go_roundw
     case rel=>exact⟨K+1,by omega,by go_num,HSe⟩
     case measure=>simp [intOf];omega
  ·obtain rfl:K=lbs:=(by omega);have bx:=HSt.out.2.1;have bz:=HSt.out.2.2.1;rw [HA1.out,hq] at bx;rw [HA2.out,hq] at bz;obtain⟨⟨x0,x1,x2,x3,x4⟩,_,_⟩:=bP bx;obtain⟨⟨z0,z1,z2,z3,z4⟩,⟨f0,f1,f2,f3,f4⟩,_⟩:=bP bz;have HE:Hid (Below w.heap.size w (((((wr.setCell ⟨q+1,0,none⟩ (.string nm)).setCell ⟨q+1,1,none⟩ (.slice so lps sc)).setCell ⟨q+1,2,none⟩ (.int .i64 rt)).setCell ⟨q+1,3,none⟩ (.slice (some ⟨gO,0,none⟩) K cO)).setCell ⟨q+1,4,none⟩ (.int .i64 pl))):=ae (by
    have hle:w.heap.size≤q+1:=(by omega);exact((((((HSt.out.1).setCell (p:=⟨q+1,0,none⟩) hle _).setCell (p:=⟨q+1,1,none⟩) hle _).setCell (p:=⟨q+1,2,none⟩) hle _).setCell (p:=⟨q+1,3,none⟩) hle _).setCell (p:=⟨q+1,4,none⟩) hle _))
   have HFf:Hid (∀w'':World,(((((wr.setCell ⟨q+1,0,none⟩ (.string nm)).setCell ⟨q+1,1,none⟩ (.slice so lps sc)).setCell ⟨q+1,2,none⟩ (.int .i64 rt)).setCell ⟨q+1,3,none⟩ (.slice (some ⟨gO,0,none⟩) K cO)).setCell ⟨q+1,4,none⟩ (.int .i64 pl)).heap.size≤w''.heap.size→(∀j,j < (((((wr.setCell ⟨q+1,0,none⟩ (.string nm)).setCell ⟨q+1,1,none⟩ (.slice so lps sc)).setCell ⟨q+1,2,none⟩ (.int .i64 rt)).setCell ⟨q+1,3,none⟩ (.slice (some ⟨gO,0,none⟩) K cO)).setCell ⟨q+1,4,none⟩ (.int .i64 pl)).heap.size→¬(w00.heap.size≤j∧j < w.heap.size)→w''.heap[j]? =(((((wr.setCell ⟨q+1,0,none⟩ (.string nm)).setCell ⟨q+1,1,none⟩ (.slice so lps sc)).setCell ⟨q+1,2,none⟩ (.int .i64 rt)).setCell ⟨q+1,3,none⟩ (.slice (some ⟨gO,0,none⟩) K cO)).setCell ⟨q+1,4,none⟩ (.int .i64 pl)).heap[j]?)→cg w'' f (.agg #[.string nm,.slice so lps sc,.int .i64 rt,.slice (some ⟨gO,0,none⟩) K cO,.int .i64 pl])):=ae (by
    intro w'' hsz'' hsame;have hs:∀j,j≠q+1→(((((wr.setCell ⟨q+1,0,none⟩ (.string nm)).setCell ⟨q+1,1,none⟩ (.slice so lps sc)).setCell ⟨q+1,2,none⟩ (.int .i64 rt)).setCell ⟨q+1,3,none⟩ (.slice (some ⟨gO,0,none⟩) K cO)).setCell ⟨q+1,4,none⟩ (.int .i64 pl)).heap[j]? =wr.heap[j]? :=fun j hj=>
     (Below.heap_setCell _ ⟨q+1,4,none⟩ _ j hj).trans ((Below.heap_setCell _ ⟨q+1,3,none⟩ _ j hj).trans ((Below.heap_setCell _ ⟨q+1,2,none⟩ _ j hj).trans ((Below.heap_setCell _ ⟨q+1,1,none⟩ _ j hj).trans (Below.heap_setCell _ ⟨q+1,0,none⟩ _ j hj))))
    have hgr:wr.grownBy (((((wr.setCell ⟨q+1,0,none⟩ (.string nm)).setCell ⟨q+1,1,none⟩ (.slice so lps sc)).setCell ⟨q+1,2,none⟩ (.int .i64 rt)).setCell ⟨q+1,3,none⟩ (.slice (some ⟨gO,0,none⟩) K cO)).setCell ⟨q+1,4,none⟩ (.int .i64 pl)) (some (q+1)):=bk (bk (bk (bk (cJ wr ⟨q+1,0,none⟩ _) 1 _) 2 _) 3 _) 4 _;obtain⟨_,_,_,hh4,hh5,⟨curO,hh6⟩,hh7⟩:=HSt.out;have hgl:=(Array.getElem?_eq_some_iff.1 hh6).1;have hgs:=hgr.size;have hk2:∀z,z < wr.heap.size→¬Nn Z gO gO z→w''.heap[z]? =wr.heap[z]? ∧¬Nn Z gO gO z:=fun z hz hn=>by
     have hnz:¬Z z:=fun e=>hn (.inr (.inr e));rw [HZ.out] at hnz;exact⟨(hsame z (by omega) (by omega)).trans (hs z (by omega)),hn⟩
    refine HFv.out _ _ _ (hh5.grown (by omega) hk2).v ⟨some ⟨gO,0,none⟩,cO,by rw [hlbs.out],by rw [hlbs.out];exact hO1,hO2,.inr ⟨gO,0,rfl,by omega,fun i b hb=> ?_⟩⟩;have hib:i < f.2.2.2.1.length:=(List.getElem?_eq_some_iff.1 hb).1;obtain⟨u,q1,q2⟩:=hh7 i hib;refine⟨u,?_,?_⟩
    ·rw [Nat.zero_add];exact lA ((hsame gO (by omega) (by omega)).trans (hs gO (by omega))) q1
    ·have e:aG f i=b:=by
      have h2:=eS hib;rw [hb] at h2;injection h2 with h2;exact h2.symm
     rw [←e];exact(q2.grown (by omega) hk2).r)
   go_wp2_with fail
   exact bodyPost_ret (v:= .agg #[.string nm,.slice so lps sc,.int .i64 rt,.slice (some ⟨gO,0,none⟩) K cO,.int .i64 pl]) (by simp [results,Tryz.results28,go_sem,z0,z1,z2,z3,z4]) rfl ⟨_,rfl,HFf.out,by first | exact HE.out | (rw [hq];exact HE.out)⟩
def ApF (f:Fun):Prop:=0 < f.2.2.2.1.length∧Mod f∧f.2.1.length≤1000000∧∀b∈f.2.2.2.1,b≠ []∧∀x∈b,x.2.2.2.2.1.length≤1000000∧x.2.2.2.2.2.1.length≤1000000
theorem qw (p:List Fun) (nm:List UInt8) (po:Option Addr) (pc:Nat) (w:World) (hp:bK w p (.slice po p.length pc)) (hl:p.length≤1000000) (hA:∀f∈p,ApF f):
  Calls Tryz.prog 12 #[.agg #[.slice po p.length pc],.string (bs nm)] w fun e w'=>(∃fv,e= .returned (.tuple #[fv,.bool (findF p nm).isSome])∧cg w' ((findF p nm).getD ie) fv)∧Below w.heap.size w w':=by
 have HFs:=ae (pN p nm);have CS:=ae (fun w' (b:Below w.heap.size w w')=>gN p nm po pc w' (hp.below b) hl);have HRd:Hid (∀w' i,Below w.heap.size w w'→i < p.length→∃g o,po=some ⟨g,o,none⟩∧lS w' (aF p i) g (o+i * 5)):=ae (fun w' i b hi=>eh (hp.below b) hi);have HSl:Hid (∀k,kj p nm=some k→k < p.length):=ae (fun k h=>zw h);have HAp:=ae (fun i (hi:i < p.length)=>hA (aF p i) (List.mem_of_getElem? (eQ hi)));clear hp hA;obtain⟨r,hr⟩:∃r,findF p nm=r:=⟨_,rfl⟩;rw [hr] at HFs ⊢;clear hr;have HStd:Hid (stdI p nm=match kj p nm with
  |none=> -1
  |some i=>i):=ae rfl
 obtain⟨sv,hsv⟩:∃sv,stdI p nm=sv:=⟨_,rfl⟩;rw [hsv] at CS HStd;clear hsv;obtain⟨pn,hpn⟩:∃n,p.length=n:=⟨_,rfl⟩;rw [hpn] at CS HRd HSl HAp ⊢;clear hpn;obtain⟨b0,h0,h1⟩:=kK w (.cells #[.slice po pn pc] 24) (.cells #[.string ⟨#[]⟩,.slice none 0 0,.int .i64 0,.slice none 0 0,.int .i64 0] 36);have H0:=ae h0;have H1:=ae h1;have B0:=ae b0;clear b0 h0 h1;go_enter Tryz.func12,Tryz.ntmps12
 go_upto_region 1 with fail
 show Code.wp _ _ _ _ ((w.alloc (.cells #[.slice po pn pc] 24)).alloc (.cells #[.string ⟨#[]⟩,.slice none 0 0,.int .i64 0,.slice none 0 0,.int .i64 0] 36));generalize (w.alloc (.cells #[.slice po pn pc] 24)).alloc (.cells #[.string ⟨#[]⟩,.slice none 0 0,.int .i64 0,.slice none 0 0,.int .i64 0] 36)=W at *;have c0:=(aV H0.out).1;have hz0:=(aV H0.out).2;have hz1:=(bP H1.out).2.2;have C1:=ae (CS.out W B0.out);generalize hnm:bs nm=bnm at *;clear CS;go_wp2_with fail
 refine C1.out.mono ?_;rintro e w1 ⟨rfl,b1⟩;have B1:=ae (af B0.out b1);have K0:=ae ((b1.block _ hz0).trans H0.out);have K1:=ae ((b1.block _ hz1).trans H1.out);clear b1 c0 C1 H0 H1 B0;have hle:w.heap.size≤w.heap.size+1:=Nat.le_succ _;have c0:=(aV K0.out).1
 cases hso:kj p nm with
 |none=>
  have hsv:sv= -1:=by rw [HStd.out,hso]
  have HR:Hid (r=none):=ae (by rw [HFs.out,hso];rfl);obtain⟨⟨z0,z1,z2,z3,z4⟩,⟨f0,f1,f2,f3,f4⟩,_⟩:=bP K1.out;have HE:Hid (Below w.heap.size w (((((w1.setCell ⟨w.heap.size+1,0,none⟩ (.string ⟨#[]⟩)).setCell ⟨w.heap.size+1,1,none⟩ (.slice none 0 0)).setCell ⟨w.heap.size+1,2,none⟩ (.int .i64 0)).setCell ⟨w.heap.size+1,3,none⟩ (.slice none 0 0)).setCell ⟨w.heap.size+1,4,none⟩ (.int .i64 0))):=ae ((((((B1.out.setCell (p:=⟨w.heap.size+1,0,none⟩) hle _).setCell (p:=⟨w.heap.size+1,1,none⟩) hle _).setCell (p:=⟨w.heap.size+1,2,none⟩) hle _).setCell (p:=⟨w.heap.size+1,3,none⟩) hle _).setCell (p:=⟨w.heap.size+1,4,none⟩) hle _));subst hsv;clear HStd hso;go_wp2_with fail
  exact bodyPost_ret (v:= .tuple #[.agg #[.string ⟨#[]⟩,.slice none 0 0,.int .i64 0,.slice none 0 0,.int .i64 0],.bool false]) (by simp [results,Tryz.results12,go_sem,z0,z1,z2,z3,z4]) rfl ⟨⟨_,by rw [HR.out];rfl,by rw [HR.out];exact uR _⟩,HE.out⟩
 |some k=>
  have hsv:sv=(k:Int):=by rw [HStd.out,hso]
  have hk:=HSl.out k hso;have HR:Hid (r=some (aF p k)):=ae (by rw [HFs.out,hso];rfl);subst hsv;clear HStd hso;have hkI:(k:Int) < pn:=by omega
  have hkm:¬(k:Int)= -1:=by omega
  obtain⟨g,o,rfl,hfr⟩:=HRd.out w k (Below.refl _ _) hk;obtain⟨ao,bo,c,cb,hfv,d0,d1,d2,d3,d4⟩:=hfr.val;have hgl:=hfr.1;replace d0:=(B1.out.cell (p:=⟨g,o+k * 5,none⟩) hgl).trans d0;replace d1:=(B1.out.cell (p:=⟨g,o+k * 5+1,none⟩) hgl).trans d1;replace d2:=(B1.out.cell (p:=⟨g,o+k * 5+2,none⟩) hgl).trans d2;replace d3:=(B1.out.cell (p:=⟨g,o+k * 5+3,none⟩) hgl).trans d3;replace d4:=(B1.out.cell (p:=⟨g,o+k * 5+4,none⟩) hgl).trans d4;obtain⟨hp1,hp2,hp3,hp4⟩:=HAp.out k hk;have C2:=ae (Bs (aF p k) _ w w1 B1.out hfv hp1 hp2 hp3 hp4);obtain⟨f,hf⟩:∃f,aF p k=f:=⟨_,rfl⟩;rw [hf] at d0 d1 d2 d3 d4 C2 HR;clear hf hfr hfv hp1 hp2 hp3 hp4 HAp HRd HSl;generalize f.2.1.length=fl at *;generalize f.2.2.2.1.length=fbl at *;obtain⟨fnm,hfn⟩:∃n,bs f.1=n:=⟨_,rfl⟩;rw [hfn] at d0 C2;replace hfn:=ae hfn;go_wp2_with fail
  refine C2.out.mono ?_;rintro e w2 ⟨v2,rfl,hv2,b2⟩;have HV2:=ae hv2;obtain⟨vp,vb,rfl,hi2,hb2⟩:=hv2 w2 (Nat.le_refl _) (fun _ _ _=>rfl);obtain⟨pa,pcc,rfl,_,_,_⟩:=id hi2;obtain⟨ba,bc,rfl,_,_,_⟩:=id hb2;have B2:=ae (af B1.out b2);have K2:=ae ((b2.block _ (bP K1.out).2.2).trans K1.out);have hw1:w.heap.size+1 < w1.heap.size:=(bP K1.out).2.2;clear b2 hi2 hb2 hv2 C2 c0 d0 d1 d2 d3 d4;obtain⟨⟨z0,z1,z2,z3,z4⟩,⟨f0,f1,f2,f3,f4⟩,_⟩:=bP K2.out;obtain⟨fl2,hfl2⟩:∃n,f.2.1.length=n:=⟨_,rfl⟩;obtain⟨fb2,hfb2⟩:∃n,f.2.2.2.1.length=n:=⟨_,rfl⟩;obtain⟨fn2,hfn2⟩:∃n,bs f.1=n:=⟨_,rfl⟩;rw [hfl2,hfb2,hfn2] at HV2 ⊢;clear hfl2 hfb2 hfn2;have HE:Hid (Below w.heap.size w (((((w2.setCell ⟨w.heap.size+1,0,none⟩ (.string fn2)).setCell ⟨w.heap.size+1,1,none⟩ (.slice pa fl2 pcc)).setCell ⟨w.heap.size+1,2,none⟩ (.int .i64 f.2.2.1)).setCell ⟨w.heap.size+1,3,none⟩ (.slice ba fb2 bc)).setCell ⟨w.heap.size+1,4,none⟩ (.int .i64 f.2.2.2.2))):=ae ((((((B2.out.setCell (p:=⟨w.heap.size+1,0,none⟩) hle _).setCell (p:=⟨w.heap.size+1,1,none⟩) hle _).setCell (p:=⟨w.heap.size+1,2,none⟩) hle _).setCell (p:=⟨w.heap.size+1,3,none⟩) hle _).setCell (p:=⟨w.heap.size+1,4,none⟩) hle _));have HF:Hid (cg (((((w2.setCell ⟨w.heap.size+1,0,none⟩ (.string fn2)).setCell ⟨w.heap.size+1,1,none⟩ (.slice pa fl2 pcc)).setCell ⟨w.heap.size+1,2,none⟩ (.int .i64 f.2.2.1)).setCell ⟨w.heap.size+1,3,none⟩ (.slice ba fb2 bc)).setCell ⟨w.heap.size+1,4,none⟩ (.int .i64 f.2.2.2.2)) f (.agg #[.string fn2,.slice pa fl2 pcc,.int .i64 f.2.2.1,.slice ba fb2 bc,.int .i64 f.2.2.2.2])):=ae (HV2.out _ (bk (bk (bk (bk (cJ w2 ⟨w.heap.size+1,0,none⟩ (.string fn2)) 1 (.slice pa fl2 pcc)) 2 (.int .i64 f.2.2.1)) 3 (.slice ba fb2 bc)) 4 (.int .i64 f.2.2.2.2)).size (fun j hj hn=>(bk (bk (bk (bk (cJ w2 ⟨w.heap.size+1,0,none⟩ (.string fn2)) 1 (.slice pa fl2 pcc)) 2 (.int .i64 f.2.2.1)) 3 (.slice ba fb2 bc)) 4 (.int .i64 f.2.2.2.2)).block j hj (by intro e;injection e with e;have e2:j=w.heap.size+1:=e;omega)));go_wp2_with fail
  exact bodyPost_ret (v:= .tuple #[.agg #[.string fn2,.slice pa fl2 pcc,.int .i64 f.2.2.1,.slice ba fb2 bc,.int .i64 f.2.2.2.2],.bool true]) (by simp [results,Tryz.results12,go_sem,z0,z1,z2,z3,z4]) rfl ⟨⟨_,by rw [HR.out];rfl,by rw [HR.out];exact HF.out⟩,HE.out⟩
end Go.Proofs.YtljkgcfnoegibaaGreatDoor
