/- Texts of one chain, joined. -/
import Derived.Test.YtljkgcfnoegibaaGreatDoorZAAZ
set_option maxHeartbeats 4000000
set_option maxRecDepth 20000
namespace Go.Proofs.YtljkgcfnoegibaaGreatDoor
open Go Go.RowKit Go.Maps
open G (Tok Er Ins Fun)
open Mix (Up)
theorem yX {w:World} {R:Rdg} {b n:Nat} {m:Int→Option (DataW Unit)} (h:bS w R b n m) (hb:w.heap[b]? =some (.map #[] 0)) (a:Int) (ha:Wf6 a):m a=none:=by
 obtain⟨D,⟨es,c,h1,_,_,h4⟩,h2⟩:=h;rw [hb] at h1;injection h1 with h1;injection h1 with h1 _;have:=(h2 a ha).1;rw [h4,←h1] at this
 cases hm:m a with
 |none=>rfl
 |some d=>rw [hm] at this;simp [Maps.has] at this
theorem vK (a:Int):∀(l:List Ins) (o:Option Int),o.isSome=true→(l.foldl (fun a' x=>if mI a x then some (mkX x)else a') o).isSome=true:=by
 intro l;induction l with
 |nil=>intro o h;exact h
 |cons x l ih=>
  intro o h;simp only [List.foldl_cons];apply ih;split
  ·rfl
  ·exact h
theorem GY (a:Int):∀(l:List Ins) (o:Option Int),(∃x∈l,mI a x=true)→(l.foldl (fun a' x=>if mI a x then some (mkX x)else a') o).isSome=true:=by
 intro l;induction l with
 |nil=>rintro o ⟨x,h,_⟩;simp at h
 |cons y l ih=>
  rintro o ⟨x,h,hh⟩;simp only [List.foldl_cons];rcases List.mem_cons.1 h with rfl | h
  ·apply vK;rw [if_pos hh];rfl
  ·exact ih _ ⟨x,h,hh⟩
theorem Gp {f:Fun} {a:Int} (h:jA f a=true) (l:List Ins):(tyL f a l).isSome=true:=by
 unfold tyL;rw [if_pos h];exact vK a l _ rfl
theorem Dy {f:Fun} {k i:Nat} (hk:k < f.2.2.2.1.length) (hi:i < (aG f k).length):au f k i∈bB f f.2.2.2.1.length 0:=by
 unfold bB;simp only [List.take_length,List.take_zero,List.append_nil,List.mem_flatten];exact⟨aG f k,List.mem_of_getElem? (eS hk),List.mem_of_getElem? (gR hi)⟩
def pO (j:Nat):Int→Option (Int × Int):=fun a=>if 0≤a∧a < (j:Int)then some (0,-1)else none
theorem A8 (j:Nat) (a:Int):(if a=(j:Int)then some ((0:Int),(-1:Int))else pO j a)=pO (j+1) a:=by
 unfold pO;by_cases h:a=(j:Int)
 ·rw [if_pos h,if_pos (by omega)]
 ·rw [if_neg h];by_cases h2:0≤a∧a < (j:Int)
  ·rw [if_pos h2,if_pos (by omega)]
  ·rw [if_neg h2,if_neg (by omega)]
theorem Fk (f:Fun) (a:Int):pO f.2.1.length a=plM f 0 0 a:=by
 unfold pO plM;rw [sy];unfold jA;by_cases h:0≤a∧a < (f.2.1.length:Int)
 ·rw [if_pos h,if_pos (by simpa using h)];rfl
 ·rw [if_neg h,if_neg (by simpa using h)];rfl
theorem AU {f:Fun} {src:Bool} (h:∀k,k < f.2.2.2.1.length→∀i,i < (aG f k).length→cR f k i src=0) (K J:Nat):IM f K J:=by
 intro k i _ hk hi hm;have:=h k hk i hi;unfold cR at this;rw [made_pl] at this
 cases hp:plF f (au f k i).2.1 k i with
 |none=>rfl
 |some m=>
  rw [hp] at this;simp [hm] at this
theorem Kn {f:Fun} {src:Bool} {k i:Nat} (h:cR f k i src=0) (h20:(au f k i).1=20):iI f k i=true:=by
 unfold cR at h;split at h
 ·omega
 ·split at h
  ·omega
  ·rename_i h2;simpa [h20] using h2
theorem Co {f:Fun} {c:Nat→Nat→Int} (h:(ft f c).1=0):kp f c=none:=by
 cases he:kp f c with
 |none=>rfl
 |some e=>
  unfold ft at h;rw [he] at h;exact absurd h (nA he).1
theorem oW {w w':World} {q:Nat} {r:Nat} (hg:w.grownBy w' (some r)) {cur:Array Value} {t:Nat} {z:Nat × Nat} (h:w.heap[q]? =some (Obj.cells cur t z)) (hne:q≠r):w'.heap[q]? =some (Obj.cells cur t z):=(hg.block q (Array.getElem?_eq_some_iff.1 h).1 (by intro e;injection e with e;exact hne e)).trans h
theorem nY {w w':World} {r:Nat} (hg:w.grownBy w' (some r)) (hr:∃cur z,w.heap[r]? =some (Obj.cells cur 111 z)) {ao:Option Addr} {l:List Int} (h:SlG w ao l):Sl w' ao l:=by
 rcases h with h | ⟨b,o,e,hb,hc⟩
 ·exact .inl h
 ·refine .inr ⟨b,o,e,Nat.lt_of_lt_of_le hb.1 hg.size,fun i n hi=>hg.cell (hc i n hi) ?_⟩;intro e2;injection e2 with e2;obtain⟨cur,z,hr⟩:=hr;rw [←e2] at hr;exact hb.2 cur z hr
theorem func11_any (p:List Fun) (f:Fun) (src:Bool) (po:Option Addr) (pc:Nat) (fv:Value) (w:World) (hp:bK w p (.slice po p.length pc)) (hl:p.length≤1000000) (hv:cg w f fv) (hM:Mod f) (hTL:L5.Tab w) (hTG:Tab w) (hK:Kept p f) (hKey:tM f)
  (hX:∀k,k < f.2.2.2.1.length→∀i,i < (aG f k).length→uw (au f k i)∧aJ (au f k i)=0):
  Calls Tryz.prog 39 #[.slice po p.length pc,fv,.bool src] w fun e w'=>e= .returned (.agg #[.int .i64 (dH p f src).1,.int .i64 (dH p f src).2])∧Below w.heap.size w w':=by
 have HFe:Hid (dH p f src=if(aH f).1≠0 then((aH f).1,f.2.2.2.2)else if dq f=false then(14,f.2.2.2.2)else match kp f (fun k i=>cR f k i src)with
  |some e=>e
  |none=>(kp f (fun k i=>ez p f k i)).getD (0,0)):=ae rfl
 have HFl:Hid (xJ f=if(aH f).1≠0 then(aH f).1 else if dq f=false then 14 else 0):=ae rfl;have CFl:=ae (fun v w' hv ht=>zg f v w' hv ht hK.1);have CPr:=ae (fun v w' hv hF hT=>nN f v w' hv hF hT);have CDo:=ae (fun v w' hv hF hT h0=>zJ f v w' hv hF hT h0);have CTy:=ae (fun v w' hv ht=>wy f v w' hv ht hM hKey);have HKk:=ae hK.1;obtain⟨r,hr⟩:∃r,dH p f src=r:=⟨_,rfl⟩;rw [hr] at HFe ⊢;clear hr;have HP:=ae hp;have HKy:=ae hKey;have HXx:=ae hX;have HMf:=ae hM;have HTl:=ae hTL;obtain⟨lp,cp,lb,cb,rfl,_,_⟩:=de hv;have HBk:=ae (fN hv);have HV:=ae hv;have HTg:=ae hTG;have HB2:Hid (dy w f.2.2.2.1 (.slice lb f.2.2.2.1.length cb)):=HBk;clear hv hp hKey hX hM hTL hTG hK HBk;obtain⟨pn,hpn⟩:∃n,p.length=n:=⟨_,rfl⟩;obtain⟨nm,hnm⟩:∃n,bs f.1=n:=⟨_,rfl⟩;obtain⟨lps,hlps⟩:∃n,f.2.1.length=n:=⟨_,rfl⟩;obtain⟨rt,hrt⟩:∃n,f.2.2.1=n:=⟨_,rfl⟩;obtain⟨lbs,hlbs⟩:∃n,f.2.2.2.1.length=n:=⟨_,rfl⟩;obtain⟨pl,hpl⟩:∃n,f.2.2.2.2=n:=⟨_,rfl⟩;rw [hnm,hlps,hrt,hlbs,hpl] at HV ⊢;rw [hpn] at HP hl ⊢;rw [hlbs] at HKk CDo HB2;rw [hpl] at HFe;replace hpn:=ae hpn;replace hlps:=ae hlps;replace hrt:=ae hrt;replace hlbs:=ae hlbs;clear hnm hpl;have hlp1:lps≤1000000:=by have:=HKy.out.2.2;rw [hlps.out] at this;omega
 obtain⟨b0,h0,h1⟩:=kK w (.cells #[.string nm,.slice lp lps cp,.int .i64 rt,.slice lb lbs cb,.int .i64 pl] 36) (.cells #[.int .i64 0,.int .i64 0] 29);have H0:=ae h0;have H1:=ae h1;have B0:=ae b0;clear b0 h0 h1;go_enter Tryz.func39,Tryz.ntmps39
 go_upto_region 1 with fail
 show Code.wp _ _ _ _ ((w.alloc (.cells #[.string nm,.slice lp lps cp,.int .i64 rt,.slice lb lbs cb,.int .i64 pl] 36)).alloc (.cells #[.int .i64 0,.int .i64 0] 29));generalize (w.alloc (.cells #[.string nm,.slice lp lps cp,.int .i64 rt,.slice lb lbs cb,.int .i64 pl] 36)).alloc (.cells #[.int .i64 0,.int .i64 0] 29)=W0 at *;obtain⟨⟨x0,x1,x2,x3,x4⟩,_,_⟩:=bP H0.out;have C1:=ae (CFl.out _ W0 (HV.out.below B0.out) (HTg.out.below B0.out));obtain⟨fc,hfc⟩:∃fc,xJ f=fc:=⟨_,rfl⟩;rw [hfc] at C1 HFl;clear hfc;go_wp2_with fail
 refine C1.out.mono ?_;rintro e W ⟨rfl,b1⟩;have B1:=ae (af B0.out b1);have K0:=ae ((b1.block _ (Array.getElem?_eq_some_iff.1 H0.out).1).trans H0.out);have K1:=ae ((b1.block _ (Array.getElem?_eq_some_iff.1 H1.out).1).trans H1.out);clear b1 x0 x1 x2 x3 x4 C1 CFl H0 H1 B0;have hle:w.heap.size≤w.heap.size+1:=Nat.le_succ _;by_cases hf0:fc=0
 ·have hsh:(aH f).1=0:=by
   have h:=HFl.out;by_cases hs:(aH f).1≠0
   ·rw [if_pos hs,hf0] at h;exact h.symm
   ·simpa using hs
  have hrb:dq f=true:=by
   have h:=HFl.out;rw [if_neg (by simp [hsh]),hf0] at h;by_cases hb:dq f=false
   ·rw [if_pos hb] at h;cases h
   ·simpa using hb
  replace HFe:Hid (r=match kp f (fun k i=>cR f k i src)with
   |some e=>e
   |none=>(kp f (fun k i=>ez p f k i)).getD (0,0)):=ae (by rw [HFe.out,if_neg (by simp [hsh]),if_neg (by simp [hrb])])
  obtain⟨hFul,hTos,hpos⟩:=HKk.out hsh;have hpll:(aK f).length=lbs:=by rw [iC,hlbs.out]
  have HVs:=ae (fun w' (b:Below W.heap.size W w')=>HV.out.below (af B1.out b));have CP:∀w,Below W.heap.size W w→Calls Tryz.prog 66 #[(.agg #[.string nm,.slice lp lps cp,.int .i64 rt,.slice lb lbs cb,.int .i64 pl])] w fun e w'=>∃v,e= .returned v∧Below w.heap.size w w'∧oK w' (aK f) v:=fun w b=>(CPr.out _ w (HVs.out w b) hFul hTos).mono fun e w' ⟨v,he,h,b'⟩=>⟨_,he,b',Eo h (by rw [hpll];exact hpos)⟩;have CT:∀w,Below W.heap.size W w→Calls Tryz.prog 67 #[(.agg #[.string nm,.slice lp lps cp,.int .i64 rt,.slice lb lbs cb,.int .i64 pl])] w fun e w'=>∃v,e= .returned v∧Below w.heap.size w w'∧nw w' f v:=fun w b=>(CDo.out _ w (HVs.out w b) hFul hTos hpos).mono fun e w' ⟨a,he,h,b'⟩=>⟨_,he,b',h⟩;have CY:∀w,Below W.heap.size W w→Calls Tryz.prog 15 #[(.agg #[.string nm,.slice lp lps cp,.int .i64 rt,.slice lb lbs cb,.int .i64 pl])] w fun e w'=>∃v,e= .returned v∧Below w.heap.size w w'∧TyM W.heap.size w' f v:=fun w' b=>(CTy.out _ w' (HVs.out w' b) (HTl.out.below (af B1.out b))).mono fun e w'' ⟨a,he,h1,h2,b'⟩=>⟨_,he,b',a,rfl,Nat.le_trans b.size h1,h2⟩;have CX:∃v w',Below W.heap.size W w'∧sM W.heap.size po pn pc nm lp lps cp rt lb lbs cb pl src f w' v:=by
   obtain⟨_,w3,v3,_,b3,h3⟩:=dj (CP W (Below.refl _ _));obtain⟨_,w4,v4,_,b4,h4⟩:=dj (CT w3 b3);obtain⟨_,w5,v5,_,b5,h5⟩:=dj (CY w4 (af b3 b4));have b6:=ah w5 (.map #[] 0);have b35:=af (af b3 b4) b5;have h3':=((h3.below b4).below b5).below b6;have h4':=(h4.below b5).below b6;have h5':=h5.below b6;have e3:=h3';have e4:=h4';have e5:=h5';obtain⟨qb,qo,qc,rfl,_⟩:=e3;obtain⟨tr,_,_,_,_,rfl,_⟩:=e4;obtain⟨tb,rfl,_⟩:=e5;exact⟨_,_,af b35 b6,qb,qo,qc,tr,tb,w5.heap.size,rfl,by rw [←hpll];exact h3',h4',h5',⟨_,rfl,b35.size,heap_alloc_new _ _⟩⟩
  have xs:=fun(w':World) (b:Below W.heap.size W w')=>(bP ((b.block _ (Array.getElem?_eq_some_iff.1 K0.out).1).trans K0.out)).1;subst hf0;clear HFl;go_upto_region 4 with fail
  refine Mix.iA (Mm (.slice po pn pc) (.agg #[.string nm,.slice lp lps cp,.int .i64 rt,.slice lb lbs cb,.int .i64 pl]) src f W.heap.size (Up.KH W.heap.size po pn pc nm lp lps cp rt lb lbs cb pl src f)) 12 _ rfl rfl (by kernel_rfl) (by kernel_rfl) (by kernel_rfl) ?_;refine Mix.aj rfl (aq (.slice po pn pc) rfl) ?_ ?_
  ·intro w b k;clear k;simp [go_sem];exact⟨Below.refl _ _,fun d hd=>by cases hd;rfl⟩
  rintro v ⟨_,_,h⟩;obtain rfl:v=(.slice po pn pc):=h _ rfl;clear h;simp only [Act.put,sU1,sU2,sU3];refine Mix.aj rfl (aq (.agg #[.string nm,.slice lp lps cp,.int .i64 rt,.slice lb lbs cb,.int .i64 pl]) rfl) ?_ ?_
  ·intro w b k;obtain⟨x0,x1,x2,x3,x4⟩:=xs w b;clear k;simp [go_sem,x0,x1,x2,x3,x4];exact⟨Below.refl _ _,fun d hd=>by cases hd;rfl⟩
  rintro v ⟨_,_,h⟩;obtain rfl:v=(.agg #[.string nm,.slice lp lps cp,.int .i64 rt,.slice lb lbs cb,.int .i64 pl]):=h _ rfl;clear h;simp only [Act.put,sU1,sU2,sU3];refine Mix.aj rfl (aq (.bool src) rfl) ?_ ?_
  ·intro w b k;clear k;simp [go_sem];exact⟨Below.refl _ _,fun d hd=>by cases hd;rfl⟩
  rintro v ⟨_,_,h⟩;obtain rfl:v=(.bool src):=h _ rfl;clear h;simp only [Act.put,sU1,sU2,sU3];refine Mix.aj rfl (aq (.agg #[.string nm,.slice lp lps cp,.int .i64 rt,.slice lb lbs cb,.int .i64 pl]) rfl) ?_ ?_
  ·intro w b k;obtain⟨x0,x1,x2,x3,x4⟩:=xs w b;clear k;simp [go_sem,x0,x1,x2,x3,x4];exact⟨Below.refl _ _,fun d hd=>by cases hd;rfl⟩
  rintro v ⟨_,_,h⟩;obtain rfl:v=(.agg #[.string nm,.slice lp lps cp,.int .i64 rt,.slice lb lbs cb,.int .i64 pl]):=h _ rfl;clear h;simp only [Act.put,sU1,sU2,sU3];refine Mix.aj rfl (cD (CP W (Below.refl _ _))) ?_ ?_
  ·intro w b k;clear k;simp [go_sem];exact Calls.mono (CP w b) fun e w' ⟨v,he,hb,hf⟩=>⟨v,he,hb,fun d hd=>by cases hd;exact hf⟩
  rintro p23 -;simp only [Act.put,sU1,sU2,sU3];refine Mix.aj rfl (aq (.agg #[.string nm,.slice lp lps cp,.int .i64 rt,.slice lb lbs cb,.int .i64 pl]) rfl) ?_ ?_
  ·intro w b k;obtain⟨x0,x1,x2,x3,x4⟩:=xs w b;clear k;simp [go_sem,x0,x1,x2,x3,x4];exact⟨Below.refl _ _,fun d hd=>by cases hd;rfl⟩
  rintro v ⟨_,_,h⟩;obtain rfl:v=(.agg #[.string nm,.slice lp lps cp,.int .i64 rt,.slice lb lbs cb,.int .i64 pl]):=h _ rfl;clear h;simp only [Act.put,sU1,sU2,sU3];refine Mix.aj rfl (cD (CT W (Below.refl _ _))) ?_ ?_
  ·intro w b k;clear k;simp [go_sem];exact Calls.mono (CT w b) fun e w' ⟨v,he,hb,hf⟩=>⟨v,he,hb,fun d hd=>by cases hd;exact hf⟩
  rintro p25 -;simp only [Act.put,sU1,sU2,sU3];refine Mix.aj rfl (aq (.agg #[.string nm,.slice lp lps cp,.int .i64 rt,.slice lb lbs cb,.int .i64 pl]) rfl) ?_ ?_
  ·intro w b k;obtain⟨x0,x1,x2,x3,x4⟩:=xs w b;clear k;simp [go_sem,x0,x1,x2,x3,x4];exact⟨Below.refl _ _,fun d hd=>by cases hd;rfl⟩
  rintro v ⟨_,_,h⟩;obtain rfl:v=(.agg #[.string nm,.slice lp lps cp,.int .i64 rt,.slice lb lbs cb,.int .i64 pl]):=h _ rfl;clear h;simp only [Act.put,sU1,sU2,sU3];refine Mix.aj rfl (cD (CY W (Below.refl _ _))) ?_ ?_
  ·intro w b k;clear k;simp [go_sem];exact Calls.mono (CY w b) fun e w' ⟨v,he,hb,hf⟩=>⟨v,he,hb,fun d hd=>by cases hd;exact hf⟩
  rintro p27 -;simp only [Act.put,sU1,sU2,sU3];refine Mix.aj rfl ⟨.map (some W.heap.size),_,ah W (.map #[] 0),fun d hd=>by cases hd;exact⟨_,rfl,Nat.le_refl _,heap_alloc_new _ _⟩⟩ ?_ ?_
  ·intro w b k;clear k;simp [go_sem,run_makeMap];exact⟨ah _ _,fun d hd=>by cases hd;exact⟨_,rfl,b.size,heap_alloc_new _ _⟩⟩
  rintro p28 -;simp only [Act.put,sU1,sU2,sU3];refine Mix.aj rfl (by obtain⟨v,w',b,h⟩:=CX;exact⟨v,w',b,fun d hd=>by cases hd;exact h⟩) ?_ ?_
  ·intro w b k;have f23:oK w (aK f) p23:=k 23 (by decide +kernel) (by simp [Mix.add]) p23 rfl;have f25:nw w f p25:=k 25 (by decide +kernel) (by simp [Mix.add]) p25 rfl;have f27:TyM W.heap.size w f p27:=k 27 (by decide +kernel) (by simp [Mix.add]) p27 rfl;have f28:Bg W.heap.size w p28:=k 28 (by decide +kernel) (by simp [Mix.add]) p28 rfl;clear k;have g23:=f23;have g25:=f25;have g27:=f27;have g28:=f28;obtain⟨qb,qo,qc,rfl,_⟩:=f23;obtain⟨tr,_,_,_,_,rfl,_⟩:=f25;obtain⟨tb,rfl,_⟩:=f27;obtain⟨mb,rfl,_⟩:=f28;simp [go_sem];refine⟨Below.refl _ _,fun d hd=>by cases hd;exact⟨qb,qo,qc,tr,tb,mb,by rw [hpll],by rw [←hpll];exact g23,g25,g27,g28⟩⟩
  rintro p29 -;simp only [Act.put,sU1,sU2,sU3];refine Mix.aj rfl ⟨.pointer (some ⟨W.heap.size,0,none⟩),_,ah W (.cells #[.slice none 0 0,.string ⟨#[]⟩,.slice none 0 0,.int .i64 0,.slice none 0 0,.int .i64 0,.bool false,.slice none 0 0,.pointer none,.map none,.map none] 111),fun d hd=>by cases hd;exact⟨_,rfl,Nat.le_refl _,heap_alloc_new _ _⟩⟩ ?_ ?_
  ·intro w b k;clear k;simp [go_sem];exact⟨ah _ _,fun d hd=>by cases hd;exact⟨_,rfl,b.size,heap_alloc_new _ _⟩⟩
  rintro p8 -;simp only [Act.put,sU1,sU2,sU3];refine Mix.ed ?_;intro w4 b4 hk;obtain⟨q4,rfl,hqB,hq4⟩:Fl W.heap.size w4 p8:=hk 8 (by simp [Mix.add]) p8 rfl;obtain⟨qb,qo,qc,tr,tb,mb,rfl,hRw,hTr,hTy,hM0⟩:sM W.heap.size po pn pc nm lp lps cp rt lb lbs cb pl src f w4 p29:=hk 29 (by simp [Mix.add]) p29 rfl;clear hk;refine⟨rfl,fun K hK=> ?_⟩;obtain⟨⟨z0,z1,z2,z3,z4,z5,z6,z7,z8,z9,z10⟩,⟨f0,f1,f2,f3,f4,f5,f6,f7,f8,f9,f10⟩⟩:=Hp hq4;unfold Oper.wp;simp [go_sem,z0,z1,z2,z3,z4,z5,z6,z7,z8,z9,z10,f0,f1,f2,f3,f4,f5,f6,f7,f8,f9,f10];refine hK _ _ ?_;have HLk:=ae (DR po pn pc nm lp lps cp rt lb lbs cb pl src qb qo qc tr tb mb hq4);have hgr:w4.grownBy (((((((((((w4.setCell ⟨q4,0,none⟩ (.slice po pn pc)).setCell ⟨q4,1,none⟩ (.string nm)).setCell ⟨q4,2,none⟩ (.slice lp lps cp)).setCell ⟨q4,3,none⟩ (.int .i64 rt)).setCell ⟨q4,4,none⟩ (.slice lb lbs cb)).setCell ⟨q4,5,none⟩ (.int .i64 pl)).setCell ⟨q4,6,none⟩ (.bool src)).setCell ⟨q4,7,none⟩ (.slice (some ⟨qb,qo,none⟩) lbs qc)).setCell ⟨q4,8,none⟩ (.pointer (some ⟨tr,0,none⟩))).setCell ⟨q4,9,none⟩ (.map (some tb))).setCell ⟨q4,10,none⟩ (.map (some mb))) (some q4):=bk (bk (bk (bk (bk (bk (bk (bk (bk (bk (cJ w4 ⟨q4,0,none⟩ (.slice po pn pc)) 1 (.string nm)) 2 (.slice lp lps cp)) 3 (.int .i64 rt)) 4 (.slice lb lbs cb)) 5 (.int .i64 pl)) 6 (.bool src)) 7 (.slice (some ⟨qb,qo,none⟩) lbs qc)) 8 (.pointer (some ⟨tr,0,none⟩))) 9 (.map (some tb))) 10 (.map (some mb));clear z0 z1 z2 z3 z4 z5 z6 z7 z8 z9 z10 f0 f1 f2 f3 f4 f5 f6 f7 f8 f9 f10 hK CP CT CY CX xs;generalize (((((((((((w4.setCell ⟨q4,0,none⟩ (.slice po pn pc)).setCell ⟨q4,1,none⟩ (.string nm)).setCell ⟨q4,2,none⟩ (.slice lp lps cp)).setCell ⟨q4,3,none⟩ (.int .i64 rt)).setCell ⟨q4,4,none⟩ (.slice lb lbs cb)).setCell ⟨q4,5,none⟩ (.int .i64 pl)).setCell ⟨q4,6,none⟩ (.bool src)).setCell ⟨q4,7,none⟩ (.slice (some ⟨qb,qo,none⟩) lbs qc)).setCell ⟨q4,8,none⟩ (.pointer (some ⟨tr,0,none⟩))).setCell ⟨q4,9,none⟩ (.map (some tb))).setCell ⟨q4,10,none⟩ (.map (some mb)))=w5 at *;have hBW:w.heap.size≤W.heap.size:=B1.out.size;have hqz:=(Array.getElem?_eq_some_iff.1 K1.out).1;have h111:∃cur z,w4.heap[q4]? =some (Obj.cells cur 111 z):=⟨_,_,hq4⟩;have hB4:=af B1.out b4;have HB5:Hid (Below w.heap.size w w5):=ae (hB4.trans (cx hgr hB4.size (by omega)));have K2:=ae (oW hgr ((b4.block _ (Array.getElem?_eq_some_iff.1 K0.out).1).trans K0.out) (by omega));have K3:=ae (oW hgr ((b4.block _ hqz).trans K1.out) (by omega));obtain⟨tb',e1,htB,hIm⟩:=hTy;injection e1 with e1;injection e1 with e1;subst e1;obtain⟨mb',e1,hmB,hm0⟩:=hM0;injection e1 with e1;injection e1 with e1;subst e1;have htq:tb≠q4:=by
   intro e;obtain⟨es,c,h⟩:=bS.isMap hIm;rw [e,hq4] at h
   cases h
  have hmq:mb≠q4:=by
   intro e;rw [e,hq4] at hm0
   cases hm0
  have HI5:Hid (cI w5 tb 1000000 (fun a=>tyL f a (bB f f.2.2.2.1.length 0))):=ae (bS.kept hIm hgr (by intro e;injection e with e;exact htq e));have HM5:Hid (w5.heap[mb]? =some (.map #[] 0)):=ae ((hgr.block mb (Array.getElem?_eq_some_iff.1 hm0).1 (by intro e;injection e with e;exact hmq e)).trans hm0);have HTr:Hid (∃ub uo db dd uc dc,jq w5 (aD f) (aD f).length tr ub uo db dd uc dc):=ae (by
   obtain⟨t,uo,dd,uc,dc,e,q1,q2,q3,q5⟩:=hTr;injection e with e;injection e with e;injection e with e;subst e;have hv:Fy w5 f (.pointer (some ⟨tr,0,none⟩)):=⟨tr,uo,dd,uc,dc,rfl,⟨Nat.lt_of_lt_of_le q1.1 hgr.size,fun i v hi=>hgr.cell (q1.2 i v hi) (by
    intro e2;injection e2 with e2;exact q2.2 _ _ (by rw [show tr=q4 from e2];exact hq4))⟩,nY hgr h111 q3,nY hgr h111 q5⟩
   obtain⟨t,ub,uo,db,dd,uc,dc,e,h⟩:=hv.cells (by rw [hlbs.out];exact hpos);injection e with e;injection e with e;injection e with e;subst e;exact⟨ub,uo,db,dd,uc,dc,by rw [bI];exact h⟩)
  have HPr:Hid (qb < w5.heap.size∧PrC w5 f qb qo):=ae (by
   obtain⟨g,o,c,e,q1,q2⟩:=hRw;injection e with e _ _;injection e with e;injection e with e1 e2;subst e1 e2;refine⟨Nat.lt_of_lt_of_le q1.1 hgr.size,fun k hk=> ?_⟩;obtain⟨ao,ac,q3,q4'⟩:=q2 k _ (wV hk);refine⟨ao,ac,hgr.cell q3 ?_,nY hgr h111 q4'⟩;intro e2;injection e2 with e2;exact q1.2 _ _ (by rw [show qb=q4 from e2];exact hq4))
  have HTm:Hid (tb=mb→lps=0∧∀k,k < f.2.2.2.1.length→∀i,i < (aG f k).length→mkX (au f k i)=0):=ae (fun e=>by
   have hem:=fun a ha=>yX HI5.out (by rw [e];exact HM5.out) a ha;refine⟨?_,fun k hk i hi=> ?_⟩
   ·by_cases h0:lps=0
    ·exact h0
    ·exfalso;have h1:=hem 0 (fJ ⟨by omega,by omega⟩);have h2:=Gp (f:=f) (a:=0) (by unfold jA;rw [hlps.out];simp;omega) (bB f f.2.2.2.1.length 0)
     cases h3:tyL f 0 (bB f f.2.2.2.1.length 0)with
     |none=>rw [h3] at h2;cases h2
     |some t=>simp only [h3,Option.map_some] at h1;cases h1
   ·by_cases h0:mkX (au f k i)=0
    ·exact h0
    ·exfalso;have hb:aG f k∈f.2.2.2.1:=List.mem_of_getElem? (eS hk);have hx:au f k i∈aG f k:=List.mem_of_getElem? (gR hi);have h1:=hem (au f k i).2.1 (fJ (HKy.out.2.1 _ hb _ hx h0).1);have h2:(tyL f (au f k i).2.1 (bB f f.2.2.2.1.length 0)).isSome=true:=GY _ _ _ ⟨au f k i,Dy hk hi,iL.2 ⟨rfl,h0⟩⟩
     cases h3:tyL f (au f k i).2.1 (bB f f.2.2.2.1.length 0)with
     |none=>rw [h3] at h2;cases h2
     |some t=>simp only [h3,Option.map_some] at h1;cases h1)
  have hq5:w.heap.size+1 < q4:=by omega
  have hmB2:w.heap.size+1 < mb:=by omega
  clear hgr hIm hm0 hRw hTr hB4 h111 hq4 b4 htq hmq hqz K0 K1 HKk;obtain⟨⟨x0,x1,x2,x3,x4⟩,_,_⟩:=bP K2.out;have HMs:Hid (SMap w5 mb 0 (pO 0)):=ae (by
   have h:bS w5 spotElem mb 0 (fun _=>none):=⟨.map [],⟨#[],0,HM5.out,⟨by simp,MapKept.stamped_empty 0,by simp⟩,Nat.le_refl _,rfl⟩,fun _ _=>⟨rfl,fun _=>rfl⟩⟩;refine h.congr fun a=> ?_;unfold pO;rw [if_neg (by omega)];rfl)
  go_wp2_with fail
  clear x0 x1 x2 x3 x4;go_loopw [33] (fun jv wr=>∃j:Nat,j≤lps∧jv= .int .i64 j∧Hid (SMap wr mb j (pO j))∧Hid (Below w.heap.size w wr)∧Hid (KM w5 wr)∧Hid (cI wr tb 1000000 (fun a=>tyL f a (bB f f.2.2.2.1.length 0)))∧Hid (wr.heap[q4]? =some (.cells #[.slice po pn pc,.string nm,.slice lp lps cp,.int .i64 rt,.slice lb lbs cb,.int .i64 pl,.bool src,.slice (some ⟨qb,qo,none⟩) lbs qc,.pointer (some ⟨tr,0,none⟩),.map (some tb),.map (some mb)] 111 (0,0)))∧Hid (wr.heap[w.heap.size+1]? =some (.cells #[.int .i64 0,.int .i64 0] 29 (0,0)))) (fun jv _=>lps - (intOf jv).toNat)
  case atStart=>exact⟨0,Nat.zero_le _,rfl,HMs,HB5,ae (KM.refl _),HI5,HLk,K3⟩
  case round=>
   clear HMs HI5 HLk K3 K2;obtain⟨j,hj,rfl,HMs,HBw,HKm,HI5,HLk,K3⟩:=hrel;obtain⟨⟨l0,l1,l2,l3,l4,l5,l6,l7,l8,l9,l10⟩,_⟩:=cl _ _ _ _ _ _ _ _ _ _ _ _ _ _ _ _ _ _ _ _ HLk.out;by_cases hjt:j < lps
   ·have hjI:(j:Int) < lps:=(by omega);have hWj:Wf6 (j:Int):=fJ ⟨by omega,by omega⟩;have hjm:j < maxLen:=(by unfold maxLen;omega);have HSt:=ae (A8 j);have HMap:=ae (bS.isMap HMs.out);have htm:tb≠mb:=fun e=>by have:=(HTm.out e).1;omega
    go_wp2_with (first | (at_mapUpdate;refine oJ _ rfl _ _ _ rfl mb j _ rfl HMs.out hjm (j:Int) hWj 0 (-1) rfl rfl ?_;intro w6 own6 grow6) | fail)
    have hch:=Chg.vQ (B:=w.heap.size) grow6 HMap.out HBw.out.size (by omega);go_roundw
    case rel=>
     refine⟨j+1,by omega,by go_num,ae ?_,ae (HBw.out.trans hch.1),ae (HKm.out.chg hch),ae (bS.kept HI5.out grow6 (by intro e;injection e with e;exact htm e)),ae (hch.2 _ _ _ _ HLk.out),ae (hch.2 _ _ _ _ K3.out)⟩;have e:(fun a=>if a=(j:Int)then some ((0:Int),(-1:Int))else pO j a)=pO (j+1):=funext HSt.out;rw [←e];exact own6
    case measure=>simp [intOf];omega
   ·obtain rfl:lps=j:=(by omega);obtain⟨ub,uo,db,dd,uc,dc,hT5⟩:=HTr.out;have HTw:=ae (HKm.out.tree hT5);have HPw:Hid (qb < wr.heap.size∧PrC wr f qb qo):=ae ⟨Nat.lt_of_lt_of_le HPr.out.1 HKm.out.1,fun k hk=>by
     obtain⟨qa,qac,q1,q2⟩:=HPr.out.2 k hk;exact⟨qa,qac,HKm.out.2 _ _ q1,HKm.out.sl q2⟩⟩
    have hmw:mb < wr.heap.size:=bS.lt HMs.out;have htw:tb < wr.heap.size:=bS.lt HI5.out;have hww:=HBw.out.size;have HS0:Hid (S1 w wr f mb tb lps 0 0 wr):=ae ⟨HBw.out,KM.refl _,by
     have e:pO lps=plM f 0 0:=funext fun a=>by rw [←Fk,hlps.out]
     rw [←e,mj];exact HMs.out,HI5.out⟩
    have HC69:Hid (∀w',S1 w wr f mb tb lps 0 0 w'→wr.heap.size≤w'.heap.size→Calls Tryz.prog 68 #[.agg #[.slice po pn pc,.string nm,.slice lp lps cp,.int .i64 rt,.slice lb lbs cb,.int .i64 pl,.bool src,.slice (some ⟨qb,qo,none⟩) lbs qc,.pointer (some ⟨tr,0,none⟩),.map (some tb),.map (some mb)],.func (Fn.func 69) #[.agg #[.slice po pn pc,.string nm,.slice lp lps cp,.int .i64 rt,.slice lb lbs cb,.int .i64 pl,.bool src,.slice (some ⟨qb,qo,none⟩) lbs qc,.pointer (some ⟨tr,0,none⟩),.map (some tb),.map (some mb)]] #[]] w' fun e w''=>e= .returned (.agg #[.int .i64 (ft f (fun k i=>cR f k i src)).1,.int .i64 (ft f (fun k i=>cR f k i src)).2])∧((ft f (fun k i=>cR f k i src)).1=0→S1 w wr f mb tb lps lbs 0 w'')∧Below w.heap.size w w''∧Chg w.heap.size w' w''):=ae (fun w' hS' hs'=>
     pG 69 (fun args w=>by simp [go_sem]) po lp lb pn pc lps cp lbs cb nm rt pl src qb qo lbs qc tr tb mb f w w' HB2.out hlbs.out.symm HMf.out (fun k i=>cR f k i src) (S1 w wr f mb tb lps) (fun k i w'' h=>⟨h.1,h.1.size⟩) wr.heap.size hs'
      (fun k i w1 w2 r h hg hr=>h.grown hg hr hmw htw hww) (fun k w1 hk h=>S1.next (by rw [hlbs.out];exact hk) h)
      (fun k i xv w1 hk hi h hx=>zK po lp lb pn pc lps cp lbs cb nm rt pl src qb qo lbs qc tr tb mb f w wr w1 k i xv HB2.out hlbs.out.symm HMf.out HTl.out hww (by omega) HPw.out.1 hlbs.out.symm HPw.out.2 (by have:=HKy.out.2.2;rw [hlps.out] at this;exact this) (HXx.out k (by rw [hlbs.out];exact hk) i hi).1 (fun e=>(HTm.out e).2 k (by rw [hlbs.out];exact hk) i hi) hk hi h hx) hS')
    obtain⟨⟨r1,r2⟩,hre⟩:∃e,ft f (fun k i=>cR f k i src)=e:=⟨_,rfl⟩;rw [hre] at HC69;have HR1:=ae hre;have HC:=ae (HC69.out wr HS0.out (Nat.le_refl _));clear HC69 hre HTr HPr;go_wp2_with fail
    refine HC.out.mono ?_;rintro e w6 ⟨rfl,hS6,b6,c6⟩;have b7:=ah w6 (.cells #[.int .i64 r1,.int .i64 r2] 29);have H7:=ae (heap_alloc_new w6 (.cells #[.int .i64 r1,.int .i64 r2] 29));have HS6:=ae hS6;have HGr7:=ae (bY b7 (some wr.heap.size));have hL6:=c6.2 _ _ _ _ HLk.out;have hK6:=c6.2 _ _ _ _ K3.out;have L7:=ae ((b7.block _ (Array.getElem?_eq_some_iff.1 hL6).1).trans hL6);have K7:=ae ((b7.block _ (Array.getElem?_eq_some_iff.1 hK6).1).trans hK6);have B7:Hid (Below w.heap.size w (w6.alloc (.cells #[.int .i64 r1,.int .i64 r2] 29))):=ae (af b6 b7);have hsz:Hid (wr.heap.size≤(w6.alloc (.cells #[.int .i64 r1,.int .i64 r2] 29)).heap.size):=ae (Nat.le_trans c6.1.size b7.size);clear b6 c6 b7 hL6 hK6 hS6 HC l0 l1 l2 l3 l4 l5 l6 l7 l8 l9 l10 HLk K3;go_upto_region 11 with fail
    show Code.wp _ _ _ _ (w6.alloc (.cells #[.int .i64 r1,.int .i64 r2] 29));generalize w6.alloc (.cells #[.int .i64 r1,.int .i64 r2] 29)=w7 at *;generalize w6.heap.size=q7 at *;obtain⟨⟨y0,y1⟩,_,_⟩:=aP H7.out;by_cases hr1:r1=0
    ·have HEo:Hid (kp f (fun k i=>cR f k i src)=none):=ae (Co (by rw [HR1.out];exact hr1));have HVal:=ae (ny HEo.out);have HRr:Hid (r=ft f (fun k i=>ez p f k i)):=ae (by rw [HFe.out,HEo.out];rfl);have HS7:=ae (S1.grown (HS6.out hr1) HGr7.out (Nat.le_refl _) hmw htw hww);have HC70:Hid (Calls Tryz.prog 68 #[.agg #[.slice po pn pc,.string nm,.slice lp lps cp,.int .i64 rt,.slice lb lbs cb,.int .i64 pl,.bool src,.slice (some ⟨qb,qo,none⟩) lbs qc,.pointer (some ⟨tr,0,none⟩),.map (some tb),.map (some mb)],.func (Fn.func 70) #[.agg #[.slice po pn pc,.string nm,.slice lp lps cp,.int .i64 rt,.slice lb lbs cb,.int .i64 pl,.bool src,.slice (some ⟨qb,qo,none⟩) lbs qc,.pointer (some ⟨tr,0,none⟩),.map (some tb),.map (some mb)]] #[]] w7 fun e w''=>e= .returned (.agg #[.int .i64 (ft f (fun k i=>ez p f k i)).1,.int .i64 (ft f (fun k i=>ez p f k i)).2])∧((ft f (fun k i=>ez p f k i)).1=0→S1 w wr f mb tb lps lbs 0 w'')∧Below w.heap.size w w''∧Chg w.heap.size w7 w''):=ae (
      pG 70 (fun args w=>by simp [go_sem]) po lp lb pn pc lps cp lbs cb nm rt pl src qb qo lbs qc tr tb mb f w w7 HB2.out hlbs.out.symm HMf.out (fun k i=>ez p f k i) (fun _ _ w'=>S1 w wr f mb tb lps lbs 0 w') (fun k i w'' h=>⟨h.1,h.1.size⟩) wr.heap.size hsz.out
       (fun k i w1 w2 r h hg hr=>S1.grown h hg hr hmw htw hww) (fun k w1 hk h=>h)
       (fun k i xv w1 hk hi h hx=>by
        have hkl:k < f.2.2.2.1.length:=(by rw [hlbs.out];exact hk);have hv0:=HVal.out k hkl i hi;refine(y8 po lp lb pn pc lps cp lbs cb nm rt pl src qb qo lbs qc tr tb mb p f w wr w1 k i xv HP.out hpn.out.symm (by rw [hpn.out];exact hl) hrt.out.symm HB2.out hlbs.out.symm HTl.out HTw.out hTos (by rw [hlbs.out];exact hpos) hrb (fun a=>AE _ (Nat.le_refl _) (AU HVal.out _ _)) (HXx.out k hkl i hi).2 (fun h20=>Kn hv0 h20) (HXx.out k hkl i hi).1 hk (by rw [hlbs.out];exact h) hx).mono ?_;rintro e w2 ⟨he,b⟩;exact⟨he,fun _=>S1.grown h (bY b (some wr.heap.size)) (Nat.le_refl _) hmw htw hww,Chg.bJ b h.1.size⟩) HS7.out)
     rw [←HRr.out] at HC70;obtain⟨⟨l0,l1,l2,l3,l4,l5,l6,l7,l8,l9,l10⟩,_⟩:=cl _ _ _ _ _ _ _ _ _ _ _ _ _ _ _ _ _ _ _ _ L7.out;obtain⟨s1,s2⟩:=r;subst hr1;clear HFe HRr;go_wp2_with fail
     refine HC70.out.mono ?_;rintro e w8 ⟨rfl,_,b8,c8⟩;have B8:=ae b8;have K8:=ae (c8.2 _ _ _ _ K7.out);clear b8 c8 HC70 l0 l1 l2 l3 l4 l5 l6 l7 l8 l9 l10 y0 y1;obtain⟨⟨z0,z1⟩,⟨f0,f1⟩,_⟩:=aP K8.out;have HE:Hid (Below w.heap.size w ((w8.setCell ⟨w.heap.size+1,0,none⟩ (.int .i64 s1)).setCell ⟨w.heap.size+1,1,none⟩ (.int .i64 s2))):=ae ((B8.out.setCell (p:=⟨w.heap.size+1,0,none⟩) hle _).setCell (p:=⟨w.heap.size+1,1,none⟩) hle _);go_wp2_with fail
     exact bodyPost_ret (v:= .agg #[.int .i64 s1,.int .i64 s2]) (by simp [results,Tryz.results39,go_sem,z0,z1]) rfl ⟨rfl,HE.out⟩
    ·have HR:Hid (r=(r1,r2)):=ae (by
      rw [HFe.out];have h:=HR1.out;unfold ft at h
      cases he:kp f (fun k i=>cR f k i src)with
      |none=>rw [he] at h;simp at h;exact absurd h.1.symm hr1
      |some e=>rw [he] at h;exact h)
     obtain⟨⟨z0,z1⟩,⟨f0,f1⟩,_⟩:=aP K7.out;have HE:Hid (Below w.heap.size w ((w7.setCell ⟨w.heap.size+1,0,none⟩ (.int .i64 r1)).setCell ⟨w.heap.size+1,1,none⟩ (.int .i64 r2))):=ae ((B7.out.setCell (p:=⟨w.heap.size+1,0,none⟩) hle _).setCell (p:=⟨w.heap.size+1,1,none⟩) hle _);clear HFe;go_wp2_with fail
     exact bodyPost_ret (v:= .agg #[.int .i64 r1,.int .i64 r2]) (by simp [results,Tryz.results39,go_sem,z0,z1]) rfl ⟨by rw [HR.out],HE.out⟩
 ·have HR:Hid (r=(fc,pl)):=ae (by
   have h:=HFl.out;rw [HFe.out];by_cases hs:(aH f).1≠0
   ·rw [if_pos hs] at h ⊢;rw [h]
   ·rw [if_neg hs] at h ⊢;by_cases hb:dq f=false
    ·rw [if_pos hb] at h ⊢;rw [h]
    ·rw [if_neg hb] at h;exact absurd h hf0)
  obtain⟨⟨x0,x1,x2,x3,x4⟩,_,_⟩:=bP K0.out;obtain⟨⟨z0,z1⟩,⟨f0,f1⟩,_⟩:=aP K1.out;have HE:Hid (Below w.heap.size w ((W.setCell ⟨w.heap.size+1,0,none⟩ (.int .i64 fc)).setCell ⟨w.heap.size+1,1,none⟩ (.int .i64 pl))):=ae ((B1.out.setCell (p:=⟨w.heap.size+1,0,none⟩) hle _).setCell (p:=⟨w.heap.size+1,1,none⟩) hle _);go_wp2_with fail
  exact bodyPost_ret (v:= .agg #[.int .i64 fc,.int .i64 pl]) (by simp [results,Tryz.results39,go_sem,z0,z1]) rfl ⟨by rw [HR.out],HE.out⟩
open Go Go.RowKit
theorem od (p:List Fun) (src:Bool) (po:Option Addr) (pc:Nat) (w:World) (hp:bK w p (.slice po p.length pc)) (hl:p.length≤1000000) (hO:∀f∈p,OkF f) (hM:∀f∈p,Mod f∧f.2.1.length≤1000000) (hTb:Tb w) (hTL:L5.Tab w) (hTG:Tab w)
  (hK:(wholeF 0 0 p).1=0→∀f∈p,Kept p f∧tM f∧∀k,k < f.2.2.2.1.length→∀i,i < (aG f k).length→uw (au f k i)∧aJ (au f k i)=0):
  Calls Tryz.prog 23 #[.agg #[.slice po p.length pc],.bool src] w fun e w'=>e= .returned (.agg #[.int .i64 (bj p src).1,.int .i64 (bj p src).2])∧Below w.heap.size w w':=by
 have HCp:Hid (bj p src=if(wholeF 0 0 p).1≠0 then((wholeF 0 0 p).1,(aF p (wholeF 0 0 p).2.toNat).2.2.2.2)else if(namesF p).1≠0 then namesF p else(bw (eG p src) p.length).getD (0,0)):=ae rfl;have HFo:Hid (∀i,eG p src i=if(dH p (aF p i) src).1≠0 then some (dH p (aF p i) src)else none):=ae (fun _=>rfl);have CW:=ae (fun w' (b:Below w.heap.size w w')=>Bu p po pc w' (hp.below b) (hTb.below b) hO);have CN:=ae (fun w' (b:Below w.heap.size w w')=>names11_any p po pc w' (hp.below b) hl (fun f hf=>(hM f hf).2));have CFn:=ae (fun i (hi:i < p.length) (h0:(wholeF 0 0 p).1=0) fv w' (b:Below w.heap.size w w') (hv:cg w' (aF p i) fv)=>func11_any p (aF p i) src po pc fv w' (hp.below b) hl hv (hM _ (List.mem_of_getElem? (eQ hi))).1 (hTL.below b) (hTG.below b) (hK h0 _ (List.mem_of_getElem? (eQ hi))).1 (hK h0 _ (List.mem_of_getElem? (eQ hi))).2.1 (hK h0 _ (List.mem_of_getElem? (eQ hi))).2.2);have HRd:Hid (∀i,i < p.length→∃g o,po=some ⟨g,o,none⟩∧lS w (aF p i) g (o+i * 5)):=ae (fun i hi=>eh hp hi);have HWa:=ae (pY p 0 0);clear hp hO hM hK hTb hTL hTG;obtain⟨r,hr⟩:∃r,bj p src=r:=⟨_,rfl⟩;rw [hr] at HCp ⊢;clear hr;generalize hpn:p.length=pn at *;obtain⟨b0,h1,h2⟩:=kK w (.cells #[.slice po pn pc] 24) (.cells #[.int .i64 0,.int .i64 0] 29);have H1:=ae h1;have H3:=ae h2;have B0:=ae b0;clear b0 h1 h2;replace hpn:=ae hpn;go_enter Tryz.func23,Tryz.ntmps23
 go_upto_region 1 with fail
 show Code.wp _ _ _ _ ((w.alloc (.cells #[.slice po pn pc] 24)).alloc (.cells #[.int .i64 0,.int .i64 0] 29));generalize (w.alloc (.cells #[.slice po pn pc] 24)).alloc (.cells #[.int .i64 0,.int .i64 0] 29)=W at *;have hz2:=(aP H3.out).2.2;have hq0:w.heap.size < W.heap.size:=(aV H1.out).2;have c0:=(aV H1.out).1;have C1:=ae (CW.out W B0.out);go_wp2_with fail
 refine C1.out.mono ?_;rintro e w1 ⟨rfl,b1⟩;obtain⟨⟨wc1,wc2⟩,hwc⟩:∃wc,wholeF 0 0 p=wc:=⟨_,rfl⟩;rw [hwc] at HCp HWa CFn ⊢;dsimp only at HCp HWa CFn ⊢
 have b2:=ah w1 (.cells #[.int .i64 wc1,.int .i64 wc2] 29);have HS:=ae (heap_alloc_new w1 (.cells #[.int .i64 wc1,.int .i64 wc2] 29));have BW2:=ae (af b1 b2);clear C1 CW b1 b2 c0 hwc;go_upto_region 2 with fail
 show Code.wp _ _ _ _ (w1.alloc (.cells #[.int .i64 wc1,.int .i64 wc2] 29));generalize w1.alloc (.cells #[.int .i64 wc1,.int .i64 wc2] 29)=w2 at *;generalize w1.heap.size=q1 at *;obtain⟨⟨z0,z1⟩,⟨f0,f1⟩,_⟩:=aP ((BW2.out.block _ hz2).trans H3.out);obtain⟨⟨s0,s1⟩,_,hsl⟩:=aP HS.out;have c0:=(BW2.out.cell (p:=⟨w.heap.size,0,none⟩) hq0).trans (aV H1.out).1;by_cases hw0:wc1=0
 ·have HCp2:Hid (r=if(namesF p).1≠0 then namesF p else(bw (eG p src) pn).getD (0,0)):=ae (by rw [HCp.out,if_neg (by simpa using hw0)]);replace CFn:=ae (fun i hi=>CFn.out i hi hw0);subst hw0;have C2:=ae (CN.out w2 (af B0.out BW2.out));obtain⟨⟨nc1,nc2⟩,hnc⟩:∃nc,namesF p=nc:=⟨_,rfl⟩;rw [hnc] at C2 HCp2;dsimp only at C2 HCp2
  clear HCp CN HWa hnc;go_wp2_with fail
  refine C2.out.mono ?_;rintro e w3 ⟨rfl,b3⟩;have b4:=ah w3 (.cells #[.int .i64 nc1,.int .i64 nc2] 29);have HS2:=ae (heap_alloc_new w3 (.cells #[.int .i64 nc1,.int .i64 nc2] 29));have BW4:=ae (af BW2.out (af b3 b4));clear C2 b3 b4 c0 s0 s1 z0 z1 f0 f1 hsl HS BW2;go_upto_region 5 with fail
  show Code.wp _ _ _ _ (w3.alloc (.cells #[.int .i64 nc1,.int .i64 nc2] 29));generalize w3.alloc (.cells #[.int .i64 nc1,.int .i64 nc2] 29)=w4 at *;generalize w3.heap.size=q3 at *;obtain⟨⟨z0,z1⟩,⟨f0,f1⟩,_⟩:=aP ((BW4.out.block _ hz2).trans H3.out);obtain⟨⟨s0,s1⟩,_,hsl⟩:=aP HS2.out;by_cases hn0:nc1=0
  ·have HCp3:Hid (r=(bw (eG p src) pn).getD (0,0)):=ae (by rw [HCp2.out,if_neg (by simpa using hn0)]);subst hn0;have c0:=(BW4.out.cell (p:=⟨w.heap.size,0,none⟩) hq0).trans (aV H1.out).1;clear HCp2;go_wp2_with fail
   clear s0 s1 z0 z1 f0 f1 hsl c0;go_loopw [35] (fun iv wr=>∃i:Nat,i≤pn∧iv= .int .i64 i∧Hid (∀j,j < i→eG p src j=none)∧Hid (Below W.heap.size W wr)) (fun iv _=>pn - (intOf iv).toNat)
   case atStart=>exact⟨0,Nat.zero_le _,rfl,ae (fun j h=>absurd h (Nat.not_lt_zero _)),BW4⟩
   case round=>
    clear BW4;obtain⟨i,hi,rfl,HF,HW⟩:=hrel;by_cases hit:i < pn
    ·have hiI:(i:Int) < pn:=(by omega);obtain⟨g,o,rfl,hfr⟩:=HRd.out i hit;obtain⟨ha,hb,hc,hdd,hfv,d0,d1,d2,d3,d4⟩:=hfr.val;have hgl:=hfr.1;have Bw:=ae (af B0.out HW.out);have CF:=ae (fun w' (b:Below wr.heap.size wr w')=>CFn.out i hit _ w' (af Bw.out b) (hfv.below (af Bw.out b)));have HFi:=ae (HFo.out i);obtain⟨e0,he0⟩:∃e0,dH p (aF p i) src=e0:=⟨_,rfl⟩;rw [he0] at CF HFi;obtain⟨fx,hh⟩:∃fx,aF p i=fx:=⟨_,rfl⟩;rw [hh] at d0 d1 d2 d3 d4 CF;replace d0:=(Bw.out.cell (p:=⟨g,o+i * 5,none⟩) hgl).trans d0;replace d1:=(Bw.out.cell (p:=⟨g,o+i * 5+1,none⟩) hgl).trans d1;replace d2:=(Bw.out.cell (p:=⟨g,o+i * 5+2,none⟩) hgl).trans d2;replace d3:=(Bw.out.cell (p:=⟨g,o+i * 5+3,none⟩) hgl).trans d3;replace d4:=(Bw.out.cell (p:=⟨g,o+i * 5+4,none⟩) hgl).trans d4;clear hfv hfr he0 hh;generalize fx.2.1.length=fl at *;generalize fx.2.2.2.1.length=fbl at *;generalize bs fx.1=fnm at *;have b5:=ah wr (.cells #[.string fnm,.slice ha fl hc,.int .i64 fx.2.2.1,.slice hb fbl hdd,.int .i64 fx.2.2.2.2] 36);have Y5:=ae (heap_alloc_new wr (.cells #[.string fnm,.slice ha fl hc,.int .i64 fx.2.2.1,.slice hb fbl hdd,.int .i64 fx.2.2.2.2] 36));have HC5:=ae (CF.out _ b5);have HW5:=ae (af HW.out b5);clear b5 CF;go_upto_region 10 with fail
     show Code.wp _ _ _ _ (wr.alloc (.cells #[.string fnm,.slice ha fl hc,.int .i64 fx.2.2.1,.slice hb fbl hdd,.int .i64 fx.2.2.2.2] 36));generalize wr.alloc (.cells #[.string fnm,.slice ha fl hc,.int .i64 fx.2.2.1,.slice hb fbl hdd,.int .i64 fx.2.2.2.2] 36)=w5 at *;generalize wr.heap.size=q5 at *;clear d0 d1 d2 d3 d4;have c0:=(HW5.out.cell (p:=⟨w.heap.size,0,none⟩) hq0).trans (aV H1.out).1;obtain⟨⟨y0,y1,y2,y3,y4⟩,_,_⟩:=bP Y5.out;go_wp2_with fail
     refine HC5.out.mono ?_;rintro e w6 ⟨rfl,b6⟩;have b7:=ah w6 (.cells #[.int .i64 e0.1,.int .i64 e0.2] 29);have Y7:=ae (heap_alloc_new w6 (.cells #[.int .i64 e0.1,.int .i64 e0.2] 29));have HW7:=ae (af (af HW5.out b6) b7);clear b6 b7 c0 y0 y1 y2 y3 y4 HC5;go_upto_region 11 with fail
     show Code.wp _ _ _ _ (w6.alloc (.cells #[.int .i64 e0.1,.int .i64 e0.2] 29));generalize w6.alloc (.cells #[.int .i64 e0.1,.int .i64 e0.2] 29)=w7 at *;generalize w6.heap.size=q7 at *;obtain⟨⟨s0,s1⟩,_,_⟩:=aP Y7.out;by_cases he0:e0.1=0
     ·have HF2:Hid (∀j,j < i+1→eG p src j=none):=ae (fun j hj=>by
       by_cases e:j=i
       ·rw [e,HFi.out,he0];simp
       ·exact HF.out j (by omega))
      rw [he0] at s0;clear he0;go_wp2_with fail
      go_roundw
      case rel=>exact⟨i+1,by omega,by go_num,HF2,HW7⟩
      case measure=>simp [intOf];omega
     ·have heb:(e0.1 == 0)=false:=beq_eq_false_iff_ne.2 he0;have HR:Hid (r=e0):=ae (by
       rw [HCp3.out,bN (K:=i) HF.out hit (by rw [HFi.out,if_pos he0])];rfl)
      obtain⟨⟨z0,z1⟩,⟨f0,f1⟩,_⟩:=aP ((HW7.out.block _ hz2).trans H3.out);have HE:Hid (Below w.heap.size w ((w7.setCell ⟨w.heap.size+1,0,none⟩ (.int .i64 e0.1)).setCell ⟨w.heap.size+1,1,none⟩ (.int .i64 e0.2))):=ae ((((af B0.out HW7.out).setCell (p:=⟨w.heap.size+1,0,none⟩) (Nat.le_succ _) _).setCell (p:=⟨w.heap.size+1,1,none⟩) (Nat.le_succ _) _));go_wp2_with fail
      exact bodyPost_ret (v:= .agg #[.int .i64 e0.1,.int .i64 e0.2]) (by simp [results,Tryz.results23,go_sem,z0,z1]) rfl ⟨by rw [HR.out],HE.out⟩
    ·obtain rfl:i=pn:=(by omega);have HR:Hid (r=(0,0)):=ae (by rw [HCp3.out,bh HF.out];rfl);obtain⟨⟨z0,z1⟩,⟨f0,f1⟩,_⟩:=aP ((HW.out.block _ hz2).trans H3.out);have HE:Hid (Below w.heap.size w ((wr.setCell ⟨w.heap.size+1,0,none⟩ (.int .i64 0)).setCell ⟨w.heap.size+1,1,none⟩ (.int .i64 0))):=ae ((((af B0.out HW.out).setCell (p:=⟨w.heap.size+1,0,none⟩) (Nat.le_succ _) _).setCell (p:=⟨w.heap.size+1,1,none⟩) (Nat.le_succ _) _));go_wp2_with fail
     exact bodyPost_ret (v:= .agg #[.int .i64 0,.int .i64 0]) (by simp [results,Tryz.results23,go_sem,z0,z1]) rfl ⟨by rw [HR.out],HE.out⟩
  ·have hnb:(nc1 == 0)=false:=beq_eq_false_iff_ne.2 hn0;have HR:Hid (r=(nc1,nc2)):=ae (by rw [HCp2.out,if_pos hn0]);have HE:Hid (Below w.heap.size w ((w4.setCell ⟨w.heap.size+1,0,none⟩ (.int .i64 nc1)).setCell ⟨w.heap.size+1,1,none⟩ (.int .i64 nc2))):=ae ((((af B0.out BW4.out).setCell (p:=⟨w.heap.size+1,0,none⟩) (Nat.le_succ _) _).setCell (p:=⟨w.heap.size+1,1,none⟩) (Nat.le_succ _) _));go_wp2_with fail
   exact bodyPost_ret (v:= .agg #[.int .i64 nc1,.int .i64 nc2]) (by simp [results,Tryz.results23,go_sem,z0,z1]) rfl ⟨by rw [HR.out],HE.out⟩
 ·have hwb:(wc1 == 0)=false:=beq_eq_false_iff_ne.2 hw0;obtain⟨J,hJ,_,hJl⟩:=HWa.out hw0;have hJ2:J < pn:=by omega
  have hJI:(J:Int) < pn:=by omega
  obtain⟨g,o,rfl,hfr⟩:=HRd.out J hJ2;obtain⟨_,_,_,_,_,_,_,_,_,d4⟩:=hfr.val;have Bw:=ae (af B0.out BW2.out);replace d4:=(Bw.out.cell (p:=⟨g,o+J * 5+4,none⟩) hfr.1).trans d4;obtain⟨at_,hat⟩:∃at_,(aF p J).2.2.2.2=at_:=⟨_,rfl⟩;rw [hat] at d4;have HR:Hid (r=(wc1,at_)):=ae (by rw [HCp.out,if_pos hw0,hJ,Int.toNat_natCast,hat]);rw [hJ] at s1 ⊢;have HE:Hid (Below w.heap.size w ((w2.setCell ⟨w.heap.size+1,0,none⟩ (.int .i64 wc1)).setCell ⟨w.heap.size+1,1,none⟩ (.int .i64 at_)).drew):=ae (((Bw.out.setCell (p:=⟨w.heap.size+1,0,none⟩) (Nat.le_succ _) _).setCell (p:=⟨w.heap.size+1,1,none⟩) (Nat.le_succ _) _).drew);clear hfr hJ hat HCp HWa hJl;go_wp2_with fail
  go_region
  all_goals
   go_wp2_with fail
   exact bodyPost_ret (v:= .agg #[.int .i64 wc1,.int .i64 at_]) (by simp [results,Tryz.results23,go_sem,z0,z1]) rfl ⟨by rw [HR.out],HE.out⟩
theorem eM (p:List Fun) (po:Option Addr) (pc:Nat) (w:World) (hp:bK w p (.slice po p.length pc)) (hl:p.length≤1000000) (hO:∀f∈p,OkF f) (hM:∀f∈p,Mod f∧f.2.1.length≤1000000) (hTb:Tb w) (hTL:L5.Tab w) (hTG:Tab w)
  (hK:(wholeF 0 0 p).1=0→∀f∈p,Kept p f∧tM f∧∀k,k < f.2.2.2.1.length→∀i,i < (aG f k).length→uw (au f k i)∧aJ (au f k i)=0):
  Calls Tryz.prog 9 #[.agg #[.slice po p.length pc]] w fun e w'=>e= .returned (.agg #[.int .i64 (bj p true).1,.int .i64 (bj p true).2])∧Below w.heap.size w w':=by
 have CW:=ae (fun w' (b:Below w.heap.size w w')=>od p true po pc w' (hp.below b) hl hO hM (hTb.below b) (hTL.below b) (hTG.below b) hK);clear hp hO hM hTb hTL hTG hK;obtain⟨⟨r1,r2⟩,hr⟩:∃r,bj p true=r:=⟨_,rfl⟩;rw [hr] at CW ⊢;clear hr;generalize p.length=pn at *;obtain⟨b0,h1,h2⟩:=kK w (.cells #[.slice po pn pc] 24) (.cells #[.int .i64 0,.int .i64 0] 29);have H1:=ae h1;have H3:=ae h2;have B0:=ae b0;clear b0 h1 h2;go_enter Tryz.func9,Tryz.ntmps9
 go_upto_region 1 with fail
 show Code.wp _ _ _ _ ((w.alloc (.cells #[.slice po pn pc] 24)).alloc (.cells #[.int .i64 0,.int .i64 0] 29));generalize (w.alloc (.cells #[.slice po pn pc] 24)).alloc (.cells #[.int .i64 0,.int .i64 0] 29)=W at *;have c0:=(aV H1.out).1;have C1:=ae (CW.out W B0.out);clear CW;go_wp2_with fail
 refine C1.out.mono ?_;rintro e w1 ⟨rfl,b1⟩;have B1:=ae (af B0.out b1);have K3:=ae ((b1.block _ (Array.getElem?_eq_some_iff.1 H3.out).1).trans H3.out);clear b1 c0 C1;obtain⟨⟨z0,z1⟩,⟨f0,f1⟩,_⟩:=aP K3.out;have HE:Hid (Below w.heap.size w ((w1.setCell ⟨w.heap.size+1,0,none⟩ (.int .i64 r1)).setCell ⟨w.heap.size+1,1,none⟩ (.int .i64 r2))):=ae (((B1.out.setCell (p:=⟨w.heap.size+1,0,none⟩) (Nat.le_succ _) _).setCell (p:=⟨w.heap.size+1,1,none⟩) (Nat.le_succ _) _));go_wp2_with fail
 exact bodyPost_ret (v:= .agg #[.int .i64 r1,.int .i64 r2]) (by simp [results,Tryz.results9,go_sem,z0,z1]) rfl ⟨rfl,HE.out⟩
theorem mB (p:List Fun) (po:Option Addr) (pc:Nat) (w:World) (hp:bK w p (.slice po p.length pc)) (hl:p.length≤1000000) (hO:∀f∈p,OkF f) (hM:∀f∈p,Mod f∧f.2.1.length≤1000000) (hTb:Tb w) (hTL:L5.Tab w) (hTG:Tab w)
  (hK:(wholeF 0 0 p).1=0→∀f∈p,Kept p f∧tM f∧∀k,k < f.2.2.2.1.length→∀i,i < (aG f k).length→uw (au f k i)∧aJ (au f k i)=0):
  Calls Tryz.prog 11 #[.agg #[.slice po p.length pc]] w fun e w'=>e= .returned (.agg #[.int .i64 (bj p false).1,.int .i64 (bj p false).2])∧Below w.heap.size w w':=by
 have CW:=ae (fun w' (b:Below w.heap.size w w')=>od p false po pc w' (hp.below b) hl hO hM (hTb.below b) (hTL.below b) (hTG.below b) hK);clear hp hO hM hTb hTL hTG hK;obtain⟨⟨r1,r2⟩,hr⟩:∃r,bj p false=r:=⟨_,rfl⟩;rw [hr] at CW ⊢;clear hr;generalize p.length=pn at *;obtain⟨b0,h1,h2⟩:=kK w (.cells #[.slice po pn pc] 24) (.cells #[.int .i64 0,.int .i64 0] 29);have H1:=ae h1;have H3:=ae h2;have B0:=ae b0;clear b0 h1 h2;go_enter Tryz.func11,Tryz.ntmps11
 go_upto_region 1 with fail
 show Code.wp _ _ _ _ ((w.alloc (.cells #[.slice po pn pc] 24)).alloc (.cells #[.int .i64 0,.int .i64 0] 29));generalize (w.alloc (.cells #[.slice po pn pc] 24)).alloc (.cells #[.int .i64 0,.int .i64 0] 29)=W at *;have c0:=(aV H1.out).1;have C1:=ae (CW.out W B0.out);clear CW;go_wp2_with fail
 refine C1.out.mono ?_;rintro e w1 ⟨rfl,b1⟩;have B1:=ae (af B0.out b1);have K3:=ae ((b1.block _ (Array.getElem?_eq_some_iff.1 H3.out).1).trans H3.out);clear b1 c0 C1;obtain⟨⟨z0,z1⟩,⟨f0,f1⟩,_⟩:=aP K3.out;have HE:Hid (Below w.heap.size w ((w1.setCell ⟨w.heap.size+1,0,none⟩ (.int .i64 r1)).setCell ⟨w.heap.size+1,1,none⟩ (.int .i64 r2))):=ae (((B1.out.setCell (p:=⟨w.heap.size+1,0,none⟩) (Nat.le_succ _) _).setCell (p:=⟨w.heap.size+1,1,none⟩) (Nat.le_succ _) _));go_wp2_with fail
 exact bodyPost_ret (v:= .agg #[.int .i64 r1,.int .i64 r2]) (by simp [results,Tryz.results11,go_sem,z0,z1]) rfl ⟨rfl,HE.out⟩
end Go.Proofs.YtljkgcfnoegibaaGreatDoor
