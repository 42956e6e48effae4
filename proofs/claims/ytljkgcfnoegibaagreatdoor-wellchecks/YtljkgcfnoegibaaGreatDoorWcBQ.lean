/- Texts of one chain, joined. -/
import Derived.Test.YtljkgcfnoegibaaGreatDoorWcBO
import Derived.Test.YtljkgcfnoegibaaGreatDoorWcBP
set_option maxHeartbeats 4000000
set_option maxRecDepth 20000
namespace Go.Proofs.YtljkgcfnoegibaaGreatDoor
open Go Go.RowKit Go.Maps
open G (Tok Er Ins Fun)
open Mix (Up)
theorem nmap_empty {w:World} {R:Rdg} {b n:Nat} {m:Int→Option (DataW Unit)} (h:NMap w R b n m) (hb:w.heap[b]? =some (.map #[] 0)) (a:Int) (ha:Wf6 a):m a=none:=by
 obtain⟨D,⟨es,c,h1,_,_,h4⟩,h2⟩:=h
 rw [hb] at h1
 injection h1 with h1
 injection h1 with h1 _
 have:=(h2 a ha).1
 rw [h4,←h1] at this
 cases hm:m a with
 |none=>rfl
 |some d=>rw [hm] at this;simp [Maps.has] at this
theorem tyL_keep (a:Int):∀(l:List Ins) (o:Option Int),o.isSome=true→(l.foldl (fun a' x=>if hitX a x then some (mkX x)else a') o).isSome=true:=by
 intro l
 induction l with
 |nil=>intro o h;exact h
 |cons x l ih=>
  intro o h
  simp only [List.foldl_cons]
  apply ih
  split
  ·rfl
  ·exact h
theorem tyL_hit (a:Int):∀(l:List Ins) (o:Option Int),(∃x∈l,hitX a x=true)→(l.foldl (fun a' x=>if hitX a x then some (mkX x)else a') o).isSome=true:=by
 intro l
 induction l with
 |nil=>rintro o ⟨x,h,_⟩;simp at h
 |cons y l ih=>
  rintro o ⟨x,h,hh⟩
  simp only [List.foldl_cons]
  rcases List.mem_cons.1 h with rfl | h
  ·apply tyL_keep
   rw [if_pos hh]
   rfl
  ·exact ih _ ⟨x,h,hh⟩
theorem tyL_par {f:Fun} {a:Int} (h:isPar f a=true) (l:List Ins):(tyL f a l).isSome=true:=by
 unfold tyL
 rw [if_pos h]
 exact tyL_keep a l _ rfl
theorem bigL_mem {f:Fun} {k i:Nat} (hk:k < f.2.2.2.1.length) (hi:i < (blkN f k).length):insN f k i∈bigL f f.2.2.2.1.length 0:=by
 unfold bigL
 simp only [List.take_length,List.take_zero,List.append_nil,List.mem_flatten]
 exact⟨blkN f k,List.mem_of_getElem? (blkN_at hk),List.mem_of_getElem? (insN_at hi)⟩
def parS (j:Nat):Int→Option (Int × Int):=fun a=>if 0≤a∧a < (j:Int)then some (0,-1)else none
theorem parS_step (j:Nat) (a:Int):(if a=(j:Int)then some ((0:Int),(-1:Int))else parS j a)=parS (j+1) a:=by
 unfold parS
 by_cases h:a=(j:Int)
 ·rw [if_pos h,if_pos (by omega)]
 ·rw [if_neg h]
  by_cases h2:0≤a∧a < (j:Int)
  ·rw [if_pos h2,if_pos (by omega)]
  ·rw [if_neg h2,if_neg (by omega)]
theorem parS_all (f:Fun) (a:Int):parS f.2.1.length a=plM f 0 0 a:=by
 unfold parS plM
 rw [plF_first]
 unfold isPar
 by_cases h:0≤a∧a < (f.2.1.length:Int)
 ·rw [if_pos h,if_pos (by simpa using h)]
  rfl
 ·rw [if_neg h,if_neg (by simpa using h)]
  rfl
theorem once_of {f:Fun} {src:Bool} (h:∀k,k < f.2.2.2.1.length→∀i,i < (blkN f k).length→valC f k i src=0) (K J:Nat):Once f K J:=by
 intro k i _ hk hi hm
 have:=h k hk i hi
 unfold valC at this
 rw [made_pl] at this
 cases hp:plF f (insN f k i).2.1 k i with
 |none=>rfl
 |some m=>
  rw [hp] at this
  simp [hm] at this
theorem phi_of {f:Fun} {src:Bool} {k i:Nat} (h:valC f k i src=0) (h20:(insN f k i).1=20):phiF f k i=true:=by
 unfold valC at h
 split at h
 ·omega
 ·split at h
  ·omega
  ·rename_i h2
   simpa [h20] using h2
theorem each_zero {f:Fun} {c:Nat→Nat→Int} (h:(eachR f c).1=0):eachO f c=none:=by
 cases he:eachO f c with
 |none=>rfl
 |some e=>
  unfold eachR at h
  rw [he] at h
  exact absurd h (rows_some he).1
theorem box_off {w w':World} {q:Nat} {r:Nat} (hg:w.grownBy w' (some r)) {cur:Array Value} {t:Nat} {z:Nat × Nat} (h:w.heap[q]? =some (Obj.cells cur t z)) (hne:q≠r):w'.heap[q]? =some (Obj.cells cur t z):=(hg.block q (Array.getElem?_eq_some_iff.1 h).1 (by intro e;injection e with e;exact hne e)).trans h
theorem slG_grown {w w':World} {r:Nat} (hg:w.grownBy w' (some r)) (hr:∃cur z,w.heap[r]? =some (Obj.cells cur 111 z)) {ao:Option Addr} {l:List Int} (h:SlG w ao l):Sl w' ao l:=by
 rcases h with h | ⟨b,o,e,hb,hc⟩
 ·exact .inl h
 ·refine .inr ⟨b,o,e,Nat.lt_of_lt_of_le hb.1 hg.size,fun i n hi=>hg.cell (hc i n hi) ?_⟩
  intro e2
  injection e2 with e2
  obtain⟨cur,z,hr⟩:=hr
  rw [←e2] at hr
  exact hb.2 cur z hr
theorem func11_any (p:List Fun) (f:Fun) (src:Bool) (po:Option Addr) (pc:Nat) (fv:Value) (w:World) (hp:ProgR w p (.slice po p.length pc)) (hl:p.length≤1000000) (hv:FunV w f fv) (hM:Mod f) (hTL:L5.Tab w) (hTG:Tab w) (hK:Kept p f) (hKey:KeyF f)
  (hX:∀k,k < f.2.2.2.1.length→∀i,i < (blkN f k).length→KeyX (insN f k i)∧checkC (insN f k i)=0):
  Calls Tryz.prog 39 #[.slice po p.length pc,fv,.bool src] w fun e w'=>e= .returned (.agg #[.int .i64 (funcE p f src).1,.int .i64 (funcE p f src).2])∧Below w.heap.size w w':=by
 have HFe:Hid (funcE p f src=if(shapedF f).1≠0 then((shapedF f).1,f.2.2.2.2)else if reachB f=false then(14,f.2.2.2.2)else match eachO f (fun k i=>valC f k i src)with
  |some e=>e
  |none=>(eachO f (fun k i=>lookC p f k i)).getD (0,0)):=hide rfl
 have HFl:Hid (flowC f=if(shapedF f).1≠0 then(shapedF f).1 else if reachB f=false then 14 else 0):=hide rfl
 have CFl:=hide (fun v w' hv ht=>flow11_any f v w' hv ht hK.1)
 have CPr:=hide (fun v w' hv hF hT=>preds_any f v w' hv hF hT)
 have CDo:=hide (fun v w' hv hF hT h0=>domOfG_any f v w' hv hF hT h0)
 have CTy:=hide (fun v w' hv ht=>types11_any f v w' hv ht hM hKey)
 have HKk:=hide hK.1
 obtain⟨r,hr⟩:∃r,funcE p f src=r:=⟨_,rfl⟩
 rw [hr] at HFe ⊢
 clear hr
 have HP:=hide hp
 have HKy:=hide hKey
 have HXx:=hide hX
 have HMf:=hide hM
 have HTl:=hide hTL
 obtain⟨lp,cp,lb,cb,rfl,_,_⟩:=fun_box hv
 have HBk:=hide (fun_blks hv)
 have HV:=hide hv
 have HTg:=hide hTG
 have HB2:Hid (BlksR w f.2.2.2.1 (.slice lb f.2.2.2.1.length cb)):=HBk
 clear hv hp hKey hX hM hTL hTG hK HBk
 obtain⟨pn,hpn⟩:∃n,p.length=n:=⟨_,rfl⟩
 obtain⟨nm,hnm⟩:∃n,bs f.1=n:=⟨_,rfl⟩
 obtain⟨lps,hlps⟩:∃n,f.2.1.length=n:=⟨_,rfl⟩
 obtain⟨rt,hrt⟩:∃n,f.2.2.1=n:=⟨_,rfl⟩
 obtain⟨lbs,hlbs⟩:∃n,f.2.2.2.1.length=n:=⟨_,rfl⟩
 obtain⟨pl,hpl⟩:∃n,f.2.2.2.2=n:=⟨_,rfl⟩
 rw [hnm,hlps,hrt,hlbs,hpl] at HV ⊢
 rw [hpn] at HP hl ⊢
 rw [hlbs] at HKk CDo HB2
 rw [hpl] at HFe
 replace hpn:=hide hpn
 replace hlps:=hide hlps
 replace hrt:=hide hrt
 replace hlbs:=hide hlbs
 clear hnm hpl
 have hlp1:lps≤1000000:=by have:=HKy.out.2.2;rw [hlps.out] at this;omega
 obtain⟨b0,h0,h1⟩:=box2 w (.cells #[.string nm,.slice lp lps cp,.int .i64 rt,.slice lb lbs cb,.int .i64 pl] 36) (.cells #[.int .i64 0,.int .i64 0] 29)
 have H0:=hide h0
 have H1:=hide h1
 have B0:=hide b0
 clear b0 h0 h1
 go_enter Tryz.func39,Tryz.ntmps39
 go_upto_region 1 with fail
 show Code.wp _ _ _ _ ((w.alloc (.cells #[.string nm,.slice lp lps cp,.int .i64 rt,.slice lb lbs cb,.int .i64 pl] 36)).alloc (.cells #[.int .i64 0,.int .i64 0] 29))
 generalize (w.alloc (.cells #[.string nm,.slice lp lps cp,.int .i64 rt,.slice lb lbs cb,.int .i64 pl] 36)).alloc (.cells #[.int .i64 0,.int .i64 0] 29)=W0 at *
 obtain⟨⟨x0,x1,x2,x3,x4⟩,_,_⟩:=five_at H0.out
 have C1:=hide (CFl.out _ W0 (HV.out.below B0.out) (HTg.out.below B0.out))
 obtain⟨fc,hfc⟩:∃fc,flowC f=fc:=⟨_,rfl⟩
 rw [hfc] at C1 HFl
 clear hfc
 go_wp2_with fail
 refine C1.out.mono ?_;rintro e W ⟨rfl,b1⟩
 have B1:=hide (below_step B0.out b1)
 have K0:=hide ((b1.block _ (Array.getElem?_eq_some_iff.1 H0.out).1).trans H0.out)
 have K1:=hide ((b1.block _ (Array.getElem?_eq_some_iff.1 H1.out).1).trans H1.out)
 clear b1 x0 x1 x2 x3 x4 C1 CFl H0 H1 B0
 have hle:w.heap.size≤w.heap.size+1:=Nat.le_succ _
 by_cases hf0:fc=0
 ·have hsh:(shapedF f).1=0:=by
   have h:=HFl.out
   by_cases hs:(shapedF f).1≠0
   ·rw [if_pos hs,hf0] at h;exact h.symm
   ·simpa using hs
  have hrb:reachB f=true:=by
   have h:=HFl.out
   rw [if_neg (by simp [hsh]),hf0] at h
   by_cases hb:reachB f=false
   ·rw [if_pos hb] at h;cases h
   ·simpa using hb
  replace HFe:Hid (r=match eachO f (fun k i=>valC f k i src)with
   |some e=>e
   |none=>(eachO f (fun k i=>lookC p f k i)).getD (0,0)):=hide (by rw [HFe.out,if_neg (by simp [hsh]),if_neg (by simp [hrb])])
  obtain⟨hFul,hTos,hpos⟩:=HKk.out hsh
  have hpll:(predsF f).length=lbs:=by rw [predsF_len,hlbs.out]
  have HVs:=hide (fun w' (b:Below W.heap.size W w')=>HV.out.below (below_step B1.out b))
  have CP:∀w,Below W.heap.size W w→Calls Tryz.prog 66 #[(.agg #[.string nm,.slice lp lps cp,.int .i64 rt,.slice lb lbs cb,.int .i64 pl])] w fun e w'=>∃v,e= .returned v∧Below w.heap.size w w'∧RowsG w' (predsF f) v:=fun w b=>(CPr.out _ w (HVs.out w b) hFul hTos).mono fun e w' ⟨v,he,h,b'⟩=>⟨_,he,b',rowsG_of h (by rw [hpll];exact hpos)⟩
  have CT:∀w,Below W.heap.size W w→Calls Tryz.prog 67 #[(.agg #[.string nm,.slice lp lps cp,.int .i64 rt,.slice lb lbs cb,.int .i64 pl])] w fun e w'=>∃v,e= .returned v∧Below w.heap.size w w'∧TreeG w' f v:=fun w b=>(CDo.out _ w (HVs.out w b) hFul hTos hpos).mono fun e w' ⟨a,he,h,b'⟩=>⟨_,he,b',h⟩
  have CY:∀w,Below W.heap.size W w→Calls Tryz.prog 15 #[(.agg #[.string nm,.slice lp lps cp,.int .i64 rt,.slice lb lbs cb,.int .i64 pl])] w fun e w'=>∃v,e= .returned v∧Below w.heap.size w w'∧TyM W.heap.size w' f v:=fun w' b=>(CTy.out _ w' (HVs.out w' b) (HTl.out.below (below_step B1.out b))).mono fun e w'' ⟨a,he,h1,h2,b'⟩=>⟨_,he,b',a,rfl,Nat.le_trans b.size h1,h2⟩
  have CX:∃v w',Below W.heap.size W w'∧LookU W.heap.size po pn pc nm lp lps cp rt lb lbs cb pl src f w' v:=by
   obtain⟨_,w3,v3,_,b3,h3⟩:=calls_exist (CP W (Below.refl _ _))
   obtain⟨_,w4,v4,_,b4,h4⟩:=calls_exist (CT w3 b3)
   obtain⟨_,w5,v5,_,b5,h5⟩:=calls_exist (CY w4 (below_step b3 b4))
   have b6:=below_box w5 (.map #[] 0)
   have b35:=below_step (below_step b3 b4) b5
   have h3':=((h3.below b4).below b5).below b6
   have h4':=(h4.below b5).below b6
   have h5':=h5.below b6
   have e3:=h3'
   have e4:=h4'
   have e5:=h5'
   obtain⟨qb,qo,qc,rfl,_⟩:=e3
   obtain⟨tr,_,_,_,_,rfl,_⟩:=e4
   obtain⟨tb,rfl,_⟩:=e5
   exact⟨_,_,below_step b35 b6,qb,qo,qc,tr,tb,w5.heap.size,rfl,by rw [←hpll];exact h3',h4',h5',⟨_,rfl,b35.size,heap_alloc_new _ _⟩⟩
  have xs:=fun(w':World) (b:Below W.heap.size W w')=>(five_at ((b.block _ (Array.getElem?_eq_some_iff.1 K0.out).1).trans K0.out)).1
  subst hf0
  clear HFl
  go_upto_region 4 with fail
  refine Mix.wp_region_last (fnUp (.slice po pn pc) (.agg #[.string nm,.slice lp lps cp,.int .i64 rt,.slice lb lbs cb,.int .i64 pl]) src f W.heap.size (Up.lookU W.heap.size po pn pc nm lp lps cp rt lb lbs cb pl src f)) 12 _ rfl rfl (by kernel_rfl) (by kernel_rfl) (by kernel_rfl) ?_
  refine Mix.mix_step rfl (valid_eq (.slice po pn pc) rfl) ?_ ?_
  ·intro w b k
   clear k
   simp [go_sem]
   exact⟨Below.refl _ _,fun d hd=>by cases hd;rfl⟩
  rintro v ⟨_,_,h⟩
  obtain rfl:v=(.slice po pn pc):=h _ rfl
  clear h
  simp only [Act.put,sU1,sU2,sU3]
  refine Mix.mix_step rfl (valid_eq (.agg #[.string nm,.slice lp lps cp,.int .i64 rt,.slice lb lbs cb,.int .i64 pl]) rfl) ?_ ?_
  ·intro w b k
   obtain⟨x0,x1,x2,x3,x4⟩:=xs w b
   clear k
   simp [go_sem,x0,x1,x2,x3,x4]
   exact⟨Below.refl _ _,fun d hd=>by cases hd;rfl⟩
  rintro v ⟨_,_,h⟩
  obtain rfl:v=(.agg #[.string nm,.slice lp lps cp,.int .i64 rt,.slice lb lbs cb,.int .i64 pl]):=h _ rfl
  clear h
  simp only [Act.put,sU1,sU2,sU3]
  refine Mix.mix_step rfl (valid_eq (.bool src) rfl) ?_ ?_
  ·intro w b k
   clear k
   simp [go_sem]
   exact⟨Below.refl _ _,fun d hd=>by cases hd;rfl⟩
  rintro v ⟨_,_,h⟩
  obtain rfl:v=(.bool src):=h _ rfl
  clear h
  simp only [Act.put,sU1,sU2,sU3]
  refine Mix.mix_step rfl (valid_eq (.agg #[.string nm,.slice lp lps cp,.int .i64 rt,.slice lb lbs cb,.int .i64 pl]) rfl) ?_ ?_
  ·intro w b k
   obtain⟨x0,x1,x2,x3,x4⟩:=xs w b
   clear k
   simp [go_sem,x0,x1,x2,x3,x4]
   exact⟨Below.refl _ _,fun d hd=>by cases hd;rfl⟩
  rintro v ⟨_,_,h⟩
  obtain rfl:v=(.agg #[.string nm,.slice lp lps cp,.int .i64 rt,.slice lb lbs cb,.int .i64 pl]):=h _ rfl
  clear h
  simp only [Act.put,sU1,sU2,sU3]
  refine Mix.mix_step rfl (valid_of (CP W (Below.refl _ _))) ?_ ?_
  ·intro w b k
   clear k
   simp [go_sem]
   exact Calls.mono (CP w b) fun e w' ⟨v,he,hb,hf⟩=>⟨v,he,hb,fun d hd=>by cases hd;exact hf⟩
  rintro p23 -
  simp only [Act.put,sU1,sU2,sU3]
  refine Mix.mix_step rfl (valid_eq (.agg #[.string nm,.slice lp lps cp,.int .i64 rt,.slice lb lbs cb,.int .i64 pl]) rfl) ?_ ?_
  ·intro w b k
   obtain⟨x0,x1,x2,x3,x4⟩:=xs w b
   clear k
   simp [go_sem,x0,x1,x2,x3,x4]
   exact⟨Below.refl _ _,fun d hd=>by cases hd;rfl⟩
  rintro v ⟨_,_,h⟩
  obtain rfl:v=(.agg #[.string nm,.slice lp lps cp,.int .i64 rt,.slice lb lbs cb,.int .i64 pl]):=h _ rfl
  clear h
  simp only [Act.put,sU1,sU2,sU3]
  refine Mix.mix_step rfl (valid_of (CT W (Below.refl _ _))) ?_ ?_
  ·intro w b k
   clear k
   simp [go_sem]
   exact Calls.mono (CT w b) fun e w' ⟨v,he,hb,hf⟩=>⟨v,he,hb,fun d hd=>by cases hd;exact hf⟩
  rintro p25 -
  simp only [Act.put,sU1,sU2,sU3]
  refine Mix.mix_step rfl (valid_eq (.agg #[.string nm,.slice lp lps cp,.int .i64 rt,.slice lb lbs cb,.int .i64 pl]) rfl) ?_ ?_
  ·intro w b k
   obtain⟨x0,x1,x2,x3,x4⟩:=xs w b
   clear k
   simp [go_sem,x0,x1,x2,x3,x4]
   exact⟨Below.refl _ _,fun d hd=>by cases hd;rfl⟩
  rintro v ⟨_,_,h⟩
  obtain rfl:v=(.agg #[.string nm,.slice lp lps cp,.int .i64 rt,.slice lb lbs cb,.int .i64 pl]):=h _ rfl
  clear h
  simp only [Act.put,sU1,sU2,sU3]
  refine Mix.mix_step rfl (valid_of (CY W (Below.refl _ _))) ?_ ?_
  ·intro w b k
   clear k
   simp [go_sem]
   exact Calls.mono (CY w b) fun e w' ⟨v,he,hb,hf⟩=>⟨v,he,hb,fun d hd=>by cases hd;exact hf⟩
  rintro p27 -
  simp only [Act.put,sU1,sU2,sU3]
  refine Mix.mix_step rfl ⟨.map (some W.heap.size),_,below_box W (.map #[] 0),fun d hd=>by cases hd;exact⟨_,rfl,Nat.le_refl _,heap_alloc_new _ _⟩⟩ ?_ ?_
  ·intro w b k
   clear k
   simp [go_sem,run_makeMap]
   exact⟨below_box _ _,fun d hd=>by cases hd;exact⟨_,rfl,b.size,heap_alloc_new _ _⟩⟩
  rintro p28 -
  simp only [Act.put,sU1,sU2,sU3]
  refine Mix.mix_step rfl (by obtain⟨v,w',b,h⟩:=CX;exact⟨v,w',b,fun d hd=>by cases hd;exact h⟩) ?_ ?_
  ·intro w b k
   have f23:RowsG w (predsF f) p23:=k 23 (by decide +kernel) (by simp [Mix.add]) p23 rfl
   have f25:TreeG w f p25:=k 25 (by decide +kernel) (by simp [Mix.add]) p25 rfl
   have f27:TyM W.heap.size w f p27:=k 27 (by decide +kernel) (by simp [Mix.add]) p27 rfl
   have f28:Map0 W.heap.size w p28:=k 28 (by decide +kernel) (by simp [Mix.add]) p28 rfl
   clear k
   have g23:=f23
   have g25:=f25
   have g27:=f27
   have g28:=f28
   obtain⟨qb,qo,qc,rfl,_⟩:=f23
   obtain⟨tr,_,_,_,_,rfl,_⟩:=f25
   obtain⟨tb,rfl,_⟩:=f27
   obtain⟨mb,rfl,_⟩:=f28
   simp [go_sem]
   refine⟨Below.refl _ _,fun d hd=>by cases hd;exact⟨qb,qo,qc,tr,tb,mb,by rw [hpll],by rw [←hpll];exact g23,g25,g27,g28⟩⟩
  rintro p29 -
  simp only [Act.put,sU1,sU2,sU3]
  refine Mix.mix_step rfl ⟨.pointer (some ⟨W.heap.size,0,none⟩),_,below_box W (.cells #[.slice none 0 0,.string ⟨#[]⟩,.slice none 0 0,.int .i64 0,.slice none 0 0,.int .i64 0,.bool false,.slice none 0 0,.pointer none,.map none,.map none] 111),fun d hd=>by cases hd;exact⟨_,rfl,Nat.le_refl _,heap_alloc_new _ _⟩⟩ ?_ ?_
  ·intro w b k
   clear k
   simp [go_sem]
   exact⟨below_box _ _,fun d hd=>by cases hd;exact⟨_,rfl,b.size,heap_alloc_new _ _⟩⟩
  rintro p8 -
  simp only [Act.put,sU1,sU2,sU3]
  refine Mix.mix_nil ?_
  intro w4 b4 hk
  obtain⟨q4,rfl,hqB,hq4⟩:BoxL W.heap.size w4 p8:=hk 8 (by simp [Mix.add]) p8 rfl
  obtain⟨qb,qo,qc,tr,tb,mb,rfl,hRw,hTr,hTy,hM0⟩:LookU W.heap.size po pn pc nm lp lps cp rt lb lbs cb pl src f w4 p29:=hk 29 (by simp [Mix.add]) p29 rfl
  clear hk
  refine⟨rfl,fun K hK=> ?_⟩
  obtain⟨⟨z0,z1,z2,z3,z4,z5,z6,z7,z8,z9,z10⟩,⟨f0,f1,f2,f3,f4,f5,f6,f7,f8,f9,f10⟩⟩:=zero_at hq4
  unfold Oper.wp
  simp [go_sem,z0,z1,z2,z3,z4,z5,z6,z7,z8,z9,z10,f0,f1,f2,f3,f4,f5,f6,f7,f8,f9,f10]
  refine hK _ _ ?_
  have HLk:=hide (set_look po pn pc nm lp lps cp rt lb lbs cb pl src qb qo qc tr tb mb hq4)
  have hgr:w4.grownBy (((((((((((w4.setCell ⟨q4,0,none⟩ (.slice po pn pc)).setCell ⟨q4,1,none⟩ (.string nm)).setCell ⟨q4,2,none⟩ (.slice lp lps cp)).setCell ⟨q4,3,none⟩ (.int .i64 rt)).setCell ⟨q4,4,none⟩ (.slice lb lbs cb)).setCell ⟨q4,5,none⟩ (.int .i64 pl)).setCell ⟨q4,6,none⟩ (.bool src)).setCell ⟨q4,7,none⟩ (.slice (some ⟨qb,qo,none⟩) lbs qc)).setCell ⟨q4,8,none⟩ (.pointer (some ⟨tr,0,none⟩))).setCell ⟨q4,9,none⟩ (.map (some tb))).setCell ⟨q4,10,none⟩ (.map (some mb))) (some q4):=grown_set2 (grown_set2 (grown_set2 (grown_set2 (grown_set2 (grown_set2 (grown_set2 (grown_set2 (grown_set2 (grown_set2 (grown_set w4 ⟨q4,0,none⟩ (.slice po pn pc)) 1 (.string nm)) 2 (.slice lp lps cp)) 3 (.int .i64 rt)) 4 (.slice lb lbs cb)) 5 (.int .i64 pl)) 6 (.bool src)) 7 (.slice (some ⟨qb,qo,none⟩) lbs qc)) 8 (.pointer (some ⟨tr,0,none⟩))) 9 (.map (some tb))) 10 (.map (some mb))
  clear z0 z1 z2 z3 z4 z5 z6 z7 z8 z9 z10 f0 f1 f2 f3 f4 f5 f6 f7 f8 f9 f10 hK CP CT CY CX xs
  generalize (((((((((((w4.setCell ⟨q4,0,none⟩ (.slice po pn pc)).setCell ⟨q4,1,none⟩ (.string nm)).setCell ⟨q4,2,none⟩ (.slice lp lps cp)).setCell ⟨q4,3,none⟩ (.int .i64 rt)).setCell ⟨q4,4,none⟩ (.slice lb lbs cb)).setCell ⟨q4,5,none⟩ (.int .i64 pl)).setCell ⟨q4,6,none⟩ (.bool src)).setCell ⟨q4,7,none⟩ (.slice (some ⟨qb,qo,none⟩) lbs qc)).setCell ⟨q4,8,none⟩ (.pointer (some ⟨tr,0,none⟩))).setCell ⟨q4,9,none⟩ (.map (some tb))).setCell ⟨q4,10,none⟩ (.map (some mb)))=w5 at *
  have hBW:w.heap.size≤W.heap.size:=B1.out.size
  have hqz:=(Array.getElem?_eq_some_iff.1 K1.out).1
  have h111:∃cur z,w4.heap[q4]? =some (Obj.cells cur 111 z):=⟨_,_,hq4⟩
  have hB4:=below_step B1.out b4
  have HB5:Hid (Below w.heap.size w w5):=hide (hB4.trans (grown_below hgr hB4.size (by omega)))
  have K2:=hide (box_off hgr ((b4.block _ (Array.getElem?_eq_some_iff.1 K0.out).1).trans K0.out) (by omega))
  have K3:=hide (box_off hgr ((b4.block _ hqz).trans K1.out) (by omega))
  obtain⟨tb',e1,htB,hIm⟩:=hTy
  injection e1 with e1
  injection e1 with e1
  subst e1
  obtain⟨mb',e1,hmB,hm0⟩:=hM0
  injection e1 with e1
  injection e1 with e1
  subst e1
  have htq:tb≠q4:=by
   intro e
   obtain⟨es,c,h⟩:=NMap.isMap hIm
   rw [e,hq4] at h
   cases h
  have hmq:mb≠q4:=by
   intro e
   rw [e,hq4] at hm0
   cases hm0
  have HI5:Hid (IMap w5 tb 1000000 (fun a=>tyL f a (bigL f f.2.2.2.1.length 0))):=hide (NMap.kept hIm hgr (by intro e;injection e with e;exact htq e))
  have HM5:Hid (w5.heap[mb]? =some (.map #[] 0)):=hide ((hgr.block mb (Array.getElem?_eq_some_iff.1 hm0).1 (by intro e;injection e with e;exact hmq e)).trans hm0)
  have HTr:Hid (∃ub uo db dd uc dc,TreeC w5 (succsF f) (succsF f).length tr ub uo db dd uc dc):=hide (by
   obtain⟨t,uo,dd,uc,dc,e,q1,q2,q3,q5⟩:=hTr
   injection e with e
   injection e with e
   injection e with e
   subst e
   have hv:TreeV w5 f (.pointer (some ⟨tr,0,none⟩)):=⟨tr,uo,dd,uc,dc,rfl,⟨Nat.lt_of_lt_of_le q1.1 hgr.size,fun i v hi=>hgr.cell (q1.2 i v hi) (by
    intro e2
    injection e2 with e2
    exact q2.2 _ _ (by rw [show tr=q4 from e2];exact hq4))⟩,slG_grown hgr h111 q3,slG_grown hgr h111 q5⟩
   obtain⟨t,ub,uo,db,dd,uc,dc,e,h⟩:=hv.cells (by rw [hlbs.out];exact hpos)
   injection e with e
   injection e with e
   injection e with e
   subst e
   exact⟨ub,uo,db,dd,uc,dc,by rw [succsF_len];exact h⟩)
  have HPr:Hid (qb < w5.heap.size∧PrC w5 f qb qo):=hide (by
   obtain⟨g,o,c,e,q1,q2⟩:=hRw
   injection e with e _ _
   injection e with e
   injection e with e1 e2
   subst e1 e2
   refine⟨Nat.lt_of_lt_of_le q1.1 hgr.size,fun k hk=> ?_⟩
   obtain⟨ao,ac,q3,q4'⟩:=q2 k _ (preds_at hk)
   refine⟨ao,ac,hgr.cell q3 ?_,slG_grown hgr h111 q4'⟩
   intro e2
   injection e2 with e2
   exact q1.2 _ _ (by rw [show qb=q4 from e2];exact hq4))
  have HTm:Hid (tb=mb→lps=0∧∀k,k < f.2.2.2.1.length→∀i,i < (blkN f k).length→mkX (insN f k i)=0):=hide (fun e=>by
   have hem:=fun a ha=>nmap_empty HI5.out (by rw [e];exact HM5.out) a ha
   refine⟨?_,fun k hk i hi=> ?_⟩
   ·by_cases h0:lps=0
    ·exact h0
    ·exfalso
     have h1:=hem 0 (wf_of ⟨by omega,by omega⟩)
     have h2:=tyL_par (f:=f) (a:=0) (by unfold isPar;rw [hlps.out];simp;omega) (bigL f f.2.2.2.1.length 0)
     cases h3:tyL f 0 (bigL f f.2.2.2.1.length 0)with
     |none=>rw [h3] at h2;cases h2
     |some t=>simp only [h3,Option.map_some] at h1;cases h1
   ·by_cases h0:mkX (insN f k i)=0
    ·exact h0
    ·exfalso
     have hb:blkN f k∈f.2.2.2.1:=List.mem_of_getElem? (blkN_at hk)
     have hx:insN f k i∈blkN f k:=List.mem_of_getElem? (insN_at hi)
     have h1:=hem (insN f k i).2.1 (wf_of (HKy.out.2.1 _ hb _ hx h0).1)
     have h2:(tyL f (insN f k i).2.1 (bigL f f.2.2.2.1.length 0)).isSome=true:=tyL_hit _ _ _ ⟨insN f k i,bigL_mem hk hi,hit_iff.2 ⟨rfl,h0⟩⟩
     cases h3:tyL f (insN f k i).2.1 (bigL f f.2.2.2.1.length 0)with
     |none=>rw [h3] at h2;cases h2
     |some t=>simp only [h3,Option.map_some] at h1;cases h1)
  have hq5:w.heap.size+1 < q4:=by omega
  have hmB2:w.heap.size+1 < mb:=by omega
  clear hgr hIm hm0 hRw hTr hB4 h111 hq4 b4 htq hmq hqz K0 K1 HKk
  obtain⟨⟨x0,x1,x2,x3,x4⟩,_,_⟩:=five_at K2.out
  have HMs:Hid (SMap w5 mb 0 (parS 0)):=hide (by
   have h:NMap w5 spotElem mb 0 (fun _=>none):=⟨.map [],⟨#[],0,HM5.out,⟨by simp,MapKept.stamped_empty 0,by simp⟩,Nat.le_refl _,rfl⟩,fun _ _=>⟨rfl,fun _=>rfl⟩⟩
   refine h.congr fun a=> ?_
   unfold parS
   rw [if_neg (by omega)]
   rfl)
  go_wp2_with fail
  clear x0 x1 x2 x3 x4
  go_loopw [33] (fun jv wr=>∃j:Nat,j≤lps∧jv= .int .i64 j∧Hid (SMap wr mb j (parS j))∧Hid (Below w.heap.size w wr)∧Hid (KM w5 wr)∧Hid (IMap wr tb 1000000 (fun a=>tyL f a (bigL f f.2.2.2.1.length 0)))∧Hid (wr.heap[q4]? =some (.cells #[.slice po pn pc,.string nm,.slice lp lps cp,.int .i64 rt,.slice lb lbs cb,.int .i64 pl,.bool src,.slice (some ⟨qb,qo,none⟩) lbs qc,.pointer (some ⟨tr,0,none⟩),.map (some tb),.map (some mb)] 111 (0,0)))∧Hid (wr.heap[w.heap.size+1]? =some (.cells #[.int .i64 0,.int .i64 0] 29 (0,0)))) (fun jv _=>lps - (intOf jv).toNat)
  case atStart=>exact⟨0,Nat.zero_le _,rfl,HMs,HB5,hide (KM.refl _),HI5,HLk,K3⟩
  case round=>
   clear HMs HI5 HLk K3 K2
   obtain⟨j,hj,rfl,HMs,HBw,HKm,HI5,HLk,K3⟩:=hrel
   obtain⟨⟨l0,l1,l2,l3,l4,l5,l6,l7,l8,l9,l10⟩,_⟩:=look_at _ _ _ _ _ _ _ _ _ _ _ _ _ _ _ _ _ _ _ _ HLk.out
   by_cases hjt:j < lps
   ·have hjI:(j:Int) < lps:=by omega
    have hWj:Wf6 (j:Int):=wf_of ⟨by omega,by omega⟩
    have hjm:j < maxLen:=by unfold maxLen;omega
    have HSt:=hide (parS_step j)
    have HMap:=hide (NMap.isMap HMs.out)
    have htm:tb≠mb:=fun e=>by have:=(HTm.out e).1;omega
    go_wp2_with (first | (at_mapUpdate;refine wpList_sput _ rfl _ _ _ rfl mb j _ rfl HMs.out hjm (j:Int) hWj 0 (-1) rfl rfl ?_;intro w6 own6 grow6) | fail)
    have hch:=Chg.of_grown (B:=w.heap.size) grow6 HMap.out HBw.out.size (by omega)
    go_roundw
    case rel=>
     refine⟨j+1,by omega,by go_num,hide ?_,hide (HBw.out.trans hch.1),hide (HKm.out.chg hch),hide (NMap.kept HI5.out grow6 (by intro e;injection e with e;exact htm e)),hide (hch.2 _ _ _ _ HLk.out),hide (hch.2 _ _ _ _ K3.out)⟩
     have e:(fun a=>if a=(j:Int)then some ((0:Int),(-1:Int))else parS j a)=parS (j+1):=funext HSt.out
     rw [←e]
     exact own6
    case measure=>simp [intOf];omega
   ·obtain rfl:lps=j:=by omega
    obtain⟨ub,uo,db,dd,uc,dc,hT5⟩:=HTr.out
    have HTw:=hide (HKm.out.tree hT5)
    have HPw:Hid (qb < wr.heap.size∧PrC wr f qb qo):=hide ⟨Nat.lt_of_lt_of_le HPr.out.1 HKm.out.1,fun k hk=>by
     obtain⟨qa,qac,q1,q2⟩:=HPr.out.2 k hk
     exact⟨qa,qac,HKm.out.2 _ _ q1,HKm.out.sl q2⟩⟩
    have hmw:mb < wr.heap.size:=NMap.lt HMs.out
    have htw:tb < wr.heap.size:=NMap.lt HI5.out
    have hww:=HBw.out.size
    have HS0:Hid (S1 w wr f mb tb lps 0 0 wr):=hide ⟨HBw.out,KM.refl _,by
     have e:parS lps=plM f 0 0:=funext fun a=>by rw [←parS_all,hlps.out]
     rw [←e,bigL_first]
     exact HMs.out,HI5.out⟩
    have HC69:Hid (∀w',S1 w wr f mb tb lps 0 0 w'→wr.heap.size≤w'.heap.size→Calls Tryz.prog 68 #[.agg #[.slice po pn pc,.string nm,.slice lp lps cp,.int .i64 rt,.slice lb lbs cb,.int .i64 pl,.bool src,.slice (some ⟨qb,qo,none⟩) lbs qc,.pointer (some ⟨tr,0,none⟩),.map (some tb),.map (some mb)],.func (Fn.func 69) #[.agg #[.slice po pn pc,.string nm,.slice lp lps cp,.int .i64 rt,.slice lb lbs cb,.int .i64 pl,.bool src,.slice (some ⟨qb,qo,none⟩) lbs qc,.pointer (some ⟨tr,0,none⟩),.map (some tb),.map (some mb)]] #[]] w' fun e w''=>e= .returned (.agg #[.int .i64 (eachR f (fun k i=>valC f k i src)).1,.int .i64 (eachR f (fun k i=>valC f k i src)).2])∧((eachR f (fun k i=>valC f k i src)).1=0→S1 w wr f mb tb lps lbs 0 w'')∧Below w.heap.size w w''∧Chg w.heap.size w' w''):=hide (fun w' hS' hs'=>
     each12_any 69 (fun args w=>by simp [go_sem]) po lp lb pn pc lps cp lbs cb nm rt pl src qb qo lbs qc tr tb mb f w w' HB2.out hlbs.out.symm HMf.out (fun k i=>valC f k i src) (S1 w wr f mb tb lps) (fun k i w'' h=>⟨h.1,h.1.size⟩) wr.heap.size hs'
      (fun k i w1 w2 r h hg hr=>h.grown hg hr hmw htw hww) (fun k w1 hk h=>S1.next (by rw [hlbs.out];exact hk) h)
      (fun k i xv w1 hk hi h hx=>makesF_any po lp lb pn pc lps cp lbs cb nm rt pl src qb qo lbs qc tr tb mb f w wr w1 k i xv HB2.out hlbs.out.symm HMf.out HTl.out hww (by omega) HPw.out.1 hlbs.out.symm HPw.out.2 (by have:=HKy.out.2.2;rw [hlps.out] at this;exact this) (HXx.out k (by rw [hlbs.out];exact hk) i hi).1 (fun e=>(HTm.out e).2 k (by rw [hlbs.out];exact hk) i hi) hk hi h hx) hS')
    obtain⟨⟨r1,r2⟩,hre⟩:∃e,eachR f (fun k i=>valC f k i src)=e:=⟨_,rfl⟩
    rw [hre] at HC69
    have HR1:=hide hre
    have HC:=hide (HC69.out wr HS0.out (Nat.le_refl _))
    clear HC69 hre HTr HPr
    go_wp2_with fail
    refine HC.out.mono ?_;rintro e w6 ⟨rfl,hS6,b6,c6⟩
    have b7:=below_box w6 (.cells #[.int .i64 r1,.int .i64 r2] 29)
    have H7:=hide (heap_alloc_new w6 (.cells #[.int .i64 r1,.int .i64 r2] 29))
    have HS6:=hide hS6
    have HGr7:=hide (below_grown b7 (some wr.heap.size))
    have hL6:=c6.2 _ _ _ _ HLk.out
    have hK6:=c6.2 _ _ _ _ K3.out
    have L7:=hide ((b7.block _ (Array.getElem?_eq_some_iff.1 hL6).1).trans hL6)
    have K7:=hide ((b7.block _ (Array.getElem?_eq_some_iff.1 hK6).1).trans hK6)
    have B7:Hid (Below w.heap.size w (w6.alloc (.cells #[.int .i64 r1,.int .i64 r2] 29))):=hide (below_step b6 b7)
    have hsz:Hid (wr.heap.size≤(w6.alloc (.cells #[.int .i64 r1,.int .i64 r2] 29)).heap.size):=hide (Nat.le_trans c6.1.size b7.size)
    clear b6 c6 b7 hL6 hK6 hS6 HC l0 l1 l2 l3 l4 l5 l6 l7 l8 l9 l10 HLk K3
    go_upto_region 11 with fail
    show Code.wp _ _ _ _ (w6.alloc (.cells #[.int .i64 r1,.int .i64 r2] 29))
    generalize w6.alloc (.cells #[.int .i64 r1,.int .i64 r2] 29)=w7 at *
    generalize w6.heap.size=q7 at *
    obtain⟨⟨y0,y1⟩,_,_⟩:=two_at H7.out
    by_cases hr1:r1=0
    ·have HEo:Hid (eachO f (fun k i=>valC f k i src)=none):=hide (each_zero (by rw [HR1.out];exact hr1))
     have HVal:=hide (rows_none HEo.out)
     have HRr:Hid (r=eachR f (fun k i=>lookC p f k i)):=hide (by rw [HFe.out,HEo.out];rfl)
     have HS7:=hide (S1.grown (HS6.out hr1) HGr7.out (Nat.le_refl _) hmw htw hww)
     have HC70:Hid (Calls Tryz.prog 68 #[.agg #[.slice po pn pc,.string nm,.slice lp lps cp,.int .i64 rt,.slice lb lbs cb,.int .i64 pl,.bool src,.slice (some ⟨qb,qo,none⟩) lbs qc,.pointer (some ⟨tr,0,none⟩),.map (some tb),.map (some mb)],.func (Fn.func 70) #[.agg #[.slice po pn pc,.string nm,.slice lp lps cp,.int .i64 rt,.slice lb lbs cb,.int .i64 pl,.bool src,.slice (some ⟨qb,qo,none⟩) lbs qc,.pointer (some ⟨tr,0,none⟩),.map (some tb),.map (some mb)]] #[]] w7 fun e w''=>e= .returned (.agg #[.int .i64 (eachR f (fun k i=>lookC p f k i)).1,.int .i64 (eachR f (fun k i=>lookC p f k i)).2])∧((eachR f (fun k i=>lookC p f k i)).1=0→S1 w wr f mb tb lps lbs 0 w'')∧Below w.heap.size w w''∧Chg w.heap.size w7 w''):=hide (
      each12_any 70 (fun args w=>by simp [go_sem]) po lp lb pn pc lps cp lbs cb nm rt pl src qb qo lbs qc tr tb mb f w w7 HB2.out hlbs.out.symm HMf.out (fun k i=>lookC p f k i) (fun _ _ w'=>S1 w wr f mb tb lps lbs 0 w') (fun k i w'' h=>⟨h.1,h.1.size⟩) wr.heap.size hsz.out
       (fun k i w1 w2 r h hg hr=>S1.grown h hg hr hmw htw hww) (fun k w1 hk h=>h)
       (fun k i xv w1 hk hi h hx=>by
        have hkl:k < f.2.2.2.1.length:=by rw [hlbs.out];exact hk
        have hv0:=HVal.out k hkl i hi
        refine(takesF_any po lp lb pn pc lps cp lbs cb nm rt pl src qb qo lbs qc tr tb mb p f w wr w1 k i xv HP.out hpn.out.symm (by rw [hpn.out];exact hl) hrt.out.symm HB2.out hlbs.out.symm HTl.out HTw.out hTos (by rw [hlbs.out];exact hpos) hrb (fun a=>ty_once _ (Nat.le_refl _) (once_of HVal.out _ _)) (HXx.out k hkl i hi).2 (fun h20=>phi_of hv0 h20) (HXx.out k hkl i hi).1 hk (by rw [hlbs.out];exact h) hx).mono ?_
        rintro e w2 ⟨he,b⟩
        exact⟨he,fun _=>S1.grown h (below_grown b (some wr.heap.size)) (Nat.le_refl _) hmw htw hww,Chg.of_below b h.1.size⟩) HS7.out)
     rw [←HRr.out] at HC70
     obtain⟨⟨l0,l1,l2,l3,l4,l5,l6,l7,l8,l9,l10⟩,_⟩:=look_at _ _ _ _ _ _ _ _ _ _ _ _ _ _ _ _ _ _ _ _ L7.out
     obtain⟨s1,s2⟩:=r
     subst hr1
     clear HFe HRr
     go_wp2_with fail
     refine HC70.out.mono ?_;rintro e w8 ⟨rfl,_,b8,c8⟩
     have B8:=hide b8
     have K8:=hide (c8.2 _ _ _ _ K7.out)
     clear b8 c8 HC70 l0 l1 l2 l3 l4 l5 l6 l7 l8 l9 l10 y0 y1
     obtain⟨⟨z0,z1⟩,⟨f0,f1⟩,_⟩:=two_at K8.out
     have HE:Hid (Below w.heap.size w ((w8.setCell ⟨w.heap.size+1,0,none⟩ (.int .i64 s1)).setCell ⟨w.heap.size+1,1,none⟩ (.int .i64 s2))):=hide ((B8.out.setCell (p:=⟨w.heap.size+1,0,none⟩) hle _).setCell (p:=⟨w.heap.size+1,1,none⟩) hle _)
     go_wp2_with fail
     exact bodyPost_ret (v:= .agg #[.int .i64 s1,.int .i64 s2]) (by simp [results,Tryz.results39,go_sem,z0,z1]) rfl ⟨rfl,HE.out⟩
    ·have HR:Hid (r=(r1,r2)):=hide (by
      rw [HFe.out]
      have h:=HR1.out
      unfold eachR at h
      cases he:eachO f (fun k i=>valC f k i src)with
      |none=>rw [he] at h;simp at h;exact absurd h.1.symm hr1
      |some e=>rw [he] at h;exact h)
     obtain⟨⟨z0,z1⟩,⟨f0,f1⟩,_⟩:=two_at K7.out
     have HE:Hid (Below w.heap.size w ((w7.setCell ⟨w.heap.size+1,0,none⟩ (.int .i64 r1)).setCell ⟨w.heap.size+1,1,none⟩ (.int .i64 r2))):=hide ((B7.out.setCell (p:=⟨w.heap.size+1,0,none⟩) hle _).setCell (p:=⟨w.heap.size+1,1,none⟩) hle _)
     clear HFe
     go_wp2_with fail
     exact bodyPost_ret (v:= .agg #[.int .i64 r1,.int .i64 r2]) (by simp [results,Tryz.results39,go_sem,z0,z1]) rfl ⟨by rw [HR.out],HE.out⟩
 ·have HR:Hid (r=(fc,pl)):=hide (by
   have h:=HFl.out
   rw [HFe.out]
   by_cases hs:(shapedF f).1≠0
   ·rw [if_pos hs] at h ⊢;rw [h]
   ·rw [if_neg hs] at h ⊢
    by_cases hb:reachB f=false
    ·rw [if_pos hb] at h ⊢;rw [h]
    ·rw [if_neg hb] at h;exact absurd h hf0)
  obtain⟨⟨x0,x1,x2,x3,x4⟩,_,_⟩:=five_at K0.out
  obtain⟨⟨z0,z1⟩,⟨f0,f1⟩,_⟩:=two_at K1.out
  have HE:Hid (Below w.heap.size w ((W.setCell ⟨w.heap.size+1,0,none⟩ (.int .i64 fc)).setCell ⟨w.heap.size+1,1,none⟩ (.int .i64 pl))):=hide ((B1.out.setCell (p:=⟨w.heap.size+1,0,none⟩) hle _).setCell (p:=⟨w.heap.size+1,1,none⟩) hle _)
  go_wp2_with fail
  exact bodyPost_ret (v:= .agg #[.int .i64 fc,.int .i64 pl]) (by simp [results,Tryz.results39,go_sem,z0,z1]) rfl ⟨by rw [HR.out],HE.out⟩
end Go.Proofs.YtljkgcfnoegibaaGreatDoor
