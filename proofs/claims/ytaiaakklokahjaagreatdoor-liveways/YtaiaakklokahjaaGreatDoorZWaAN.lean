/- Texts of one chain, joined. -/
import Derived.Test.YtaiaakklokahjaaGreatDoorZWaAK
set_option maxHeartbeats 8000000
set_option maxRecDepth 20000
namespace Go.Proofs.YtaiaakklokahjaaGreatDoor
open Go Go.RowKit
open G (Tok Er Ins Fun ah bk fk)
theorem GI (id ty p:Int) {a:Nat} {L:List Tok} {E:Int} {n:Nat} {l lf:List Tok} {y:G.Opd} (w:World) (h:RR a L E n l w) (hr:bu E 28 l= .ok (y,lf)):
  Calls Tryz.prog 180 #[.pointer (some ⟨a,0,none⟩),.agg (al 28 id 0 ty (bs []) p)] w (mH a L E n (fill (bare 28 id ty p) y) lf w):=by
 have HR0:Hid (G.sG aF E l= .ok (y,lf)):=aa hr;clear hr;obtain⟨i0,hi0,hz0,hz1,hz2⟩:=info_parts Tryz.cU;have M0:Hid (bN w a (w.heap.size+1+1) (w.heap.size+1) L E n (28,id,0,ty,[],[],[],p) l (((w.alloc (.cells (al 28 id 0 ty (bs []) p) 41)).alloc (.cells (al 0 0 0 0 ⟨#[]⟩ 0) 41)).alloc (.cells (al 28 id 0 ty (bs []) p) 41))):=aa (bN.start h 28 id 0 ty [] p);have HC0:=aa (en w 28 id 0 ty (bs []) p);clear h;generalize hg:w.heap.size+1=g at *;generalize hc:g+1=c at *;go_enter Tryz.func180,Tryz.ntmps180
 go_upto_region 2 with fail
 show Code.wp _ _ _ _ (((w.alloc (.cells (al 28 id 0 ty (bs []) p) 41)).alloc (.cells (al 0 0 0 0 ⟨#[]⟩ 0) 41)).alloc (.cells (al 28 id 0 ty (bs []) p) 41));generalize ((w.alloc (.cells (al 28 id 0 ty (bs []) p) 41)).alloc (.cells (al 0 0 0 0 ⟨#[]⟩ 0) 41)).alloc (.cells (al 28 id 0 ty (bs []) p) 41)=W0 at *;clear hg hc;obtain⟨x0,x1,x2,x3,x4,x5,x6,x7,xz,xl⟩:=bH HC0.out;go_wp2_with fail
 refine(rH _ M0.out.1).mono ?_;rintro e w1 ⟨rfl,b1⟩;have M1:=aa (M0.out.below b1);replace HC0:=aa ((b1.block c xl).trans HC0.out);clear M0 b1 x0 x1 x2 x3 x4 x5 x6 x7 xz xl;obtain⟨x0,x1,x2,x3,x4,x5,x6,x7,xz,xl⟩:=bH HC0.out
 cases ht:G.taken l with
 |true=>
  obtain⟨v,r,hv,h2⟩:=ax (show G.andThen (G.value aF E l) (fun v=>G.done (0,[v],[],[]))= .ok (y,lf) from by have:=HR0.out;unfold G.sG at this;rwa [if_pos ht] at this)
  cases h2;have HR:Hid (dk E [118] (28,id,0,ty,[],[],[],p) l= .ok ((28,id,0,ty,[v],[],[],p),lf)):=aa ((bU hv).trans rfl);clear hv ht HR0;go_wp2_with fail
  refine(IB [118] 28 id 0 ty [] p _ M1.out.1 (by simp) (by simp) HR.out).mono ?_;rintro e w2 ⟨v2,rfl,ho⟩;have ho:=aa ho;clear x0 x1 x2 x3 x4 x5 x6 x7 xz xl;obtain⟨aoA,mA,cA,aoT,mT,cT,rfl,hS,hfin⟩:=mB M1.out ho.out;obtain⟨s0,s1,s2,s3,s4,s5,s6,s7,f0,f1,f2,f3,f4,f5,f6,f7⟩:=kH hS;have FF:=aa (hfin _ (((((((((Far.refl g w2).set 0 (.int .i64 28)).set 1 (.int .i64 id)).set 2 (.int .i64 0)).set 3 (.int .i64 ty)).set 4 (.slice aoA mA cA)).set 5 (.slice aoT mT cT)).set 6 (.string (bs []))).set 7 (.int .i64 p)));clear hfin hS ho;simp only [ak] at *;go_wp2_with fail
  exact bodyPost_ret (v:= .agg (ak (28,id,0,ty,[v],[],[],p) (.slice aoA mA cA) (.slice aoT mT cT)).toArray) (by simp [results,Tryz.results180,go_sem,ak,s0,s1,s2,s3,s4,s5,s6,s7]) rfl ⟨_,rfl,⟨_,_,rfl,FF.out.1,FF.out.2.1⟩,FF.out.2.2.1,FF.out.2.2.2⟩
 |false=>
  obtain⟨rfl,rfl⟩:y=(0,[],[],[])∧lf=l:=by have:=HR0.out;unfold G.sG at this;rw [if_neg (by simp [ht])] at this;cases this;exact⟨rfl,rfl⟩
  clear ht HR0 x0 x1 x2 x3 x4 x5 x6 x7 xz xl HC0;obtain⟨va',vt',HC,HZ4,o1,o2,o3⟩:=M1.out.2.1.cells;obtain⟨aoA,mA,cA,rfl⟩:=aQ o1;obtain⟨aoT,mT,cT,rfl⟩:=aQ o2;have y0:=HC 0 _ rfl;have y1:=HC 1 _ rfl;have y2:=HC 2 _ rfl;have y3:=HC 3 _ rfl;have y4:=HC 4 _ rfl;have y5:=HC 5 _ rfl;have y6:=HC 6 _ rfl;have y7:=HC 7 _ rfl;have hS:=M1.out.2.2.1;obtain⟨o3a,o3b⟩:=o3 g ⟨_,_,hS⟩;have hS:=aa hS;have o1:=aa o1;have o2:=aa o2;clear HC HZ4 o3;obtain⟨s0,s1,s2,s3,s4,s5,s6,s7,f0,f1,f2,f3,f4,f5,f6,f7⟩:=kH hS.out;have hcn:c≠g:=fun e=>M1.out.2.2.2.2.2.2 e.symm;have FF:=aa (((((((((Far.refl g w1).set 0 (.int .i64 28)).set 1 (.int .i64 id)).set 2 (.int .i64 0)).set 3 (.int .i64 ty)).set 4 (.slice aoA mA cA)).set 5 (.slice aoT mT cT)).set 6 (.string (bs []))).set 7 (.int .i64 p));have KK:=aa (FF.out.kr M1.out.2.2.2.1 M1.out.2.2.2.2.2.1);have QQ:=aa (FF.out.rr M1.out.1 hS.out (by decide) (by have:=M1.out.lt;omega));have OO:=aa (⟨FF.out.own o1.out o3a,FF.out.own o2.out o3b⟩:_∧_);go_wp2_with fail
  exact bodyPost_ret (v:= .agg (ak (28,id,0,ty,[],[],[],p) (.slice aoA mA cA) (.slice aoT mT cT)).toArray) (by simp [results,Tryz.results180,go_sem,ak,s0,s1,s2,s3,s4,s5,s6,s7]) rfl ⟨_,rfl,⟨_,_,rfl,OO.out.1,OO.out.2⟩,QQ.out,KK.out⟩
theorem Hq (id ty p:Int) {a:Nat} {L:List Tok} {E:Int} {n:Nat} {l lf:List Tok} {y:G.Opd} (w:World) (h:RR a L E n l w) (hr:bu E 10 l= .ok (y,lf)):
  Calls Tryz.prog 180 #[.pointer (some ⟨a,0,none⟩),.agg (al 10 id 0 ty (bs []) p)] w (mH a L E n (fill (bare 10 id ty p) y) lf w):=by
 obtain⟨s,r,hv,h2⟩:=ax (show G.andThen (G.shaped fG E l) (fun s=>G.done (0,[],[],s))= .ok (y,lf) from hr)
 cases h2;obtain⟨hl,rfl,h3⟩:=G.ep (by simp [yq]) hv;obtain⟨rfl,h0⟩:s=ah l∧fG (ah l)=0:=by
  by_cases hc:fG (ah l)≠0
  ·simp only [if_pos hc] at h3;cases h3
  ·simp only [if_neg hc] at h3;cases h3;exact⟨rfl,Classical.byContradiction fun q=>hc q⟩
 obtain⟨sa,sb,hsh⟩:=J7 (ah l);rw [h0] at hsh;have hsz:(bs (ah l)).size≤maxLen:=by rw [bE];have:=h.short.1;unfold maxLen;omega
 have HSH:=aa hsh;generalize hs:ah l=s at *;have HPS:=aa hs;clear hr hv h3 h0 hsh hs;obtain⟨i0,hi0,hz0,hz1,hz2⟩:=info_parts Tryz.cU;have M0:Hid (bN w a (w.heap.size+1+1) (w.heap.size+1) L E n (10,id,0,ty,[],[],[],p) l (((w.alloc (.cells (al 10 id 0 ty (bs []) p) 41)).alloc (.cells (al 0 0 0 0 ⟨#[]⟩ 0) 41)).alloc (.cells (al 10 id 0 ty (bs []) p) 41))):=aa (bN.start h 10 id 0 ty [] p);have HC0:=aa (en w 10 id 0 ty (bs []) p);clear h;generalize hg:w.heap.size+1=g at *;generalize hc:g+1=c at *;go_enter Tryz.func180,Tryz.ntmps180
 go_upto_region 2 with fail
 show Code.wp _ _ _ _ (((w.alloc (.cells (al 10 id 0 ty (bs []) p) 41)).alloc (.cells (al 0 0 0 0 ⟨#[]⟩ 0) 41)).alloc (.cells (al 10 id 0 ty (bs []) p) 41));generalize ((w.alloc (.cells (al 10 id 0 ty (bs []) p) 41)).alloc (.cells (al 0 0 0 0 ⟨#[]⟩ 0) 41)).alloc (.cells (al 10 id 0 ty (bs []) p) 41)=W0 at *;clear hg hc;obtain⟨x0,x1,x2,x3,x4,x5,x6,x7,xz,xl⟩:=bH HC0.out;clear HC0;clear x1 x2 x3 x4 x5 x6 x7 xz xl;go_wp2_with fail
 refine(cf _ M0.out.1 HPS.out).mono ?_;rintro e w1 ⟨rfl,b1⟩;have M1:=aa (M0.out.below b1);clear M0 b1 x0;go_wp2_with fail
 refine(L3.lT (bs s) w1).mono ?_;rintro e w2 ⟨rfl,b2⟩;rw [HSH.out];have M2:=aa ((M1.out.below b2).below (af w2 (.cells #[.int .i64 sa,.int .i64 sb] 160)));clear M1 b2;go_upto_region 11 with fail
 show Code.wp _ _ _ _ (w2.alloc (.cells #[.int .i64 sa,.int .i64 sb] 160));generalize w2.alloc (.cells #[.int .i64 sa,.int .i64 sb] 160)=W2 at *;obtain⟨va,vt,HC,HZ4,o1,o2,o3⟩:=M2.out.2.1.cells;have cA:=HC 6 _ rfl;have zA:=HZ4 6;have M3:Hid (bN w a c g L E n (10,id,0,ty,[],[],s,p) l (W2.setCell ⟨c,6,none⟩ (.string (bs s)))):=aa (M2.out.put (M2.out.2.1.setName s));clear HC HZ4 o1 o2 o3 M2;go_upto_region 15 with fail
 show Code.wp _ _ _ _ (W2.setCell ⟨c,6,none⟩ (.string (bs s)));clear cA zA va vt;generalize W2.setCell ⟨c,6,none⟩ (.string (bs s))=W3 at *;obtain⟨c1,z1,c4,hq⟩:=M3.out.1.at1;have M4:=aa (M3.out.ate (gO M3.out.1 (Below.refl _ _) hl));clear c4 M3;generalize L.length - l.length=q at *;go_upto_region 23 with fail
 show Code.wp _ _ _ _ (W3.setCell ⟨a,1,none⟩ (.int .i64 ((q:Int)+1)));clear c1 z1;generalize W3.setCell ⟨a,1,none⟩ (.int .i64 ((q:Int)+1))=W4 at *;obtain⟨va',vt',HC,HZ4,o1,o2,o3⟩:=M4.out.2.1.cells;obtain⟨aoA,mA,cA,rfl⟩:=aQ o1;obtain⟨aoT,mT,cT,rfl⟩:=aQ o2;have y0:=HC 0 _ rfl;have y1:=HC 1 _ rfl;have y2:=HC 2 _ rfl;have y3:=HC 3 _ rfl;have y4:=HC 4 _ rfl;have y5:=HC 5 _ rfl;have y6:=HC 6 _ rfl;have y7:=HC 7 _ rfl;have hS:=M4.out.2.2.1;obtain⟨o3a,o3b⟩:=o3 g ⟨_,_,hS⟩;have hS:=aa hS;have o1:=aa o1;have o2:=aa o2;clear HC HZ4 o3;obtain⟨s0,s1,s2,s3,s4,s5,s6,s7,f0,f1,f2,f3,f4,f5,f6,f7⟩:=kH hS.out;have hcn:c≠g:=fun e=>M4.out.2.2.2.2.2.2 e.symm;have FF:=aa (((((((((Far.refl g W4).set 0 (.int .i64 10)).set 1 (.int .i64 id)).set 2 (.int .i64 0)).set 3 (.int .i64 ty)).set 4 (.slice aoA mA cA)).set 5 (.slice aoT mT cT)).set 6 (.string (bs s))).set 7 (.int .i64 p));have KK:=aa (FF.out.kr M4.out.2.2.2.1 M4.out.2.2.2.2.2.1);have QQ:=aa (FF.out.rr M4.out.1 hS.out (by decide) (by have:=M4.out.lt;omega));have OO:=aa (⟨FF.out.own o1.out o3a,FF.out.own o2.out o3b⟩:_∧_);go_wp2_with fail
 exact bodyPost_ret (v:= .agg (ak (10,id,0,ty,[],[],s,p) (.slice aoA mA cA) (.slice aoT mT cT)).toArray) (by simp [results,Tryz.results180,go_sem,ak,s0,s1,s2,s3,s4,s5,s6,s7]) rfl ⟨_,rfl,⟨_,_,rfl,OO.out.1,OO.out.2⟩,QQ.out,KK.out⟩
theorem zX (op id ty p:Int) {a:Nat} {L:List Tok} {E:Int} {n:Nat} {l lf:List Tok} {y:G.Opd} (w:World) (h:RR a L E n l w) (g1:¬op=1) (g29:¬op=29) (g10:¬op=10) (g20:¬op=20) (g21:¬op=21) (g28:¬op=28) (hr:bu E op l= .ok (y,lf)):
  Calls Tryz.prog 180 #[.pointer (some ⟨a,0,none⟩),.agg (al op id 0 ty (bs []) p)] w (mH a L E n (fill (bare op id ty p) y) lf w):=by
 obtain⟨N,ar,tt,nm⟩:=y;have HR:Hid (dk E (ej op) (op,id,0,ty,[],[],[],p) l= .ok ((op,id,N,ty,ar,tt,nm,p),lf)):=aa (EB g1 g29 g10 g20 g21 g28 hr);have LI:=aa (ID op);have k1:(op == 1)=false:=by simpa using g1
 have k29:(op == 29)=false:=by simpa using g29
 have k10:(op == 10)=false:=by simpa using g10
 have k20:(op == 20)=false:=by simpa using g20
 have k21:(op == 21)=false:=by simpa using g21
 have k28:(op == 28)=false:=by simpa using g28
 clear hr g1 g29 g10 g20 g21 g28;obtain⟨i0,hi0,hz0,hz1,hz2⟩:=info_parts Tryz.cU;have M0:Hid (bN w a (w.heap.size+1+1) (w.heap.size+1) L E n (op,id,0,ty,[],[],[],p) l (((w.alloc (.cells (al op id 0 ty (bs []) p) 41)).alloc (.cells (al 0 0 0 0 ⟨#[]⟩ 0) 41)).alloc (.cells (al op id 0 ty (bs []) p) 41))):=aa (bN.start h op id 0 ty [] p);have HC0:=aa (en w op id 0 ty (bs []) p);clear h;generalize hg:w.heap.size+1=g at *;generalize hc:g+1=c at *;go_enter Tryz.func180,Tryz.ntmps180
 go_upto_region 2 with fail
 show Code.wp _ _ _ _ (((w.alloc (.cells (al op id 0 ty (bs []) p) 41)).alloc (.cells (al 0 0 0 0 ⟨#[]⟩ 0) 41)).alloc (.cells (al op id 0 ty (bs []) p) 41));generalize ((w.alloc (.cells (al op id 0 ty (bs []) p) 41)).alloc (.cells (al 0 0 0 0 ⟨#[]⟩ 0) 41)).alloc (.cells (al op id 0 ty (bs []) p) 41)=W0 at *;clear hg hc;obtain⟨x0,x1,x2,x3,x4,x5,x6,x7,xz,xl⟩:=bH HC0.out;go_wp2_with fail
 clear k1 k29 k10 k20 k21 k28;go_region_with ((first
  |(go_at_call 189;refine(Ch op _).mono ?_;rintro e w1 ⟨rfl,b1⟩;have M1:=aa (M0.out.below (Below.xu (w:=W0) b1));obtain⟨y0,y1,y2,y3,y4,y5,y6,y7,yz,yl⟩:=bH (((Below.xu (w:=W0) b1).block c xl).trans HC0.out))
  |(go_at_call 188;refine(IB (ej op) op id 0 ty [] p _ M1.out.1 LI.out.1 LI.out.2 HR.out).mono ?_;rintro e w2 ⟨v2,rfl,ho⟩;have ho:=aa ho;obtain⟨aoA,mA,cA,aoT,mT,cT,rfl,hS,hfin⟩:=mB M1.out ho.out;obtain⟨s0,s1,s2,s3,s4,s5,s6,s7,f0,f1,f2,f3,f4,f5,f6,f7⟩:=kH hS;simp only [ak])))
 all_goals
  have FF:=aa (hfin _ (((((((((Far.refl g w2).set 0 (.int .i64 op)).set 1 (.int .i64 id)).set 2 (.int .i64 N)).set 3 (.int .i64 ty)).set 4 (.slice aoA mA cA)).set 5 (.slice aoT mT cT)).set 6 (.string (bs nm))).set 7 (.int .i64 p)));go_wp2_with fail
  exact bodyPost_ret (v:= .agg (ak (op,id,N,ty,ar,tt,nm,p) (.slice aoA mA cA) (.slice aoT mT cT)).toArray) (by simp [results,Tryz.results180,go_sem,ak,s0,s1,s2,s3,s4,s5,s6,s7]) rfl ⟨_,rfl,⟨_,_,rfl,FF.out.1,FF.out.2.1⟩,FF.out.2.2.1,FF.out.2.2.2⟩
theorem qT (op id ty p:Int) {a:Nat} {L:List Tok} {E:Int} {n:Nat} {l lf:List Tok} {y:G.Opd} (w:World) (h:RR a L E n l w) (hr:bu E op l= .ok (y,lf)):
  Calls Tryz.prog 180 #[.pointer (some ⟨a,0,none⟩),.agg (al op id 0 ty (bs []) p)] w (mH a L E n (fill (bare op id ty p) y) lf w):=by
 by_cases g1:op=1
 ·subst g1;exact I2 id ty p w h hr
 by_cases g29:op=29
 ·subst g29;exact GC id ty p w h hr
 by_cases g10:op=10
 ·subst g10;exact Hq id ty p w h hr
 by_cases g20:op=20
 ·subst g20;exact Hu id ty p w h hr
 by_cases g21:op=21
 ·subst g21;exact Hr id ty p w h hr
 by_cases g28:op=28
 ·subst g28;exact GI id ty p w h hr
 exact zX op id ty p w h g1 g29 g10 g20 g21 g28 hr
def fq (w:World) (a c g:Nat) (L:List Tok) (E:Int) (n:Nat) (op id ty p:Int) (l:List Tok) (wk:World):Prop:=
 RR a L E n l wk∧wk.heap[c]? =some (.cells (al op id 0 ty (bs []) p) 41 (0,0))∧wk.heap[g]? =some (.cells #[.int .i64 0,.int .i64 0,.int .i64 0,.int .i64 0,.slice none 0 0,.slice none 0 0,.string ⟨#[]⟩,.int .i64 0] 41 (0,0))∧Kr a w wk∧a < w.heap.size∧w.heap.size≤g∧w.heap.size≤c∧g≠c
section
variable {w:World} {a c g:Nat} {L:List Tok} {E:Int} {n:Nat} {op id ty p:Int} {l:List Tok} {wk:World}
theorem fq.mid (h:fq w a c g L E n op id ty p l wk):bN w a c g L E n (bare op id ty p) l wk:=by
 obtain⟨h1,h2,h3,h4,h5,h6,h7,h8⟩:=h;exact⟨h1,⟨.slice none 0 0,.slice none 0 0,h2,World.ownsRow_nil _ _ _ _,World.ownsRow_nil _ _ _ _,.inl rfl,h7⟩,h3,h4,h5,h6,h8⟩
theorem fq.below {wk':World} (h:fq w a c g L E n op id ty p l wk) (b:Below wk.heap.size wk wk'):fq w a c g L E n op id ty p l wk':=by
 obtain⟨h1,h2,h3,h4,h5,h6,h7,h8⟩:=h;exact⟨h1.below b,(b.block c (Array.getElem?_eq_some_iff.1 h2).1).trans h2,(b.block g (Array.getElem?_eq_some_iff.1 h3).1).trans h3,h4.step b,h5,h6,h7,h8⟩
theorem fq.ate {l':List Tok} {wk':World} (h:fq w a c g L E n op id ty p l wk) (b:Ate a L E n l' wk wk'):fq w a c g L E n op id ty p l' wk':=by
 obtain⟨h1,h2,h3,h4,h5,h6,h7,h8⟩:=h;exact⟨b.1,(b.2.2.2.2.2 c (Array.getElem?_eq_some_iff.1 h2).1 (by omega)).trans h2,(b.2.2.2.2.2 g (Array.getElem?_eq_some_iff.1 h3).1 (by omega)).trans h3,h4.trans b.2,h5,h6,h7,h8⟩
theorem fq.put {op' id' ty' p':Int} {i:Nat} {v:Value} (h:fq w a c g L E n op id ty p l wk) (hc:(wk.setCell ⟨c,i,none⟩ v).heap[c]? =some (.cells (al op' id' 0 ty' (bs []) p') 41 (0,0))):fq w a c g L E n op' id' ty' p' l (wk.setCell ⟨c,i,none⟩ v):=by
 obtain⟨h1,h2,h3,h4,h5,h6,h7,h8⟩:=h;refine⟨h1.set h2 (by decide) (by omega) i v,hc,(Below.heap_setCell _ _ _ _ (fun e=>h8 e)).trans h3,?_,h5,h6,h7,h8⟩;have hb:=(Below.refl 0 wk).setCell (p:=⟨c,i,none⟩) (Nat.zero_le c) v;exact⟨hb.os.trans h4.1,hb.tape.trans h4.2.1,hb.output.trans h4.2.2.1,Nat.le_trans h4.size hb.size,fun k k1 k2=>(Below.heap_setCell wk ⟨c,i,none⟩ v k (by show k≠c;omega)).trans (h4.2.2.2.2 k k1 k2)⟩
theorem fq.Ex (h:fq w a c g L E n op id ty p l wk) (v:Int):fq w a c g L E n v id ty p l (wk.setCell ⟨c,0,none⟩ (.int .i64 v)):=h.put ((heap_setCell_same wk c 0 _ 41 _ h.2.1).trans rfl)
theorem fq.It (h:fq w a c g L E n op id ty p l wk) (v:Int):fq w a c g L E n op v ty p l (wk.setCell ⟨c,1,none⟩ (.int .i64 v)):=h.put ((heap_setCell_same wk c 1 _ 41 _ h.2.1).trans rfl)
theorem fq.Cq (h:fq w a c g L E n op id ty p l wk) (v:Int):fq w a c g L E n op id v p l (wk.setCell ⟨c,3,none⟩ (.int .i64 v)):=h.put ((heap_setCell_same wk c 3 _ 41 _ h.2.1).trans rfl)
theorem fq.Mg (h:fq w a c g L E n op id ty p l wk) (v:Int):fq w a c g L E n op id ty v l (wk.setCell ⟨c,7,none⟩ (.int .i64 v)):=h.put ((heap_setCell_same wk c 7 _ 41 _ h.2.1).trans rfl)
end
theorem fq.start {w:World} {a:Nat} {L:List Tok} {E:Int} {n:Nat} {l:List Tok} (h:RR a L E n l w):
  fq w a (w.heap.size+1) w.heap.size L E n 0 (-1) 0 E l ((w.alloc (.cells (al 0 0 0 0 ⟨#[]⟩ 0) 41)).alloc (.cells (al 0 (-1) 0 0 ⟨#[]⟩ E) 41)):=by
 have b1:=af w (.cells (al 0 0 0 0 ⟨#[]⟩ 0) 41);have b2:=af (w.alloc (.cells (al 0 0 0 0 ⟨#[]⟩ 0) 41)) (.cells (al 0 (-1) 0 0 ⟨#[]⟩ E) 41);have s1:(w.alloc (.cells (al 0 0 0 0 ⟨#[]⟩ 0) 41)).heap.size=w.heap.size+1:=by simp
 refine⟨(h.below b1).below b2,?_,?_,Kr.br (ae b1 b2),h.lt,Nat.le_refl _,Nat.le_succ _,by omega⟩
 ·rw [←s1];exact heap_alloc_new _ _
 ·refine(b2.block w.heap.size (by rw [s1];omega)).trans ?_;exact heap_alloc_new _ _
theorem RR.here {a:Nat} {L:List Tok} {E:Int} {n:Nat} {l:List Tok} {w:World} (h:RR a L E n l w) (hl:l≠ []):∃g cap q,w.cell? ⟨a,0,none⟩=some (.slice (some ⟨g,0,none⟩) L.length cap)∧w.cell? ⟨a,1,none⟩=some (.int .i64 ((q:Nat):Int))∧w.cell? ⟨g,q * 2+1,none⟩=some (.int .i64 (fk E l))∧q < L.length∧L.length≤131072:=by
 obtain⟨ao,cap,c0,c1,c2,c3,c4,c5,fz,hL⟩:=h.cells;obtain⟨v,h1,h2,h5,h6,h7⟩:=h;have hll:=h5.length_le;have hlp:0 < l.length:=List.length_pos_iff.2 hl;rcases hL with hL | ⟨g,rfl,hg⟩
 ·subst hL;simp at hll;exact absurd hll hl
 ·obtain⟨t,ht⟩:∃t,L[L.length - l.length]? =some t:=⟨_,List.getElem?_eq_getElem (by omega)⟩;have e:=Rdr.word h5 0;rw [Nat.add_zero,ht] at e;refine⟨g,cap,L.length - l.length,c0,c1,?_,by omega,h6.1⟩;rw [(hg _ t ht).2]
  cases l with
  |nil=>exact absurd rfl hl
  |cons x r=>simp at e;rw [e];rfl
abbrev xA (E:Int):G.Rd Ins:=G.ux bL aF gX fG dZ jG lg E
theorem xy {E:Int} {l lf:List Tok} {y:Ins} (h:xA E l= .ok (y,lf)):∃id r o r2 z,G.ident aF E l= .ok (id,r)∧G.oW jG lg E id r= .ok (o,r2)∧bu E o.1 r2= .ok (z,lf)∧y=fill (bare o.1 id o.2 (fk E l)) z:=by
 obtain⟨x,r,h1,h2⟩:=ax h;obtain⟨z,r3,h3,h4⟩:=ax h2
 cases h4;obtain⟨id,q,h5,h6⟩:=ax h1;obtain⟨o,q2,h7,h8⟩:=ax h6
 cases h8;exact⟨id,q,o,_,z,h5,h7,h3,rfl⟩
theorem Jb {a:Nat} {L:List Tok} {E:Int} {n:Nat} {l lf:List Tok} {y:Ins} (w:World) (h:RR a L E n l w) (hr:xA E l= .ok (y,lf)):
  Calls Tryz.prog 172 #[.pointer (some ⟨a,0,none⟩)] w (mH a L E n y lf w):=by
 obtain⟨id,r,o,r2,z,hid,how,hop,rfl⟩:=xy hr;obtain⟨N,ar,tt,nm⟩:=z;have hl:l≠ []:=fun e=>by have:=kJ (E:=E) (l:=l) (l':=lf) ((ig E l).symm.trans hr);rw [e] at this;simp at this
 have M0:=aa (fq.start h);have hb0:=af w (.cells (al 0 0 0 0 ⟨#[]⟩ 0) 41);obtain⟨_,_,_,_,d2,_⟩:=(h.below hb0).cells;have HID:=aa hid;have HOW:=aa how;have HOP:=aa hop;have HN:=aa (mq (bk l) [61]);clear h hr hid how hop hb0;have hW0:(w.alloc (.cells (al 0 0 0 0 ⟨#[]⟩ 0) 41)).heap.size=w.heap.size+1:=by simp
 generalize hg:w.heap.size=g at *;generalize hc:g+1=c at *;go_enter Tryz.func172,Tryz.ntmps172
 go_upto_region 1 with fail
 show Code.wp _ _ _ _ (w.alloc (.cells (al 0 0 0 0 ⟨#[]⟩ 0) 41));generalize w.alloc (.cells (al 0 0 0 0 ⟨#[]⟩ 0) 41)=W0 at *;clear hg hc;go_upto_region 2 with fail
 show Code.wp _ _ _ _ (W0.alloc (.cells (al 0 (-1) 0 0 ⟨#[]⟩ E) 41));clear hW0 d2;generalize W0.alloc (.cells (al 0 (-1) 0 0 ⟨#[]⟩ E) 41)=W1 at *;obtain⟨gg,cap,q,c0,c1,ch,hq,hLL⟩:=M0.out.1.here hl;have hq1:(q:Int) < (L.length:Int):=by omega
 have hq2:decide ((q:Int) < (L.length:Int))=true:=by simpa using hq1
 obtain⟨_,_,_,_,_,_,_,x7,xz,_⟩:=bH M0.out.2.1;have z7:=xz 7;clear xz;go_wp2_with fail
 go_quiet (fail)
 go_wp2_with fail
 go_region
 have M1:=aa ((M0.out.below (below_drewN (Below.refl _ _) (nq+1))).Mg (fk E l));clear M0 c0 c1 ch hq hq1 hq2 x7 z7;generalize (W1.drewN (nq+1)).setCell ⟨c,7,none⟩ (.int .i64 (fk E l))=W2 at *;show Exit.then _ (bodyPost Tryz.prog Tryz.f172 (mH a L E n (o.1,id,N,o.2,ar,tt,nm,fk E l) lf w)) _ _ _;generalize fk E l=pp at *;have HO:Hid (o=jG (ah r)∧r≠ []∧r2=r.tail∧o.1≠0∧decide (lg o.1 o.2≠0)=decide (0≤id)):=aa (by obtain⟨q1,q2,q3,q4,q5⟩:=G.ng sy HOW.out;exact⟨q3,q1,q2,q4,q5⟩);have ho0:(o.1 == 0)=false:=by simpa using HO.out.2.2.2.1
 obtain⟨bb,hb1,hb2⟩:∃bb,(L5.cn o.1 o.2 != 0)=bb∧decide (0≤id)=bb:=⟨_,by show(L5.cn o.1 o.2 != 0)=decide (lg o.1 o.2≠0);unfold lg;by_cases hz:L5.cn o.1 o.2=0 <;> simp [hz],HO.out.2.2.2.2.symm⟩;obtain rfl:r2=r.tail:=HO.out.2.2.1;clear HOW;go_wp2_with fail
 refine(rz _ M1.out.1 rfl).mono ?_;rintro e w2 ⟨rfl,b2⟩;have M1b:=aa (M1.out.below b2);clear M1 b2;by_cases h61:bk l= [61]
 ·have hne:((bs (bk l)).toList == [61])=true:=HN.out.trans (decide_eq_true h61);obtain⟨v,q1,hv,hx⟩:=ax (show G.andThen (G.value aF E l) (fun v r=>G.andThen (G.want E [61] r) fun _=>G.done v)= .ok (id,r) from by have:=HID.out;unfold G.ident at this;rwa [if_pos h61] at this);obtain⟨u,q2,hw,hx⟩:=ax hx
  cases hx;obtain⟨_,rfl,hw2⟩:=G.ep (G.ki (by simp)) hw;have hw3:ah q1= [61]:=by
   by_cases hc:ah q1= [61]
   ·exact hc
   ·simp only [if_neg hc] at hw2;cases hw2
  have HV:=aa hv;have HW3:=aa hw3;clear hv hw hw2 hw3 h61 HN HID;have hsz:Hid True:=aa trivial;go_wp2_with fail
  refine(rvalue _ M1b.out.1 HV.out).mono ?_;rintro e w21 ⟨rfl,a21⟩;have M1c:=aa (M1b.out.ate a21);clear M1b a21 hne;obtain⟨_,x1,_,_,_,_,_,_,xz,_⟩:=bH M1c.out.2.1;have z1:=xz 1;clear xz;go_upto_region 6 with fail
  show Code.wp _ _ _ _ (w21.setCell ⟨c,1,none⟩ (.int .i64 id));have M1d:=aa (M1c.out.It id);clear M1c x1 z1;generalize w21.setCell ⟨c,1,none⟩ (.int .i64 id)=W21 at *;go_wp2_with fail
  refine(pH [61] _ M1d.out.1 HW3.out (by simp)).mono ?_;rintro e w22 ⟨rfl,a22⟩;have M2:=aa (M1d.out.ate a22);clear M1d a22;go_wp2_with fail
  refine(cf _ M2.out.1 rfl).mono ?_;rintro e w3 ⟨rfl,b3⟩;have M3:=aa (M2.out.below b3);clear M2 b3;go_wp2_with fail
  refine(L5.nB (bs (ah q1.tail)) _).mono ?_;rintro e w4 ⟨rfl,b4⟩;rw [show L5.find (bs (ah q1.tail))=o from HO.out.1.symm];have M4:=aa (M3.out.below b4);clear M3 b4;obtain⟨x0,_,_,x3,_,_,_,_,xz,_⟩:=bH M4.out.2.1;have z0:=xz 0;clear xz;go_upto_region 9 with fail
  show Code.wp _ _ _ _ (w4.setCell ⟨c,0,none⟩ (.int .i64 o.1));have M5:=aa (M4.out.Ex o.1);clear M4 x0 x3 z0;generalize w4.setCell ⟨c,0,none⟩ (.int .i64 o.1)=W5 at *;obtain⟨x0,_,_,x3,_,_,_,_,xz,_⟩:=bH M5.out.2.1;have z3:=xz 3;clear xz;go_upto_region 10 with fail
  show Code.wp _ _ _ _ (W5.setCell ⟨c,3,none⟩ (.int .i64 o.2));have M6:=aa (M5.out.Cq o.2);clear M5 x0 x3 z3;generalize W5.setCell ⟨c,3,none⟩ (.int .i64 o.2)=W6 at *;have BX:Hid (L5.Box W6 c [.int .i64 o.1,.int .i64 id,.int .i64 0,.int .i64 o.2,.slice none 0 0,.slice none 0 0,.string (bs []),.int .i64 pp]):=aa ⟨(bH M6.out.2.1).2.2.2.2.2.2.2.2.2,fun i v hv=>by have:=M6.out.2.1;simp only [World.cell?,this];simpa using hv⟩;have x0:=fun x=>(L5.bG BX.out x).2 0 _ rfl;have x1:=fun x=>(L5.bG BX.out x).2 1 _ rfl;have x2:=fun x=>(L5.bG BX.out x).2 2 _ rfl;have x3:=fun x=>(L5.bG BX.out x).2 3 _ rfl;have x4:=fun x=>(L5.bG BX.out x).2 4 _ rfl;have x5:=fun x=>(L5.bG BX.out x).2 5 _ rfl;have x6:=fun x=>(L5.bG BX.out x).2 6 _ rfl;have x7:=fun x=>(L5.bG BX.out x).2 7 _ rfl;go_wp2_with fail
  refine L5.aM (by kernel_rfl) (by kernel_rfl) ?_;repeat (go_big_quiet_step ((first
   |(go_at_call 13;exact L5.eT (L5.db o.1 o.2 _ _ _ _ _ _ _)))))
  refine wpQuiet_nil ?_;rintro _ ⟨x,rfl⟩;have M7:=aa (M6.out.below (L5.aD _ x));clear M6 BX x0 x1 x2 x3 x4 x5 x6 x7;generalize hW7:L5.bM W6 x=W7 at *;clear hW7;obtain⟨c1,z1,c4,hq9⟩:=M7.out.1.at1;have M8:=aa (M7.out.ate (gO M7.out.1 (Below.refl _ _) HO.out.2.1));clear c4 M7;generalize L.length - q1.tail.length=q9 at *;go_upto_region 17 with fail
  show Code.wp _ _ _ _ (W7.setCell ⟨a,1,none⟩ (.int .i64 ((q9:Int)+1)));clear c1 z1;generalize W7.setCell ⟨a,1,none⟩ (.int .i64 ((q9:Int)+1))=W8 at *;obtain⟨x0,x1,x2,x3,x4,x5,x6,x7,xz,_⟩:=bH M8.out.2.1;clear xz;go_wp2_with fail
  refine(qT o.1 id o.2 pp _ M8.out.1 HOP.out).mono ?_;rintro e w9 ⟨v9,rfl,ho⟩;have ho:=aa ho;clear x0 x1 x2 x3 x4 x5 x6 x7;have M9:=aa M8.out.mid;have ho:Hid (sH W8.heap.size (o.1,id,N,o.2,ar,tt,nm,pp) v9 w9∧RR a L E n lf w9∧Kr a W8 w9):=ho;obtain⟨aoA,mA,cA,aoT,mT,cT,rfl,hS,hfin⟩:=mB M9.out ho.out;obtain⟨s0,s1,s2,s3,s4,s5,s6,s7,f0,f1,f2,f3,f4,f5,f6,f7⟩:=kH hS;have FF:=aa (hfin _ (((((((((Far.refl g w9).set 0 (.int .i64 o.1)).set 1 (.int .i64 id)).set 2 (.int .i64 N)).set 3 (.int .i64 o.2)).set 4 (.slice aoA mA cA)).set 5 (.slice aoT mT cT)).set 6 (.string (bs nm))).set 7 (.int .i64 pp)));clear hfin hS ho;simp only [ak] at *;go_wp2_with fail
  exact bodyPost_ret (v:= .agg (ak (o.1,id,N,o.2,ar,tt,nm,pp) (.slice aoA mA cA) (.slice aoT mT cT)).toArray) (by simp [results,Tryz.results172,go_sem,ak,s0,s1,s2,s3,s4,s5,s6,s7]) rfl ⟨_,rfl,⟨_,_,rfl,FF.out.1,FF.out.2.1⟩,FF.out.2.2.1,FF.out.2.2.2⟩
 ·have hne:((bs (bk l)).toList == [61])=false:=HN.out.trans (decide_eq_false h61);obtain⟨rfl,rfl⟩:id= -1∧r=l:=by have:=HID.out;unfold G.ident at this;rw [if_neg h61] at this;cases this;exact⟨rfl,rfl⟩
  obtain rfl:bb=false:=by rw [←hb2];decide
  have M2:=M1b;clear M1b h61 HN HID;have hsz:Hid True:=aa trivial;go_wp2_with fail
  clear hne;refine(cf _ M2.out.1 rfl).mono ?_;rintro e w3 ⟨rfl,b3⟩;have M3:=aa (M2.out.below b3);clear M2 b3;go_wp2_with fail
  refine(L5.nB (bs (ah r)) _).mono ?_;rintro e w4 ⟨rfl,b4⟩;rw [show L5.find (bs (ah r))=o from HO.out.1.symm];have M4:=aa (M3.out.below b4);clear M3 b4;obtain⟨x0,_,_,x3,_,_,_,_,xz,_⟩:=bH M4.out.2.1;have z0:=xz 0;clear xz;go_upto_region 9 with fail
  show Code.wp _ _ _ _ (w4.setCell ⟨c,0,none⟩ (.int .i64 o.1));have M5:=aa (M4.out.Ex o.1);clear M4 x0 x3 z0;generalize w4.setCell ⟨c,0,none⟩ (.int .i64 o.1)=W5 at *;obtain⟨x0,_,_,x3,_,_,_,_,xz,_⟩:=bH M5.out.2.1;have z3:=xz 3;clear xz;go_upto_region 10 with fail
  show Code.wp _ _ _ _ (W5.setCell ⟨c,3,none⟩ (.int .i64 o.2));have M6:=aa (M5.out.Cq o.2);clear M5 x0 x3 z3;generalize W5.setCell ⟨c,3,none⟩ (.int .i64 o.2)=W6 at *;have BX:Hid (L5.Box W6 c [.int .i64 o.1,.int .i64 (-1),.int .i64 0,.int .i64 o.2,.slice none 0 0,.slice none 0 0,.string (bs []),.int .i64 pp]):=aa ⟨(bH M6.out.2.1).2.2.2.2.2.2.2.2.2,fun i v hv=>by have:=M6.out.2.1;simp only [World.cell?,this];simpa using hv⟩;have x0:=fun x=>(L5.bG BX.out x).2 0 _ rfl;have x1:=fun x=>(L5.bG BX.out x).2 1 _ rfl;have x2:=fun x=>(L5.bG BX.out x).2 2 _ rfl;have x3:=fun x=>(L5.bG BX.out x).2 3 _ rfl;have x4:=fun x=>(L5.bG BX.out x).2 4 _ rfl;have x5:=fun x=>(L5.bG BX.out x).2 5 _ rfl;have x6:=fun x=>(L5.bG BX.out x).2 6 _ rfl;have x7:=fun x=>(L5.bG BX.out x).2 7 _ rfl;go_wp2_with fail
  refine L5.aM (by kernel_rfl) (by kernel_rfl) ?_;repeat (go_big_quiet_step ((first
   |(go_at_call 13;exact L5.eT (L5.db o.1 o.2 _ _ _ _ _ _ _)))))
  refine wpQuiet_nil ?_;rintro _ ⟨x,rfl⟩;have M7:=aa (M6.out.below (L5.aD _ x));clear M6 BX x0 x1 x2 x3 x4 x5 x6 x7;generalize hW7:L5.bM W6 x=W7 at *;clear hW7;obtain⟨c1,z1,c4,hq9⟩:=M7.out.1.at1;have M8:=aa (M7.out.ate (gO M7.out.1 (Below.refl _ _) HO.out.2.1));clear c4 M7;generalize L.length - r.length=q9 at *;go_upto_region 17 with fail
  show Code.wp _ _ _ _ (W7.setCell ⟨a,1,none⟩ (.int .i64 ((q9:Int)+1)));clear c1 z1;generalize W7.setCell ⟨a,1,none⟩ (.int .i64 ((q9:Int)+1))=W8 at *;obtain⟨x0,x1,x2,x3,x4,x5,x6,x7,xz,_⟩:=bH M8.out.2.1;clear xz;go_wp2_with fail
  refine(qT o.1 (-1) o.2 pp _ M8.out.1 HOP.out).mono ?_;rintro e w9 ⟨v9,rfl,ho⟩;have ho:=aa ho;clear x0 x1 x2 x3 x4 x5 x6 x7;have M9:=aa M8.out.mid;have ho:Hid (sH W8.heap.size (o.1,-1,N,o.2,ar,tt,nm,pp) v9 w9∧RR a L E n lf w9∧Kr a W8 w9):=ho;obtain⟨aoA,mA,cA,aoT,mT,cT,rfl,hS,hfin⟩:=mB M9.out ho.out;obtain⟨s0,s1,s2,s3,s4,s5,s6,s7,f0,f1,f2,f3,f4,f5,f6,f7⟩:=kH hS;have FF:=aa (hfin _ (((((((((Far.refl g w9).set 0 (.int .i64 o.1)).set 1 (.int .i64 (-1))).set 2 (.int .i64 N)).set 3 (.int .i64 o.2)).set 4 (.slice aoA mA cA)).set 5 (.slice aoT mT cT)).set 6 (.string (bs nm))).set 7 (.int .i64 pp)));clear hfin hS ho;simp only [ak] at *;go_wp2_with fail
  exact bodyPost_ret (v:= .agg (ak (o.1,-1,N,o.2,ar,tt,nm,pp) (.slice aoA mA cA) (.slice aoT mT cT)).toArray) (by simp [results,Tryz.results172,go_sem,ak,s0,s1,s2,s3,s4,s5,s6,s7]) rfl ⟨_,rfl,⟨_,_,rfl,FF.out.1,FF.out.2.1⟩,FF.out.2.2.1,FF.out.2.2.2⟩
theorem Hs (n:Int) (w:World) (h0: -9223372036854775808≤n) (h1:n≤9223372036854775807):Calls Tryz.prog 171 #[.int .i64 n] w fun e w'=>e= .returned (.string (bs (dig n)))∧Below w.heap.size w w':=L1.rG n w h0 h1
theorem Dd {c:UInt8} {most v:Int} {s:List UInt8} (h:G.mark aF c most s=some v):s=c :: dig v:=by
 obtain⟨r,rfl,hr,hi⟩:=qp h;by_cases h1:(L1.aK r).2=0
 ·by_cases h2:(L1.aK r).1 < 0∨most < (L1.aK r).1
  ·rw [L1.lC _ _ h1 h2] at hi;cases hi
  ·rw [L1.nz _ _ h1 h2] at hi
   cases hi;rw [dig,L1.zK r h1]
 ·rw [L1.lY _ _ h1] at hi;exact absurd (congrArg Prod.snd hi) h1
theorem RR.count {a:Nat} {L:List Tok} {E:Int} {n:Nat} {l:List Tok} {w:World} (h:RR a L E n l w) (hn:n < 4096):RR a L E (n+1) l (w.setCell ⟨a,3,none⟩ (.int .i64 ((n:Int)+1))):=by
 obtain⟨v,h1,h2,h5,h6,h7⟩:=h;refine⟨v,?_,bI h2 (bp h2 h1 (by decide)) _,h5,h6,by omega⟩;rw [heap_setCell_same w a 3 _ 132 _ h1];rw [show(n:Int)+1=((n+1:Nat):Int) from by omega];rfl
theorem bR.kr {B a:Nat} {xs:List Ins} {v:Value} {w w':World} (h:bR B xs v w) (k:Kr a w w') (ha:a < B):bR B xs v w':=by
 obtain⟨cs,h1,h2⟩:=h;have key:∀(e s:Nat) (v:Value) (n:Nat) (xs:List Value),w.ownsRow B e s v n xs→w'.ownsRow B e s v n xs:=by
  intro e s v n xs ho;refine⟨ho.1,?_⟩;rcases ho.2 with hn | ⟨g,cap,cur,hv2,hbb,hg,rest⟩
  ·exact .inl hn
  ·exact .inr ⟨g,cap,cur,hv2,hbb,(k.2.2.2.2 g (Array.getElem?_eq_some_iff.1 hg).1 (by omega)).trans hg,rest⟩
 exact⟨cs,key _ _ _ _ _ h1,dj.keep (key 3 1) _ _ h2⟩
theorem Cp {B a e s n:Nat} {v:Value} {xs:List Value} {w w':World} (ho:w.ownsRow B e s v n xs) (k:Kr a w w') (ha:a < B):w'.ownsRow B e s v n xs:=by
 refine⟨ho.1,?_⟩;rcases ho.2 with hn | ⟨g,cap,cur,hv2,hbb,hg,rest⟩
 ·exact .inl hn
 ·exact .inr ⟨g,cap,cur,hv2,hbb,(k.2.2.2.2 g (Array.getElem?_eq_some_iff.1 hg).1 (by omega)).trans hg,rest⟩
theorem eY {E:Int} {w:List UInt8} (hw:w≠ []) {l r:List Tok} {u:Unit} (h:G.want E w l= .ok (u,r)):r=l.tail∧ah l=w:=by
 obtain⟨_,rfl,hw2⟩:=G.ep (G.ki hw) h;refine⟨rfl,?_⟩;by_cases hc:ah l=w
 ·exact hc
 ·simp only [if_neg hc] at hw2;cases hw2
theorem rQ {E:Int} {k:Nat} {l r:List Tok} {u:Unit} (h:G.head rm E k l= .ok (u,r)):l≠ []∧r=l.tail∧k < 256∧ah l=98 :: dig k:=by
 obtain⟨hl,rfl,h2⟩:=G.ep (by simp) h;by_cases hc:256≤k∨ah l= []∨rm k (ah l)=false
 ·simp only [if_pos hc] at h2;cases h2
 ·refine⟨hl,rfl,?_,?_⟩
  ·exact Nat.lt_of_not_le fun q=>hc (.inl q)
  ·have hp:rm k (ah l)=true:=by
    cases hq:rm k (ah l)with
    |true=>rfl
    |false=>exact absurd (.inr (.inr hq)) hc
   exact Dd (of_decide_eq_true hp)
def LL (a:Nat) (L:List Tok) (E:Int) (n:Nat) (xs:List Ins) (l':List Tok) (w:World) (e:Ending) (w':World):Prop:=
 ∃v,e= .returned v∧bR w.heap.size xs v w'∧RR a L E n l' w'∧Kr a w w'
theorem I9 {a:Nat} {L:List Tok} {E:Int} {n n' k:Nat} {l lf:List Tok} {xs:List Ins} (w:World) (h:RR a L E n l w) (hr:jy E k n l= .ok ((xs,n'),lf)):
  Calls Tryz.prog 148 #[.pointer (some ⟨a,0,none⟩),.int .i64 (k:Int)] w (LL a L E n' xs lf w):=by
 obtain⟨i0,hi0,hz0,hz1,hz2⟩:=info_parts Tryz.JL;obtain⟨u1,r1,hh,h2⟩:=ax hr;obtain⟨u2,r2,hw,h2⟩:=ax h2;obtain⟨hl,rfl,hk,hp⟩:=rQ hh;obtain⟨rfl,hp2⟩:=eY (by simp) hw;have HR:Hid (mF E (l.tail.tail.length+1) n [] l.tail.tail= .ok ((xs,n'),lf)):=aa h2;have hk1:¬(256:Int)≤(k:Int):=by omega
 have hk2:decide ((256:Int)≤(k:Int))=false:=by simpa using hk1
 have hsz:(bs (dig (k:Int))).size≤65536:=by have:=h.short.1;rw [hp] at this;rw [bE];simp at this;omega
 have hne:((bs [98] ++ bs (dig (k:Int))).toList == (bs [98] ++ bs (dig (k:Int))).toList)=true:=by simp
 have hsz0:(bs [98]).size≤100:=by rw [bE];decide
 have HP:Hid (bs (ah l)=bs [98] ++ bs (dig (k:Int))):=aa (by rw [hp,Fa];rfl);have HP2:=aa hp2;have ha:=h.lt;have H:=aa h;clear h hr h2 hw hh hp hp2;have hbb:(⟨#[98]⟩:ByteArray)=bs [98]:=rfl;go_enter Tryz.func148,Tryz.ntmps148
 go_wp2_with fail
 refine(cf _ H.out rfl).mono ?_;rintro e w1 ⟨rfl,b1⟩;rw [HP.out];go_wp2_with fail
 refine(Hs (k:Int) _ (by omega) (by omega)).mono ?_;rintro e w2 ⟨rfl,b2⟩;have B2:=ae b1 b2;obtain⟨c1,z1,c4,hq⟩:=(H.out.below B2).at1;have HA:=aa (gO H.out B2 hl);clear b1 b2 B2 c4;generalize L.length - l.length=q at *;go_upto_region 6 with fail
 show Code.wp _ _ _ _ (w2.setCell ⟨a,1,none⟩ (.int .i64 ((q:Int)+1)));clear c1 z1 hne;generalize w2.setCell ⟨a,1,none⟩ (.int .i64 ((q:Int)+1))=W2 at *;go_wp2_with fail
 refine(pH [58] _ HA.out.1 HP2.out (by simp)).mono ?_;rintro e w3 ⟨rfl,a3⟩;have R3:=aa a3.1;have K3:=aa (HA.out.2.trans a3.2);clear HA a3;go_wp2_with fail
 go_loopw [5] (fun v wr=>∃(f m:Nat) (acc:List Ins) (l':List Tok),bR w.heap.size acc v wr∧RR a L E m l' wr∧Kr a w wr∧l'.length < f∧acc.length+l'.length≤L.length∧Hid (mF E f m acc l'= .ok ((xs,n'),lf))) (fun _ wr=>L.length - bt a wr)
 case atStart=>exact⟨_,n,[],l.tail.tail,⟨[],World.ownsRow_nil _ _ _ _,rfl⟩,R3.out,K3.out,Nat.lt_succ_self _,by rw [List.length_nil,Nat.zero_add];exact R3.out.len.1,HR⟩
 case round=>
  obtain⟨f,m,acc,l',hV,H5,K5,hlf,hfit,HM⟩:=hrel;have hra:=H5.bt;have hll:=H5.len;have hs:=K5.size;have c4:=H5.at1.2.2.1;obtain⟨ao6,cap6,rfl⟩:=aI hV.choose_spec.1;have hV:=aa hV;have H5:=aa H5;have K5:=aa K5;obtain⟨f,rfl⟩:∃q,f=q+1:=⟨f - 1,by omega⟩;have HN1:=aa (iM (ah l') [125]);have HN2:=aa (iM (bk l') [58]);go_wp2_with fail
  refine(cf _ H5.out rfl).mono ?_;rintro e w5 ⟨rfl,b5⟩;by_cases hc1:ah l'= [125]
  ·obtain⟨⟨rfl,rfl⟩,rfl⟩:(acc=xs∧m=n')∧l'=lf:=(by have:=HM.out;rw [pG (.inl hc1)] at this;cases this;exact⟨⟨rfl,rfl⟩,rfl⟩);have hne:((bs (ah l')).toList == [125])=true:=HN1.out.trans (decide_eq_true hc1);have hne2:((bs (ah l')).toList != [125])=false:=(by rw [bne,hne];rfl);clear hc1 HN1 HN2;go_wp2_with fail
   go_ret;exact⟨_,rfl,hV.out.below b5,H5.out.below b5,K5.out.step b5⟩
  have hne:((bs (ah l')).toList == [125])=false:=HN1.out.trans (decide_eq_false hc1);have hne2:((bs (ah l')).toList != [125])=true:=by rw [bne,hne];rfl
  replace hc1:=aa hc1;go_wp2_with fail
  refine(rz _ (H5.out.below b5) rfl).mono ?_;rintro e w6 ⟨rfl,b6⟩;have B6:=aa (ae b5 b6);clear b5 b6;by_cases hc2:bk l'= [58]
  ·obtain⟨⟨rfl,rfl⟩,rfl⟩:(acc=xs∧m=n')∧l'=lf:=(by have:=HM.out;rw [pG (.inr hc2)] at this;cases this;exact⟨⟨rfl,rfl⟩,rfl⟩);have hnf:((bs (bk l')).toList == [58])=true:=HN2.out.trans (decide_eq_true hc2);have hnf2:((bs (bk l')).toList != [58])=false:=(by rw [bne,hnf];rfl);clear hc2 HN1 HN2;go_wp2_with fail
   go_ret;exact⟨_,rfl,hV.out.below B6.out,H5.out.below B6.out,K5.out.step B6.out⟩
  have hnf:((bs (bk l')).toList == [58])=false:=HN2.out.trans (decide_eq_false hc2);have hnf2:((bs (bk l')).toList != [58])=true:=by rw [bne,hnf];rfl
  have hcc:¬(ah l'= [125]∨bk l'= [58]):=fun h=>h.elim hc1.out hc2;have hm4:m < 4096:=by
   refine Classical.byContradiction fun q=> ?_;have:=HM.out;rw [tM hcc (by omega)] at this
   cases this
  obtain⟨x,l10,hx⟩:∃x l10,xA E l'= .ok (x,l10):=by
   cases hq:jC E l' with
   |error er=>have:=HM.out;rw [yc hcc hm4 hq] at this;cases this
   |ok p=>exact⟨p.1,p.2,(ig E l').trans hq⟩
  have hx':jC E l'= .ok (x,l10):=(ig E l').symm.trans hx;have HE:Hid (mF E f (m+1) (acc ++ [x]) l10= .ok ((xs,n'),lf)):=aa (by have:=HM.out;rwa [DS hcc hm4 hx'] at this);have hless:=kJ hx';have HX:=aa hx;clear hc1 hc2 HN1 HN2 hcc hx hx' HM;have V6:=aa (hV.out.below B6.out);have H6:=aa (H5.out.below B6.out);have K6:=aa (K5.out.step B6.out);have hs6:=K6.out.size;clear hV H5 K5 B6 hs c4;obtain⟨_,_,_,_,_,c3,_,_,fz,_⟩:=H6.out.cells;have f3:=fz 3;clear fz;have hm4':¬(4096:Int)≤(m:Int):=by omega
  have hm5:decide ((4096:Int)≤(m:Int))=false:=by simpa using hm4'
  have H7:=aa (H6.out.count hm4);have K7:=aa (K6.out.set (i:=3) (.int .i64 ((m:Int)+1)));have V7:=aa (V6.out.kr (RR.kr (a:=a) (w:=w6) 3 (.int .i64 ((m:Int)+1))) ha);go_upto_region 12 with fail
  show Code.wp _ _ _ _ (w6.setCell ⟨a,3,none⟩ (.int .i64 ((m:Int)+1)));clear c3 f3 H6 K6 V6 hne hne2 hnf hnf2;generalize w6.setCell ⟨a,3,none⟩ (.int .i64 ((m:Int)+1))=W7 at *;have hs7:=K7.out.size;go_wp2_with fail
  refine(Jb _ H7.out HX.out).mono ?_;rintro e w10 ⟨v,rfl,⟨va,vt,rfl,o1,o2⟩,r10,k10⟩;obtain⟨aoA,mA,cA,rfl⟩:=aQ o1;obtain⟨aoT,mT,cT,rfl⟩:=aQ o2;have b11:=af w10 (.cells (ak x (.slice aoA mA cA) (.slice aoT mT cT)).toArray 41);have V11:=(V7.out.kr k10 ha).below b11;obtain⟨cs,oR,hR⟩:=V11;have K11:=aa ((K7.out.trans k10).step b11);have R11:=aa (r10.below b11);have o1:=aa ((aL o1 hs7).alloc (.cells (ak x (.slice aoA mA cA) (.slice aoT mT cT)).toArray 41));have o2:=aa ((aL o2 hs7).alloc (.cells (ak x (.slice aoA mA cA) (.slice aoT mT cT)).toArray 41));have y:∀i u,(ak x (.slice aoA mA cA) (.slice aoT mT cT))[i]? =some u→(w10.alloc (.cells (ak x (.slice aoA mA cA) (.slice aoT mT cT)).toArray 41)).cell? ⟨w10.heap.size,i,none⟩=some u:=fun i u hu=>by
   have:=o4 (w:=w10) (x:=x) (va:= .slice aoA mA cA) (vt:= .slice aoT mT cT) i u hu;rw [Addr.add_lit,Nat.zero_add] at this;exact this
  have y0:=y 0 _ rfl;have y1:=y 1 _ rfl;have y2:=y 2 _ rfl;have y3:=y 3 _ rfl;have y4:=y 4 _ rfl;have y5:=y 5 _ rfl;have y6:=y 6 _ rfl;have y7:=y 7 _ rfl;have oR:=aa oR;have hR:=aa hR;clear y V7 H7 K7 k10 r10 b11;unfold ak;go_upto_region 13 with fail
  show Code.wp _ _ _ _ (w10.alloc (.cells (ak x (.slice aoA mA cA) (.slice aoT mT cT)).toArray 41));generalize w10.alloc (.cells (ak x (.slice aoA mA cA) (.slice aoT mT cT)).toArray 41)=W10 at *;have hs10:=K11.out.size;have t2:acc.length+1≤maxLen:=by unfold maxLen;omega
  have t3:(acc.length+1) * 104≤140737488355328:=by omega
  go_wp2_with (at_builtin;refine wpList_append_own _ rfl (.tmp 62) (.tmp 64) 36 rfl w.heap.size 41 i0 _ 8 104 Tryz.underlying36 hi0 hz0 hz1 hz2 rfl (by decide) _ _ _ rfl (oR.out.alloc _) ⟨W10.heap.size,0,none⟩ 1 1 (ak x (.slice aoA mA cA) (.slice aoT mT cT)) rfl rfl o4 Bk t2 t3 (by simp;omega) ?_;intro v11 w11 own11 grow11 _)
  have V11:=aa (bR.snoc oR.out hR.out o1.out o2.out own11 grow11);have K12:=aa ((K11.out.step (af W10 _)).grown grow11 (fun q hq=>(oR.out.lt q hq).1));have R12:=aa ((R11.out.below (af W10 _)).grown grow11 (oR.out.alloc _) (by decide) ha);have hra2:=R12.out.bt;have hll2:=R12.out.len;clear own11 grow11;go_wp2_with fail
  go_roundw
  case rel=>exact⟨f,m+1,acc ++ [x],l10,V11.out,R12.out,K12.out,by omega,by simp;omega,HE⟩
  case measure=>rw [hra,hra2];omega
theorem Iz (s:List UInt8) (w:World):Calls Tryz.prog 147 #[.string (bs s)] w fun e w'=>e= .returned (.int .i64 (G.kind s))∧Below w.heap.size w w':=by
 have H1:=iM s [110];have H2:=iM s [105];have H3:=iM s [112];by_cases h1:s= [110]
 ·have HK:Hid (G.kind s=0):=aa (by rw [h1];rfl);rw [decide_eq_true h1] at H1;clear h1 H2 H3;go_enter Tryz.func147,Tryz.ntmps147
  go_wp2_with fail
  go_ret;exact⟨by rw [HK.out];rfl,Below.refl _ _⟩
 ·rw [decide_eq_false h1] at H1;by_cases h2:s= [105]
  ·have HK:Hid (G.kind s=1):=aa (by rw [h2];rfl);rw [decide_eq_true h2] at H2;clear h1 h2 H3;go_enter Tryz.func147,Tryz.ntmps147
   go_wp2_with fail
   go_ret;exact⟨by rw [HK.out];rfl,Below.refl _ _⟩
  ·rw [decide_eq_false h2] at H2;by_cases h3:s= [112]
   ·have HK:Hid (G.kind s=2):=aa (by rw [h3];rfl);rw [decide_eq_true h3] at H3;clear h1 h2 h3;go_enter Tryz.func147,Tryz.ntmps147
    go_wp2_with fail
    go_ret;exact⟨by rw [HK.out];rfl,Below.refl _ _⟩
   ·have HK:Hid (G.kind s= -1):=aa (by unfold G.kind;rw [if_neg h1,if_neg h2,if_neg h3]);rw [decide_eq_false h3] at H3;clear h1 h2 h3;go_enter Tryz.func147,Tryz.ntmps147
    go_wp2_with fail
    go_ret;exact⟨by rw [HK.out];rfl,Below.refl _ _⟩
theorem yO {B a:Nat} {w w':World} (k:Kr a w w') (ha:a < B):jg B B w w':=fun _ _ _ _ _ _ h=>Cp h k ha
def fL (w:World) (a c g:Nat) (L:List Tok) (E:Int) (n:Nat) (x:Fun) (l:List Tok) (wk:World):Prop:=
 RR a L E n l wk∧dw w.heap.size c x wk∧wk.heap[g]? =some (.cells #[.string ⟨#[]⟩,.slice none 0 0,.int .i64 0,.slice none 0 0,.int .i64 0] 29 (0,0))∧Kr a w wk∧a < w.heap.size∧w.heap.size≤g∧g≠c
section
variable {w:World} {a c g:Nat} {L:List Tok} {E:Int} {n n':Nat} {x y:Fun} {l l':List Tok} {wk wk':World}
theorem fL.lt (h:fL w a c g L E n x l wk):a < w.heap.size∧w.heap.size≤g∧w.heap.size≤c∧c < wk.heap.size∧g < wk.heap.size∧g≠c∧w.heap.size≤wk.heap.size:=by
 obtain⟨h1,h2,h3,h4,h5,h6,h7⟩:=h;exact⟨h5,h6,h2.lt.2,h2.lt.1,(Array.getElem?_eq_some_iff.1 h3).1,h7,h4.size⟩
theorem fL.kr (h:fL w a c g L E n x l wk) (r:RR a L E n' l' wk') (k:Kr a wk wk'):fL w a c g L E n' x l' wk':=by
 have hl:=h.lt;obtain⟨h1,h2,h3,h4,h5,h6,h7⟩:=h;exact⟨r,h2.stay (yO k h5) (k.2.2.2.2 c (by omega) (by omega)),(k.2.2.2.2 g (by omega) (by omega)).trans h3,h4.trans k,h5,h6,h7⟩
theorem fL.below (h:fL w a c g L E n x l wk) (b:Below wk.heap.size wk wk'):fL w a c g L E n x l wk':=h.kr (h.1.below b) (Kr.br b)
theorem fL.ate (h:fL w a c g L E n x l wk) (b:Ate a L E n l' wk wk'):fL w a c g L E n x l' wk':=h.kr b.1 b.2
theorem fL.put {i:Nat} {v:Value} (h:fL w a c g L E n x l wk) (hy:dw w.heap.size c y (wk.setCell ⟨c,i,none⟩ v)):fL w a c g L E n y l (wk.setCell ⟨c,i,none⟩ v):=by
 have hl:=h.lt;obtain⟨h1,h2,h3,h4,h5,h6,h7⟩:=h;obtain⟨cs,hc⟩:∃cs,wk.heap[c]? =some (.cells cs 29 (0,0)):=by obtain⟨va,vt,k1,_⟩:=h2;exact⟨_,k1⟩
 refine⟨h1.set hc (by decide) (by omega) i v,hy,(Below.heap_setCell _ _ _ _ (fun e=>h7 e)).trans h3,?_,h5,h6,h7⟩;have hb:=(Below.refl 0 wk).setCell (p:=⟨c,i,none⟩) (Nat.zero_le c) v;exact⟨hb.os.trans h4.1,hb.tape.trans h4.2.1,hb.output.trans h4.2.2.1,Nat.le_trans h4.size hb.size,fun k k1 k2=>(Below.heap_setCell wk ⟨c,i,none⟩ v k (by show k≠c;omega)).trans (h4.2.2.2.2 k k1 k2)⟩
theorem fL.grow {w3:World} {row:Value} {e' s' m i:Nat} {ys:List Value} {v:Value} (h:fL w a c g L E n x l wk) (hg:wk.grownBy w3 row.ownBlock) (hr:wk.ownsRow w.heap.size e' s' row m ys) (he:173≠e'∧29≠e') (hy:dw w.heap.size c y (w3.setCell ⟨c,i,none⟩ v)):fL w a c g L E n y l (w3.setCell ⟨c,i,none⟩ v):=by
 have hl:=h.lt;obtain⟨h1,h2,h3,h4,h5,h6,h7⟩:=h;obtain⟨cs,hc⟩:∃cs,wk.heap[c]? =some (.cells cs 29 (0,0)):=by obtain⟨va,vt,k1,_⟩:=h2;exact⟨_,k1⟩
 have r1:=h1.grown hg hr he.1 h5;have r2:=(hg.block g (by omega) (fun e=>bp hr h3 he.2 e.symm)).trans h3;have hc3:=(hg.block c (by omega) (fun e=>bp hr hc he.2 e.symm)).trans hc;have r3:=h4.grown hg fun q hq=>(hr.lt q hq).1;refine⟨r1.set hc3 (by decide) (by omega) i v,hy,(Below.heap_setCell _ _ _ _ (fun e=>h7 e)).trans r2,?_,h5,h6,h7⟩;have hb:=(Below.refl 0 w3).setCell (p:=⟨c,i,none⟩) (Nat.zero_le c) v;exact⟨hb.os.trans r3.1,hb.tape.trans r3.2.1,hb.output.trans r3.2.2.1,Nat.le_trans r3.size hb.size,fun k k1 k2=>(Below.heap_setCell w3 ⟨c,i,none⟩ v k (by show k≠c;omega)).trans (r3.2.2.2.2 k k1 k2)⟩
end
theorem Aj {B c gg cap:Nat} {s:List UInt8} {p:List Int} {ret at' t:Int} {vp vb:Value} {u w3:World} (hc:u.heap[c]? =some (.cells (aH (s,p,ret,[],at') vp vb).toArray 29 (0,0))) (hp:u.ownsRow B 3 1 vp p.length (ints p)) (oB:cZ B [] vb u) (hBc:B≤c)
  (hown:w3.ownsRow B 3 1 (.slice (some ⟨gg,0,none⟩) (p.length+1) cap) (p.length+1) (ints p ++ [.int .i64 t])) (hg:u.grownBy w3 vp.ownBlock):dw B c (s,p ++ [t],ret,[],at') (w3.setCell ⟨c,1,none⟩ (.slice (some ⟨gg,0,none⟩) (p.length+1) cap)):=by
 have hc3:w3.heap[c]? =some (.cells (aH (s,p,ret,[],at') vp vb).toArray 29 (0,0)):=(hg.block c (Array.getElem?_eq_some_iff.1 hc).1 (fun e=>bp hp hc (by decide) e.symm)).trans hc;have s2:jg B B w3 (w3.setCell ⟨c,1,none⟩ (.slice (some ⟨gg,0,none⟩) (p.length+1) cap)):=fU ((Far.refl c w3).set 1 _) hc3 (by decide);obtain⟨vs,o1,o2⟩:=oB;refine⟨_,vb,(heap_setCell_same w3 c 1 _ 29 _ hc3).trans rfl,?_,cZ.stay ⟨vs,eP hg hp (by decide) _ _ _ o1,o2⟩ s2,hBc⟩;have:=s2 _ _ _ _ _ (by simp) hown;simpa using this
theorem fL.start {w:World} {a:Nat} {L:List Tok} {E:Int} {n:Nat} {l:List Tok} (h:RR a L E n l w) (p:Int) {W0 W1:World} (hW0:W0=w.alloc (.cells #[.string ⟨#[]⟩,.slice none 0 0,.int .i64 0,.slice none 0 0,.int .i64 0] 29)) (hW1:Below W0.heap.size W0 W1):
  fL w a W1.heap.size w.heap.size L E n ([],[],0,[],p) l (W1.alloc (.cells #[.string ⟨#[]⟩,.slice none 0 0,.int .i64 0,.slice none 0 0,.int .i64 p] 29)):=by
 subst hW0;have b1:=af w (.cells #[.string ⟨#[]⟩,.slice none 0 0,.int .i64 0,.slice none 0 0,.int .i64 0] 29);have b3:=af W1 (.cells #[.string ⟨#[]⟩,.slice none 0 0,.int .i64 0,.slice none 0 0,.int .i64 p] 29);have s1:(w.alloc (.cells #[.string ⟨#[]⟩,.slice none 0 0,.int .i64 0,.slice none 0 0,.int .i64 0] 29)).heap.size=w.heap.size+1:=by simp
 have hz:=hW1.size;refine⟨((h.below b1).below hW1).below b3,dw.new (by omega) p,?_,Kr.br (ae (ae b1 hW1) b3),h.lt,Nat.le_refl _,by omega⟩;exact(b3.block w.heap.size (by omega)).trans ((hW1.block w.heap.size (by omega)).trans (heap_alloc_new w _))
end Go.Proofs.YtaiaakklokahjaaGreatDoor
