/- Texts of one chain, joined. -/
import Derived.Test.YtljkgcfnoegibaaGreatDoorWcAU
set_option maxHeartbeats 4000000
set_option maxRecDepth 20000
namespace Go.Proofs.YtljkgcfnoegibaaGreatDoor
open Go Go.RowKit
open G (Tok Er Ins Fun peek0 peek1 atOf)
theorem fin_of {w:World} {a c g:Nat} {L:List Tok} {E:Int} {n:Nat} {x y:Ins} {l lf:List Tok} {W1 w2:World} {v:Value} (M:MidR w a c g L E n x l W1) (h:InsVal W1.heap.size y v w2∧RR a L E n lf w2∧Kr a W1 w2):
  ∃aoA mA cA aoT mT cT,v= .agg (insCells y (.slice aoA mA cA) (.slice aoT mT cT)).toArray∧w2.heap[g]? =some (.cells #[.int .i64 0,.int .i64 0,.int .i64 0,.int .i64 0,.slice none 0 0,.slice none 0 0,.string ⟨#[]⟩,.int .i64 0] 47 (0,0))∧
   ∀W,Far g w2 W→W.ownsRow w.heap.size 3 1 (.slice aoA mA cA) y.2.2.2.2.1.length (ints y.2.2.2.2.1)∧W.ownsRow w.heap.size 3 1 (.slice aoT mT cT) y.2.2.2.2.2.1.length (ints y.2.2.2.2.2.1)∧RR a L E n lf W∧Kr a w W:=by
 have hl:=M.lt
 obtain⟨⟨va,vt,rfl,o1,o2⟩,r,k⟩:=h
 obtain⟨h1,h2,h3,h4,h5,h6,h7⟩:=M
 obtain⟨aoA,mA,cA,rfl⟩:=own_slice o1
 obtain⟨aoT,mT,cT,rfl⟩:=own_slice o2
 have hS:=(k.2.2.2.2 g hl.2.2.2.2.1 (by omega)).trans h3
 refine⟨aoA,mA,cA,aoT,mT,cT,rfl,hS,fun W hW=>⟨own_base (hW.own o1 (own_ne o1 hS (by decide))) hl.2.2.2.2.2.2,own_base (hW.own o2 (own_ne o2 hS (by decide))) hl.2.2.2.2.2.2,hW.rr r hS (by decide) (by omega),hW.kr (h4.trans k) h6⟩⟩
theorem start_cell (w:World) (op id nn ty:Int) (nm:ByteArray) (p:Int):(((w.alloc (.cells (bare8 op id nn ty nm p) 47)).alloc (.cells (bare8 0 0 0 0 ⟨#[]⟩ 0) 47)).alloc (.cells (bare8 op id nn ty nm p) 47)).heap[w.heap.size+1+1]? =some (.cells (bare8 op id nn ty nm p) 47 (0,0)):=by
 have s2:((w.alloc (.cells (bare8 op id nn ty nm p) 47)).alloc (.cells (bare8 0 0 0 0 ⟨#[]⟩ 0) 47)).heap.size=w.heap.size+1+1:=by simp
 rw [←s2];exact heap_alloc_new _ _
theorem eight_of {w:World} {c:Nat} {op id nn ty p:Int} {nm:ByteArray} (h:w.heap[c]? =some (.cells (bare8 op id nn ty nm p) 47 (0,0))):
  w.cell? ⟨c,0,none⟩=some (.int .i64 op)∧w.cell? ⟨c,1,none⟩=some (.int .i64 id)∧w.cell? ⟨c,2,none⟩=some (.int .i64 nn)∧w.cell? ⟨c,3,none⟩=some (.int .i64 ty)∧w.cell? ⟨c,4,none⟩=some (.slice none 0 0)∧w.cell? ⟨c,5,none⟩=some (.slice none 0 0)∧w.cell? ⟨c,6,none⟩=some (.string nm)∧w.cell? ⟨c,7,none⟩=some (.int .i64 p)∧(∀i,w.frozen? ⟨c,i,none⟩=false)∧c < w.heap.size:=by
 refine⟨?_,?_,?_,?_,?_,?_,?_,?_,fun i=>by simp [World.frozen?,h],(Array.getElem?_eq_some_iff.1 h).1⟩ <;> simp [World.cell?,h]
theorem vals_rest {E:Int}:∀(k:Nat) (op id nn ty p:Int) (acc:List Int) (l:List Tok) (a:List Int) (lf:List Tok),G.valuesN idxF E k acc l= .ok (a,lf)→restG E (List.replicate k 118) (op,id,nn,ty,acc,[],[],p) l= .ok ((op,id,nn,ty,a,[],[],p),lf):=by
 intro k
 induction k with
 |zero=>intro op id nn ty p acc l a lf h;cases h;rfl
 |succ k ih=>
  intro op id nn ty p acc l a lf h
  obtain⟨v,r,hv,h2⟩:=then_inv (show G.andThen (G.value idxF E l) (fun v=>G.valuesN idxF E k (acc ++ [v]))= .ok (a,lf) from h)
  show G.andThen (G.value idxF E l) _=_
  rw [hv]
  exact ih op id nn ty p (acc ++ [v]) r a lf h2
theorem let_in (op:Int):(∀c∈letG op,c=118∨c=115∨c=110∨c=108)∧(letG op).length≤100:=by
 unfold letG
 repeat' (first | split)
 all_goals first | exact⟨by decide,by decide⟩ | skip
 refine⟨fun c hc=> .inl (List.eq_of_mem_replicate hc),?_⟩
 rw [List.length_replicate]
 have:=tks_le op
 omega
theorem rest_11 {E id ty p:Int} {l lf:List Tok} {y:G.Opd} (h:opsG E 11 l= .ok (y,lf)):restG E (letG 11) (bare 11 id ty p) l= .ok (fill (bare 11 id ty p) y,lf):=by
 replace h:(fun r0=>G.andThen (G.value idxF E r0) (fun v=>fun r1=>G.andThen (G.number numF E 0 15 r1) (fun x=>G.done (x,[v],[],[])))) l= .ok (y,lf):=h
 obtain⟨v,q0,e0,h⟩:=then_inv (show G.andThen (G.value idxF E l) (fun v=>fun r1=>G.andThen (G.number numF E 0 15 r1) (fun x=>G.done (x,[v],[],[])))= .ok (y,lf) from h)
 obtain⟨x,q1,e1,h⟩:=then_inv (show G.andThen (G.number numF E 0 15 q0) (fun x=>G.done (x,[v],[],[]))= .ok (y,lf) from h)
 cases h
 refine(then_go e0).trans ?_
 refine(then_go e1).trans ?_
 rfl
theorem rest_12 {E id ty p:Int} {l lf:List Tok} {y:G.Opd} (h:opsG E 12 l= .ok (y,lf)):restG E (letG 12) (bare 12 id ty p) l= .ok (fill (bare 12 id ty p) y,lf):=by
 replace h:(fun r0=>G.andThen (G.value idxF E r0) (fun v=>fun r1=>G.andThen (G.number numF E 0 15 r1) (fun x=>G.done (x,[v],[],[])))) l= .ok (y,lf):=h
 obtain⟨v,q0,e0,h⟩:=then_inv (show G.andThen (G.value idxF E l) (fun v=>fun r1=>G.andThen (G.number numF E 0 15 r1) (fun x=>G.done (x,[v],[],[])))= .ok (y,lf) from h)
 obtain⟨x,q1,e1,h⟩:=then_inv (show G.andThen (G.number numF E 0 15 q0) (fun x=>G.done (x,[v],[],[]))= .ok (y,lf) from h)
 cases h
 refine(then_go e0).trans ?_
 refine(then_go e1).trans ?_
 rfl
theorem rest_15 {E id ty p:Int} {l lf:List Tok} {y:G.Opd} (h:opsG E 15 l= .ok (y,lf)):restG E (letG 15) (bare 15 id ty p) l= .ok (fill (bare 15 id ty p) y,lf):=by
 replace h:(fun r0=>G.andThen (G.value idxF E r0) (fun v=>fun r1=>G.andThen (G.number numF E 0 15 r1) (fun x=>G.done (x,[v],[],[])))) l= .ok (y,lf):=h
 obtain⟨v,q0,e0,h⟩:=then_inv (show G.andThen (G.value idxF E l) (fun v=>fun r1=>G.andThen (G.number numF E 0 15 r1) (fun x=>G.done (x,[v],[],[])))= .ok (y,lf) from h)
 obtain⟨x,q1,e1,h⟩:=then_inv (show G.andThen (G.number numF E 0 15 q0) (fun x=>G.done (x,[v],[],[]))= .ok (y,lf) from h)
 cases h
 refine(then_go e0).trans ?_
 refine(then_go e1).trans ?_
 rfl
theorem rest_13 {E id ty p:Int} {l lf:List Tok} {y:G.Opd} (h:opsG E 13 l= .ok (y,lf)):restG E (letG 13) (bare 13 id ty p) l= .ok (fill (bare 13 id ty p) y,lf):=by
 replace h:(fun r0=>G.andThen (G.value idxF E r0) (fun v=>fun r1=>G.andThen (G.number numF E 0 15 r1) (fun x=>fun r2=>G.andThen (G.value idxF E r2) (fun u=>G.done (x,[v,u],[],[]))))) l= .ok (y,lf):=h
 obtain⟨v,q0,e0,h⟩:=then_inv (show G.andThen (G.value idxF E l) (fun v=>fun r1=>G.andThen (G.number numF E 0 15 r1) (fun x=>fun r2=>G.andThen (G.value idxF E r2) (fun u=>G.done (x,[v,u],[],[]))))= .ok (y,lf) from h)
 obtain⟨x,q1,e1,h⟩:=then_inv (show G.andThen (G.number numF E 0 15 q0) (fun x=>fun r2=>G.andThen (G.value idxF E r2) (fun u=>G.done (x,[v,u],[],[])))= .ok (y,lf) from h)
 obtain⟨u,q2,e2,h⟩:=then_inv (show G.andThen (G.value idxF E q1) (fun u=>G.done (x,[v,u],[],[]))= .ok (y,lf) from h)
 cases h
 refine(then_go e0).trans ?_
 refine(then_go e1).trans ?_
 refine(then_go e2).trans ?_
 rfl
theorem rest_14 {E id ty p:Int} {l lf:List Tok} {y:G.Opd} (h:opsG E 14 l= .ok (y,lf)):restG E (letG 14) (bare 14 id ty p) l= .ok (fill (bare 14 id ty p) y,lf):=by
 replace h:(fun r0=>G.andThen (G.value idxF E r0) (fun v=>fun r1=>G.andThen (G.number numF E 0 15 r1) (fun x=>fun r2=>G.andThen (G.value idxF E r2) (fun u=>G.done (x,[v,u],[],[]))))) l= .ok (y,lf):=h
 obtain⟨v,q0,e0,h⟩:=then_inv (show G.andThen (G.value idxF E l) (fun v=>fun r1=>G.andThen (G.number numF E 0 15 r1) (fun x=>fun r2=>G.andThen (G.value idxF E r2) (fun u=>G.done (x,[v,u],[],[]))))= .ok (y,lf) from h)
 obtain⟨x,q1,e1,h⟩:=then_inv (show G.andThen (G.number numF E 0 15 q0) (fun x=>fun r2=>G.andThen (G.value idxF E r2) (fun u=>G.done (x,[v,u],[],[])))= .ok (y,lf) from h)
 obtain⟨u,q2,e2,h⟩:=then_inv (show G.andThen (G.value idxF E q1) (fun u=>G.done (x,[v,u],[],[]))= .ok (y,lf) from h)
 cases h
 refine(then_go e0).trans ?_
 refine(then_go e1).trans ?_
 refine(then_go e2).trans ?_
 rfl
theorem rest_23 {E id ty p:Int} {l lf:List Tok} {y:G.Opd} (h:opsG E 23 l= .ok (y,lf)):restG E (letG 23) (bare 23 id ty p) l= .ok (fill (bare 23 id ty p) y,lf):=by
 replace h:(fun r0=>G.andThen (G.number numF E 0 1048576 r0) (fun x=>G.done (x,[],[],[]))) l= .ok (y,lf):=h
 obtain⟨x,q0,e0,h⟩:=then_inv (show G.andThen (G.number numF E 0 1048576 l) (fun x=>G.done (x,[],[],[]))= .ok (y,lf) from h)
 cases h
 refine(then_go e0).trans ?_
 rfl
theorem rest_24 {E id ty p:Int} {l lf:List Tok} {y:G.Opd} (h:opsG E 24 l= .ok (y,lf)):restG E (letG 24) (bare 24 id ty p) l= .ok (fill (bare 24 id ty p) y,lf):=by
 replace h:(fun r0=>G.andThen (G.value idxF E r0) (fun v=>fun r1=>G.andThen (G.number numF E 0 1048576 r1) (fun x=>G.done (x,[v],[],[])))) l= .ok (y,lf):=h
 obtain⟨v,q0,e0,h⟩:=then_inv (show G.andThen (G.value idxF E l) (fun v=>fun r1=>G.andThen (G.number numF E 0 1048576 r1) (fun x=>G.done (x,[v],[],[])))= .ok (y,lf) from h)
 obtain⟨x,q1,e1,h⟩:=then_inv (show G.andThen (G.number numF E 0 1048576 q0) (fun x=>G.done (x,[v],[],[]))= .ok (y,lf) from h)
 cases h
 refine(then_go e0).trans ?_
 refine(then_go e1).trans ?_
 rfl
theorem rest_26 {E id ty p:Int} {l lf:List Tok} {y:G.Opd} (h:opsG E 26 l= .ok (y,lf)):restG E (letG 26) (bare 26 id ty p) l= .ok (fill (bare 26 id ty p) y,lf):=by
 replace h:(fun r0=>G.andThen (G.label idxF E r0) (fun b=>G.done (0,[],[b],[]))) l= .ok (y,lf):=h
 obtain⟨b,q0,e0,h⟩:=then_inv (show G.andThen (G.label idxF E l) (fun b=>G.done (0,[],[b],[]))= .ok (y,lf) from h)
 cases h
 refine(then_go e0).trans ?_
 rfl
theorem rest_27 {E id ty p:Int} {l lf:List Tok} {y:G.Opd} (h:opsG E 27 l= .ok (y,lf)):restG E (letG 27) (bare 27 id ty p) l= .ok (fill (bare 27 id ty p) y,lf):=by
 replace h:(fun r0=>G.andThen (G.value idxF E r0) (fun v=>fun r1=>G.andThen (G.label idxF E r1) (fun b=>fun r2=>G.andThen (G.label idxF E r2) (fun c=>G.done (0,[v],[b,c],[]))))) l= .ok (y,lf):=h
 obtain⟨v,q0,e0,h⟩:=then_inv (show G.andThen (G.value idxF E l) (fun v=>fun r1=>G.andThen (G.label idxF E r1) (fun b=>fun r2=>G.andThen (G.label idxF E r2) (fun c=>G.done (0,[v],[b,c],[]))))= .ok (y,lf) from h)
 obtain⟨b,q1,e1,h⟩:=then_inv (show G.andThen (G.label idxF E q0) (fun b=>fun r2=>G.andThen (G.label idxF E r2) (fun c=>G.done (0,[v],[b,c],[])))= .ok (y,lf) from h)
 obtain⟨c,q2,e2,h⟩:=then_inv (show G.andThen (G.label idxF E q1) (fun c=>G.done (0,[v],[b,c],[]))= .ok (y,lf) from h)
 cases h
 refine(then_go e0).trans ?_
 refine(then_go e1).trans ?_
 refine(then_go e2).trans ?_
 rfl
theorem rest_any {op E id ty p:Int} {l lf:List Tok} {y:G.Opd} (g1:¬op=1) (g29:¬op=29) (g10:¬op=10) (g20:¬op=20) (g21:¬op=21) (g28:¬op=28) (h:opsG E op l= .ok (y,lf)):restG E (letG op) (bare op id ty p) l= .ok (fill (bare op id ty p) y,lf):=by
 by_cases h11:op=11
 ·subst h11;exact rest_11 h
 by_cases h12:op=12
 ·subst h12;exact rest_12 h
 by_cases h15:op=15
 ·subst h15;exact rest_15 h
 by_cases h13:op=13
 ·subst h13;exact rest_13 h
 by_cases h14:op=14
 ·subst h14;exact rest_14 h
 by_cases h23:op=23
 ·subst h23;exact rest_23 h
 by_cases h24:op=24
 ·subst h24;exact rest_24 h
 by_cases h26:op=26
 ·subst h26;exact rest_26 h
 by_cases h27:op=27
 ·subst h27;exact rest_27 h
 have e:letG op=List.replicate (tksF op) 118:=by unfold letG;rw [if_neg h11,if_neg h12,if_neg h15,if_neg h13,if_neg h14,if_neg h23,if_neg h24,if_neg h26,if_neg h27]
 rw [e]
 unfold opsG G.operands at h
 simp only [if_neg g1,if_neg g29,if_neg g10,if_neg g20,if_neg g21,if_neg g28,h11,h12,h15,h13,h14,h23,h24,h26,h27,or_self,if_false] at h
 obtain⟨a,r,hv,h2⟩:=then_inv h
 cases h2
 exact vals_rest _ _ _ _ _ _ _ _ _ _ hv
theorem rops_1 (id ty p:Int) {a:Nat} {L:List Tok} {E:Int} {n:Nat} {l lf:List Tok} {y:G.Opd} (w:World) (h:RR a L E n l w) (hr:opsG E 1 l= .ok (y,lf)):
  Calls Tryz.prog 109 #[.pointer (some ⟨a,0,none⟩),.agg (bare8 1 id 0 ty (bs []) p)] w (ROut a L E n (fill (bare 1 id ty p) y) lf w):=by
 obtain⟨v,r,hv,h2⟩:=then_inv (show G.andThen (G.anyNum numF E l) (fun x=>G.done (x,[],[],[]))= .ok (y,lf) from hr)
 cases h2
 obtain⟨rfl,hn⟩:=anyNum_ok hv
 have hb:=L1.readNum_range (peek0 l)
 rw [show L1.readNum (peek0 l)=(v,0) from hn] at hb
 have HN:=hide hn
 have HB:=hide hb
 clear hr hv hn hb
 obtain⟨i0,hi0,hz0,hz1,hz2⟩:=info_parts Tryz.info3
 have M0:Hid (MidR w a (w.heap.size+1+1) (w.heap.size+1) L E n (1,id,0,ty,[],[],[],p) l (((w.alloc (.cells (bare8 1 id 0 ty (bs []) p) 47)).alloc (.cells (bare8 0 0 0 0 ⟨#[]⟩ 0) 47)).alloc (.cells (bare8 1 id 0 ty (bs []) p) 47))):=hide (MidR.start h 1 id 0 ty [] p)
 have HC0:=hide (start_cell w 1 id 0 ty (bs []) p)
 clear h
 generalize hg:w.heap.size+1=g at *
 generalize hc:g+1=c at *
 go_enter Tryz.func109,Tryz.ntmps109
 go_upto_region 2 with fail
 show Code.wp _ _ _ _ (((w.alloc (.cells (bare8 1 id 0 ty (bs []) p) 47)).alloc (.cells (bare8 0 0 0 0 ⟨#[]⟩ 0) 47)).alloc (.cells (bare8 1 id 0 ty (bs []) p) 47))
 generalize ((w.alloc (.cells (bare8 1 id 0 ty (bs []) p) 47)).alloc (.cells (bare8 0 0 0 0 ⟨#[]⟩ 0) 47)).alloc (.cells (bare8 1 id 0 ty (bs []) p) 47)=W0 at *
 clear hg hc
 obtain⟨x0,x1,x2,x3,x4,x5,x6,x7,xz,xl⟩:=eight_of HC0.out
 clear HC0
 have z2:=xz 2
 clear xz x0 x1 x2 x3 x4 x5 x6 x7 xl
 obtain⟨x0,x2⟩:W0.cell? ⟨c,0,none⟩=some (.int .i64 1)∧True:=by obtain⟨va,vt,HC,_⟩:=M0.out.2.1.cells;exact⟨HC 0 _ rfl,trivial⟩
 clear z2 x2
 go_wp2_with fail
 refine(rnumber (-9223372036854775808) 9223372036854775807 v _ M0.out.1 HN.out HB.out.1 HB.out.2).mono ?_;rintro e w1 ⟨rfl,a1⟩
 have M1:=hide (M0.out.ate a1)
 clear M0 a1 x0
 obtain⟨va,vt,HC,HZ4,o1,o2,o3⟩:=M1.out.2.1.cells
 have cA:=HC 2 _ rfl
 have zA:=HZ4 2
 have M2:Hid (MidR w a c g L E n (1,id,v,ty,[],[],[],p) l.tail (w1.setCell ⟨c,2,none⟩ (.int .i64 v))):=hide (M1.out.put (M1.out.2.1.setN v))
 clear HC HZ4 o1 o2 o3 M1
 go_upto_region 23 with fail
 show Code.wp _ _ _ _ (w1.setCell ⟨c,2,none⟩ (.int .i64 v))
 clear cA zA
 generalize w1.setCell ⟨c,2,none⟩ (.int .i64 v)=W1 at *
 clear va vt
 obtain⟨va',vt',HC,HZ4,o1,o2,o3⟩:=M2.out.2.1.cells
 obtain⟨aoA,mA,cA,rfl⟩:=own_slice o1
 obtain⟨aoT,mT,cT,rfl⟩:=own_slice o2
 have y0:=HC 0 _ rfl
 have y1:=HC 1 _ rfl
 have y2:=HC 2 _ rfl
 have y3:=HC 3 _ rfl
 have y4:=HC 4 _ rfl
 have y5:=HC 5 _ rfl
 have y6:=HC 6 _ rfl
 have y7:=HC 7 _ rfl
 have hS:=M2.out.2.2.1
 obtain⟨o3a,o3b⟩:=o3 g ⟨_,_,hS⟩
 have hS:=hide hS
 have o1:=hide o1
 have o2:=hide o2
 clear HC HZ4 o3
 obtain⟨s0,s1,s2,s3,s4,s5,s6,s7,f0,f1,f2,f3,f4,f5,f6,f7⟩:=res8 hS.out
 have hcn:c≠g:=fun e=>M2.out.2.2.2.2.2.2 e.symm
 have FF:=hide (((((((((Far.refl g W1).set 0 (.int .i64 1)).set 1 (.int .i64 id)).set 2 (.int .i64 v)).set 3 (.int .i64 ty)).set 4 (.slice aoA mA cA)).set 5 (.slice aoT mT cT)).set 6 (.string (bs []))).set 7 (.int .i64 p))
 have KK:=hide (FF.out.kr M2.out.2.2.2.1 M2.out.2.2.2.2.2.1)
 have QQ:=hide (FF.out.rr M2.out.1 hS.out (by decide) (by have:=M2.out.lt;omega))
 have OO:=hide (⟨FF.out.own o1.out o3a,FF.out.own o2.out o3b⟩:_∧_)
 go_wp2_with fail
 exact bodyPost_ret (v:= .agg (insCells (1,id,v,ty,[],[],[],p) (.slice aoA mA cA) (.slice aoT mT cT)).toArray) (by simp [results,Tryz.results109,go_sem,insCells,s0,s1,s2,s3,s4,s5,s6,s7]) rfl ⟨_,rfl,⟨_,_,rfl,OO.out.1,OO.out.2⟩,QQ.out,KK.out⟩
theorem rops_29 (id ty p:Int) {a:Nat} {L:List Tok} {E:Int} {n:Nat} {l lf:List Tok} {y:G.Opd} (w:World) (h:RR a L E n l w) (hr:opsG E 29 l= .ok (y,lf)):
  Calls Tryz.prog 109 #[.pointer (some ⟨a,0,none⟩),.agg (bare8 29 id 0 ty (bs []) p)] w (ROut a L E n (fill (bare 29 id ty p) y) lf w):=by
 obtain⟨v,r,hv,h2⟩:=then_inv (show G.andThen (G.number numF E 0 255 l) (fun x=>G.done (x,[],[],[]))= .ok (y,lf) from hr)
 cases h2
 obtain⟨rfl,hn,hb1,hb2⟩:=number_ok hv
 have HN:=hide hn
 have HB:=hide (And.intro hb1 hb2)
 clear hr hv hn hb1 hb2
 obtain⟨i0,hi0,hz0,hz1,hz2⟩:=info_parts Tryz.info3
 have M0:Hid (MidR w a (w.heap.size+1+1) (w.heap.size+1) L E n (29,id,0,ty,[],[],[],p) l (((w.alloc (.cells (bare8 29 id 0 ty (bs []) p) 47)).alloc (.cells (bare8 0 0 0 0 ⟨#[]⟩ 0) 47)).alloc (.cells (bare8 29 id 0 ty (bs []) p) 47))):=hide (MidR.start h 29 id 0 ty [] p)
 have HC0:=hide (start_cell w 29 id 0 ty (bs []) p)
 clear h
 generalize hg:w.heap.size+1=g at *
 generalize hc:g+1=c at *
 go_enter Tryz.func109,Tryz.ntmps109
 go_upto_region 2 with fail
 show Code.wp _ _ _ _ (((w.alloc (.cells (bare8 29 id 0 ty (bs []) p) 47)).alloc (.cells (bare8 0 0 0 0 ⟨#[]⟩ 0) 47)).alloc (.cells (bare8 29 id 0 ty (bs []) p) 47))
 generalize ((w.alloc (.cells (bare8 29 id 0 ty (bs []) p) 47)).alloc (.cells (bare8 0 0 0 0 ⟨#[]⟩ 0) 47)).alloc (.cells (bare8 29 id 0 ty (bs []) p) 47)=W0 at *
 clear hg hc
 obtain⟨x0,x1,x2,x3,x4,x5,x6,x7,xz,xl⟩:=eight_of HC0.out
 clear HC0
 have z2:=xz 2
 clear xz x0 x1 x2 x3 x4 x5 x6 x7 xl
 obtain⟨x0,x2⟩:W0.cell? ⟨c,0,none⟩=some (.int .i64 29)∧True:=by obtain⟨va,vt,HC,_⟩:=M0.out.2.1.cells;exact⟨HC 0 _ rfl,trivial⟩
 clear z2 x2
 go_wp2_with fail
 refine(rnumber 0 255 v _ M0.out.1 HN.out HB.out.1 HB.out.2).mono ?_;rintro e w1 ⟨rfl,a1⟩
 have M1:=hide (M0.out.ate a1)
 clear M0 a1 x0
 obtain⟨va,vt,HC,HZ4,o1,o2,o3⟩:=M1.out.2.1.cells
 have cA:=HC 2 _ rfl
 have zA:=HZ4 2
 have M2:Hid (MidR w a c g L E n (29,id,v,ty,[],[],[],p) l.tail (w1.setCell ⟨c,2,none⟩ (.int .i64 v))):=hide (M1.out.put (M1.out.2.1.setN v))
 clear HC HZ4 o1 o2 o3 M1
 go_upto_region 23 with fail
 show Code.wp _ _ _ _ (w1.setCell ⟨c,2,none⟩ (.int .i64 v))
 clear cA zA
 generalize w1.setCell ⟨c,2,none⟩ (.int .i64 v)=W1 at *
 clear va vt
 obtain⟨va',vt',HC,HZ4,o1,o2,o3⟩:=M2.out.2.1.cells
 obtain⟨aoA,mA,cA,rfl⟩:=own_slice o1
 obtain⟨aoT,mT,cT,rfl⟩:=own_slice o2
 have y0:=HC 0 _ rfl
 have y1:=HC 1 _ rfl
 have y2:=HC 2 _ rfl
 have y3:=HC 3 _ rfl
 have y4:=HC 4 _ rfl
 have y5:=HC 5 _ rfl
 have y6:=HC 6 _ rfl
 have y7:=HC 7 _ rfl
 have hS:=M2.out.2.2.1
 obtain⟨o3a,o3b⟩:=o3 g ⟨_,_,hS⟩
 have hS:=hide hS
 have o1:=hide o1
 have o2:=hide o2
 clear HC HZ4 o3
 obtain⟨s0,s1,s2,s3,s4,s5,s6,s7,f0,f1,f2,f3,f4,f5,f6,f7⟩:=res8 hS.out
 have hcn:c≠g:=fun e=>M2.out.2.2.2.2.2.2 e.symm
 have FF:=hide (((((((((Far.refl g W1).set 0 (.int .i64 29)).set 1 (.int .i64 id)).set 2 (.int .i64 v)).set 3 (.int .i64 ty)).set 4 (.slice aoA mA cA)).set 5 (.slice aoT mT cT)).set 6 (.string (bs []))).set 7 (.int .i64 p))
 have KK:=hide (FF.out.kr M2.out.2.2.2.1 M2.out.2.2.2.2.2.1)
 have QQ:=hide (FF.out.rr M2.out.1 hS.out (by decide) (by have:=M2.out.lt;omega))
 have OO:=hide (⟨FF.out.own o1.out o3a,FF.out.own o2.out o3b⟩:_∧_)
 go_wp2_with fail
 exact bodyPost_ret (v:= .agg (insCells (29,id,v,ty,[],[],[],p) (.slice aoA mA cA) (.slice aoT mT cT)).toArray) (by simp [results,Tryz.results109,go_sem,insCells,s0,s1,s2,s3,s4,s5,s6,s7]) rfl ⟨_,rfl,⟨_,_,rfl,OO.out.1,OO.out.2⟩,QQ.out,KK.out⟩
theorem rops_20 (id ty p:Int) {a:Nat} {L:List Tok} {E:Int} {n:Nat} {l lf:List Tok} {y:G.Opd} (w:World) (h:RR a L E n l w) (hr:opsG E 20 l= .ok (y,lf)):
  Calls Tryz.prog 109 #[.pointer (some ⟨a,0,none⟩),.agg (bare8 20 id 0 ty (bs []) p)] w (ROut a L E n (fill (bare 20 id ty p) y) lf w):=by
 obtain⟨x,r,hv,h2⟩:=then_inv (show G.andThen (G.phi idxF E l) (fun x=>G.done (0,x.2,x.1,[]))= .ok (y,lf) from hr)
 cases h2
 have HV:=hide hv
 clear hr hv
 obtain⟨i0,hi0,hz0,hz1,hz2⟩:=info_parts Tryz.info3
 have M0:Hid (MidR w a (w.heap.size+1+1) (w.heap.size+1) L E n (20,id,0,ty,[],[],[],p) l (((w.alloc (.cells (bare8 20 id 0 ty (bs []) p) 47)).alloc (.cells (bare8 0 0 0 0 ⟨#[]⟩ 0) 47)).alloc (.cells (bare8 20 id 0 ty (bs []) p) 47))):=hide (MidR.start h 20 id 0 ty [] p)
 have HC0:=hide (start_cell w 20 id 0 ty (bs []) p)
 clear h
 generalize hg:w.heap.size+1=g at *
 generalize hc:g+1=c at *
 go_enter Tryz.func109,Tryz.ntmps109
 go_upto_region 2 with fail
 show Code.wp _ _ _ _ (((w.alloc (.cells (bare8 20 id 0 ty (bs []) p) 47)).alloc (.cells (bare8 0 0 0 0 ⟨#[]⟩ 0) 47)).alloc (.cells (bare8 20 id 0 ty (bs []) p) 47))
 generalize ((w.alloc (.cells (bare8 20 id 0 ty (bs []) p) 47)).alloc (.cells (bare8 0 0 0 0 ⟨#[]⟩ 0) 47)).alloc (.cells (bare8 20 id 0 ty (bs []) p) 47)=W0 at *
 clear hg hc
 obtain⟨x0,x1,x2,x3,x4,x5,x6,x7,xz,xl⟩:=eight_of HC0.out
 clear HC0
 go_wp2_with fail
 refine(rphi 20 id 0 ty [] p _ M0.out.1 HV.out).mono ?_;rintro e w1 ⟨v,rfl,ho⟩
 have ho:=hide ho
 clear x0 x1 x2 x3 x4 x5 x6 x7 xz xl
 obtain⟨aoA,mA,cA,aoT,mT,cT,rfl,hS,hfin⟩:=fin_of M0.out ho.out
 obtain⟨s0,s1,s2,s3,s4,s5,s6,s7,f0,f1,f2,f3,f4,f5,f6,f7⟩:=res8 hS
 have FF:=hide (hfin _ (((((((((Far.refl g w1).set 0 (.int .i64 20)).set 1 (.int .i64 id)).set 2 (.int .i64 0)).set 3 (.int .i64 ty)).set 4 (.slice aoA mA cA)).set 5 (.slice aoT mT cT)).set 6 (.string (bs []))).set 7 (.int .i64 p)))
 clear hfin hS ho
 simp only [insCells] at *
 go_wp2_with fail
 exact bodyPost_ret (v:= .agg (insCells (20,id,0,ty,x.2,x.1,[],p) (.slice aoA mA cA) (.slice aoT mT cT)).toArray) (by simp [results,Tryz.results109,go_sem,insCells,s0,s1,s2,s3,s4,s5,s6,s7]) rfl ⟨_,rfl,⟨_,_,rfl,FF.out.1,FF.out.2.1⟩,FF.out.2.2.1,FF.out.2.2.2⟩
theorem rops_21 (id ty p:Int) {a:Nat} {L:List Tok} {E:Int} {n:Nat} {l lf:List Tok} {y:G.Opd} (w:World) (h:RR a L E n l w) (hr:opsG E 21 l= .ok (y,lf)):
  Calls Tryz.prog 109 #[.pointer (some ⟨a,0,none⟩),.agg (bare8 21 id 0 ty (bs []) p)] w (ROut a L E n (fill (bare 21 id ty p) y) lf w):=by
 obtain⟨N,r1,hv1,h2⟩:=then_inv (show G.andThen (G.spot idxF E l) (fun n r=>G.andThen (G.name namF E r) fun s r=>G.andThen (G.values idxF E r) fun a=>G.done (n,a,[],s))= .ok (y,lf) from hr)
 obtain⟨s,r2,hv2,h2⟩:=then_inv h2
 obtain⟨ar,r3,hv3,h2⟩:=then_inv h2
 cases h2
 have HV1:=hide hv1
 have HV2:=hide hv2
 have HV3:=hide hv3
 clear hr hv1 hv2 hv3
 obtain⟨i0,hi0,hz0,hz1,hz2⟩:=info_parts Tryz.info3
 have M0:Hid (MidR w a (w.heap.size+1+1) (w.heap.size+1) L E n (21,id,0,ty,[],[],[],p) l (((w.alloc (.cells (bare8 21 id 0 ty (bs []) p) 47)).alloc (.cells (bare8 0 0 0 0 ⟨#[]⟩ 0) 47)).alloc (.cells (bare8 21 id 0 ty (bs []) p) 47))):=hide (MidR.start h 21 id 0 ty [] p)
 have HC0:=hide (start_cell w 21 id 0 ty (bs []) p)
 clear h
 generalize hg:w.heap.size+1=g at *
 generalize hc:g+1=c at *
 go_enter Tryz.func109,Tryz.ntmps109
 go_upto_region 2 with fail
 show Code.wp _ _ _ _ (((w.alloc (.cells (bare8 21 id 0 ty (bs []) p) 47)).alloc (.cells (bare8 0 0 0 0 ⟨#[]⟩ 0) 47)).alloc (.cells (bare8 21 id 0 ty (bs []) p) 47))
 generalize ((w.alloc (.cells (bare8 21 id 0 ty (bs []) p) 47)).alloc (.cells (bare8 0 0 0 0 ⟨#[]⟩ 0) 47)).alloc (.cells (bare8 21 id 0 ty (bs []) p) 47)=W0 at *
 clear hg hc
 obtain⟨x0,x1,x2,x3,x4,x5,x6,x7,xz,xl⟩:=eight_of HC0.out
 clear HC0
 go_wp2_with fail
 refine(rcall 21 id ty N s p _ M0.out.1 HV1.out HV2.out HV3.out).mono ?_;rintro e w1 ⟨v,rfl,ho⟩
 have ho:=hide ho
 clear x0 x1 x2 x3 x4 x5 x6 x7 xz xl
 obtain⟨aoA,mA,cA,aoT,mT,cT,rfl,hS,hfin⟩:=fin_of M0.out ho.out
 obtain⟨s0,s1,s2,s3,s4,s5,s6,s7,f0,f1,f2,f3,f4,f5,f6,f7⟩:=res8 hS
 have FF:=hide (hfin _ (((((((((Far.refl g w1).set 0 (.int .i64 21)).set 1 (.int .i64 id)).set 2 (.int .i64 N)).set 3 (.int .i64 ty)).set 4 (.slice aoA mA cA)).set 5 (.slice aoT mT cT)).set 6 (.string (bs s))).set 7 (.int .i64 p)))
 clear hfin hS ho
 simp only [insCells] at *
 go_wp2_with fail
 exact bodyPost_ret (v:= .agg (insCells (21,id,N,ty,ar,[],s,p) (.slice aoA mA cA) (.slice aoT mT cT)).toArray) (by simp [results,Tryz.results109,go_sem,insCells,s0,s1,s2,s3,s4,s5,s6,s7]) rfl ⟨_,rfl,⟨_,_,rfl,FF.out.1,FF.out.2.1⟩,FF.out.2.2.1,FF.out.2.2.2⟩
theorem rops_28 (id ty p:Int) {a:Nat} {L:List Tok} {E:Int} {n:Nat} {l lf:List Tok} {y:G.Opd} (w:World) (h:RR a L E n l w) (hr:opsG E 28 l= .ok (y,lf)):
  Calls Tryz.prog 109 #[.pointer (some ⟨a,0,none⟩),.agg (bare8 28 id 0 ty (bs []) p)] w (ROut a L E n (fill (bare 28 id ty p) y) lf w):=by
 have HR0:Hid (G.ret1 idxF E l= .ok (y,lf)):=hide hr
 clear hr
 obtain⟨i0,hi0,hz0,hz1,hz2⟩:=info_parts Tryz.info3
 have M0:Hid (MidR w a (w.heap.size+1+1) (w.heap.size+1) L E n (28,id,0,ty,[],[],[],p) l (((w.alloc (.cells (bare8 28 id 0 ty (bs []) p) 47)).alloc (.cells (bare8 0 0 0 0 ⟨#[]⟩ 0) 47)).alloc (.cells (bare8 28 id 0 ty (bs []) p) 47))):=hide (MidR.start h 28 id 0 ty [] p)
 have HC0:=hide (start_cell w 28 id 0 ty (bs []) p)
 clear h
 generalize hg:w.heap.size+1=g at *
 generalize hc:g+1=c at *
 go_enter Tryz.func109,Tryz.ntmps109
 go_upto_region 2 with fail
 show Code.wp _ _ _ _ (((w.alloc (.cells (bare8 28 id 0 ty (bs []) p) 47)).alloc (.cells (bare8 0 0 0 0 ⟨#[]⟩ 0) 47)).alloc (.cells (bare8 28 id 0 ty (bs []) p) 47))
 generalize ((w.alloc (.cells (bare8 28 id 0 ty (bs []) p) 47)).alloc (.cells (bare8 0 0 0 0 ⟨#[]⟩ 0) 47)).alloc (.cells (bare8 28 id 0 ty (bs []) p) 47)=W0 at *
 clear hg hc
 obtain⟨x0,x1,x2,x3,x4,x5,x6,x7,xz,xl⟩:=eight_of HC0.out
 go_wp2_with fail
 refine(rtaken _ M0.out.1).mono ?_;rintro e w1 ⟨rfl,b1⟩
 have M1:=hide (M0.out.below b1)
 replace HC0:=hide ((b1.block c xl).trans HC0.out)
 clear M0 b1 x0 x1 x2 x3 x4 x5 x6 x7 xz xl
 obtain⟨x0,x1,x2,x3,x4,x5,x6,x7,xz,xl⟩:=eight_of HC0.out
 cases ht:G.taken l with
 |true=>
  obtain⟨v,r,hv,h2⟩:=then_inv (show G.andThen (G.value idxF E l) (fun v=>G.done (0,[v],[],[]))= .ok (y,lf) from by have:=HR0.out;unfold G.ret1 at this;rwa [if_pos ht] at this)
  cases h2
  have HR:Hid (restG E [118] (28,id,0,ty,[],[],[],p) l= .ok ((28,id,0,ty,[v],[],[],p),lf)):=hide ((then_go hv).trans rfl)
  clear hv ht HR0
  go_wp2_with fail
  refine(rrest [118] 28 id 0 ty [] p _ M1.out.1 (by simp) (by simp) HR.out).mono ?_;rintro e w2 ⟨v2,rfl,ho⟩
  have ho:=hide ho
  clear x0 x1 x2 x3 x4 x5 x6 x7 xz xl
  obtain⟨aoA,mA,cA,aoT,mT,cT,rfl,hS,hfin⟩:=fin_of M1.out ho.out
  obtain⟨s0,s1,s2,s3,s4,s5,s6,s7,f0,f1,f2,f3,f4,f5,f6,f7⟩:=res8 hS
  have FF:=hide (hfin _ (((((((((Far.refl g w2).set 0 (.int .i64 28)).set 1 (.int .i64 id)).set 2 (.int .i64 0)).set 3 (.int .i64 ty)).set 4 (.slice aoA mA cA)).set 5 (.slice aoT mT cT)).set 6 (.string (bs []))).set 7 (.int .i64 p)))
  clear hfin hS ho
  simp only [insCells] at *
  go_wp2_with fail
  exact bodyPost_ret (v:= .agg (insCells (28,id,0,ty,[v],[],[],p) (.slice aoA mA cA) (.slice aoT mT cT)).toArray) (by simp [results,Tryz.results109,go_sem,insCells,s0,s1,s2,s3,s4,s5,s6,s7]) rfl ⟨_,rfl,⟨_,_,rfl,FF.out.1,FF.out.2.1⟩,FF.out.2.2.1,FF.out.2.2.2⟩
 |false=>
  obtain⟨rfl,rfl⟩:y=(0,[],[],[])∧lf=l:=by have:=HR0.out;unfold G.ret1 at this;rw [if_neg (by simp [ht])] at this;cases this;exact⟨rfl,rfl⟩
  clear ht HR0 x0 x1 x2 x3 x4 x5 x6 x7 xz xl HC0
  obtain⟨va',vt',HC,HZ4,o1,o2,o3⟩:=M1.out.2.1.cells
  obtain⟨aoA,mA,cA,rfl⟩:=own_slice o1
  obtain⟨aoT,mT,cT,rfl⟩:=own_slice o2
  have y0:=HC 0 _ rfl
  have y1:=HC 1 _ rfl
  have y2:=HC 2 _ rfl
  have y3:=HC 3 _ rfl
  have y4:=HC 4 _ rfl
  have y5:=HC 5 _ rfl
  have y6:=HC 6 _ rfl
  have y7:=HC 7 _ rfl
  have hS:=M1.out.2.2.1
  obtain⟨o3a,o3b⟩:=o3 g ⟨_,_,hS⟩
  have hS:=hide hS
  have o1:=hide o1
  have o2:=hide o2
  clear HC HZ4 o3
  obtain⟨s0,s1,s2,s3,s4,s5,s6,s7,f0,f1,f2,f3,f4,f5,f6,f7⟩:=res8 hS.out
  have hcn:c≠g:=fun e=>M1.out.2.2.2.2.2.2 e.symm
  have FF:=hide (((((((((Far.refl g w1).set 0 (.int .i64 28)).set 1 (.int .i64 id)).set 2 (.int .i64 0)).set 3 (.int .i64 ty)).set 4 (.slice aoA mA cA)).set 5 (.slice aoT mT cT)).set 6 (.string (bs []))).set 7 (.int .i64 p))
  have KK:=hide (FF.out.kr M1.out.2.2.2.1 M1.out.2.2.2.2.2.1)
  have QQ:=hide (FF.out.rr M1.out.1 hS.out (by decide) (by have:=M1.out.lt;omega))
  have OO:=hide (⟨FF.out.own o1.out o3a,FF.out.own o2.out o3b⟩:_∧_)
  go_wp2_with fail
  exact bodyPost_ret (v:= .agg (insCells (28,id,0,ty,[],[],[],p) (.slice aoA mA cA) (.slice aoT mT cT)).toArray) (by simp [results,Tryz.results109,go_sem,insCells,s0,s1,s2,s3,s4,s5,s6,s7]) rfl ⟨_,rfl,⟨_,_,rfl,OO.out.1,OO.out.2⟩,QQ.out,KK.out⟩
theorem rops_10 (id ty p:Int) {a:Nat} {L:List Tok} {E:Int} {n:Nat} {l lf:List Tok} {y:G.Opd} (w:World) (h:RR a L E n l w) (hr:opsG E 10 l= .ok (y,lf)):
  Calls Tryz.prog 109 #[.pointer (some ⟨a,0,none⟩),.agg (bare8 10 id 0 ty (bs []) p)] w (ROut a L E n (fill (bare 10 id ty p) y) lf w):=by
 obtain⟨s,r,hv,h2⟩:=then_inv (show G.andThen (G.shaped shpF E l) (fun s=>G.done (0,[],[],s))= .ok (y,lf) from hr)
 cases h2
 obtain⟨hl,rfl,h3⟩:=G.one_ok (by simp [shp_nil]) hv
 obtain⟨rfl,h0⟩:s=peek0 l∧shpF (peek0 l)=0:=by
  by_cases hc:shpF (peek0 l)≠0
  ·simp only [if_pos hc] at h3;cases h3
  ·simp only [if_neg hc] at h3;cases h3;exact⟨rfl,Classical.byContradiction fun q=>hc q⟩
 obtain⟨sa,sb,hsh⟩:=shp_of (peek0 l)
 rw [h0] at hsh
 have hsz:(bs (peek0 l)).size≤maxLen:=by rw [bs_size];have:=h.short.1;unfold maxLen;omega
 have HSH:=hide hsh
 generalize hs:peek0 l=s at *
 have HPS:=hide hs
 clear hr hv h3 h0 hsh hs
 obtain⟨i0,hi0,hz0,hz1,hz2⟩:=info_parts Tryz.info3
 have M0:Hid (MidR w a (w.heap.size+1+1) (w.heap.size+1) L E n (10,id,0,ty,[],[],[],p) l (((w.alloc (.cells (bare8 10 id 0 ty (bs []) p) 47)).alloc (.cells (bare8 0 0 0 0 ⟨#[]⟩ 0) 47)).alloc (.cells (bare8 10 id 0 ty (bs []) p) 47))):=hide (MidR.start h 10 id 0 ty [] p)
 have HC0:=hide (start_cell w 10 id 0 ty (bs []) p)
 clear h
 generalize hg:w.heap.size+1=g at *
 generalize hc:g+1=c at *
 go_enter Tryz.func109,Tryz.ntmps109
 go_upto_region 2 with fail
 show Code.wp _ _ _ _ (((w.alloc (.cells (bare8 10 id 0 ty (bs []) p) 47)).alloc (.cells (bare8 0 0 0 0 ⟨#[]⟩ 0) 47)).alloc (.cells (bare8 10 id 0 ty (bs []) p) 47))
 generalize ((w.alloc (.cells (bare8 10 id 0 ty (bs []) p) 47)).alloc (.cells (bare8 0 0 0 0 ⟨#[]⟩ 0) 47)).alloc (.cells (bare8 10 id 0 ty (bs []) p) 47)=W0 at *
 clear hg hc
 obtain⟨x0,x1,x2,x3,x4,x5,x6,x7,xz,xl⟩:=eight_of HC0.out
 clear HC0
 clear x1 x2 x3 x4 x5 x6 x7 xz xl
 go_wp2_with fail
 refine(rpeek0 _ M0.out.1 HPS.out).mono ?_;rintro e w1 ⟨rfl,b1⟩
 have M1:=hide (M0.out.below b1)
 clear M0 b1 x0
 go_wp2_with fail
 refine(L3.refParse_all (bs s) w1).mono ?_;rintro e w2 ⟨rfl,b2⟩
 rw [HSH.out]
 have M2:=hide ((M1.out.below b2).below (below_box w2 (.cells #[.int .i64 sa,.int .i64 sb] 119)))
 clear M1 b2
 go_upto_region 11 with fail
 show Code.wp _ _ _ _ (w2.alloc (.cells #[.int .i64 sa,.int .i64 sb] 119))
 generalize w2.alloc (.cells #[.int .i64 sa,.int .i64 sb] 119)=W2 at *
 obtain⟨va,vt,HC,HZ4,o1,o2,o3⟩:=M2.out.2.1.cells
 have cA:=HC 6 _ rfl
 have zA:=HZ4 6
 have M3:Hid (MidR w a c g L E n (10,id,0,ty,[],[],s,p) l (W2.setCell ⟨c,6,none⟩ (.string (bs s)))):=hide (M2.out.put (M2.out.2.1.setName s))
 clear HC HZ4 o1 o2 o3 M2
 go_upto_region 15 with fail
 show Code.wp _ _ _ _ (W2.setCell ⟨c,6,none⟩ (.string (bs s)))
 clear cA zA va vt
 generalize W2.setCell ⟨c,6,none⟩ (.string (bs s))=W3 at *
 obtain⟨c1,z1,c4,hq⟩:=M3.out.1.at1
 have M4:=hide (M3.out.ate (ate_of M3.out.1 (Below.refl _ _) hl))
 clear c4 M3
 generalize L.length - l.length=q at *
 go_upto_region 23 with fail
 show Code.wp _ _ _ _ (W3.setCell ⟨a,1,none⟩ (.int .i64 ((q:Int)+1)))
 clear c1 z1
 generalize W3.setCell ⟨a,1,none⟩ (.int .i64 ((q:Int)+1))=W4 at *
 obtain⟨va',vt',HC,HZ4,o1,o2,o3⟩:=M4.out.2.1.cells
 obtain⟨aoA,mA,cA,rfl⟩:=own_slice o1
 obtain⟨aoT,mT,cT,rfl⟩:=own_slice o2
 have y0:=HC 0 _ rfl
 have y1:=HC 1 _ rfl
 have y2:=HC 2 _ rfl
 have y3:=HC 3 _ rfl
 have y4:=HC 4 _ rfl
 have y5:=HC 5 _ rfl
 have y6:=HC 6 _ rfl
 have y7:=HC 7 _ rfl
 have hS:=M4.out.2.2.1
 obtain⟨o3a,o3b⟩:=o3 g ⟨_,_,hS⟩
 have hS:=hide hS
 have o1:=hide o1
 have o2:=hide o2
 clear HC HZ4 o3
 obtain⟨s0,s1,s2,s3,s4,s5,s6,s7,f0,f1,f2,f3,f4,f5,f6,f7⟩:=res8 hS.out
 have hcn:c≠g:=fun e=>M4.out.2.2.2.2.2.2 e.symm
 have FF:=hide (((((((((Far.refl g W4).set 0 (.int .i64 10)).set 1 (.int .i64 id)).set 2 (.int .i64 0)).set 3 (.int .i64 ty)).set 4 (.slice aoA mA cA)).set 5 (.slice aoT mT cT)).set 6 (.string (bs s))).set 7 (.int .i64 p))
 have KK:=hide (FF.out.kr M4.out.2.2.2.1 M4.out.2.2.2.2.2.1)
 have QQ:=hide (FF.out.rr M4.out.1 hS.out (by decide) (by have:=M4.out.lt;omega))
 have OO:=hide (⟨FF.out.own o1.out o3a,FF.out.own o2.out o3b⟩:_∧_)
 go_wp2_with fail
 exact bodyPost_ret (v:= .agg (insCells (10,id,0,ty,[],[],s,p) (.slice aoA mA cA) (.slice aoT mT cT)).toArray) (by simp [results,Tryz.results109,go_sem,insCells,s0,s1,s2,s3,s4,s5,s6,s7]) rfl ⟨_,rfl,⟨_,_,rfl,OO.out.1,OO.out.2⟩,QQ.out,KK.out⟩
theorem rops_else (op id ty p:Int) {a:Nat} {L:List Tok} {E:Int} {n:Nat} {l lf:List Tok} {y:G.Opd} (w:World) (h:RR a L E n l w) (g1:¬op=1) (g29:¬op=29) (g10:¬op=10) (g20:¬op=20) (g21:¬op=21) (g28:¬op=28) (hr:opsG E op l= .ok (y,lf)):
  Calls Tryz.prog 109 #[.pointer (some ⟨a,0,none⟩),.agg (bare8 op id 0 ty (bs []) p)] w (ROut a L E n (fill (bare op id ty p) y) lf w):=by
 obtain⟨N,ar,tt,nm⟩:=y
 have HR:Hid (restG E (letG op) (op,id,0,ty,[],[],[],p) l= .ok ((op,id,N,ty,ar,tt,nm,p),lf)):=hide (rest_any g1 g29 g10 g20 g21 g28 hr)
 have LI:=hide (let_in op)
 have k1:(op == 1)=false:=by simpa using g1
 have k29:(op == 29)=false:=by simpa using g29
 have k10:(op == 10)=false:=by simpa using g10
 have k20:(op == 20)=false:=by simpa using g20
 have k21:(op == 21)=false:=by simpa using g21
 have k28:(op == 28)=false:=by simpa using g28
 clear hr g1 g29 g10 g20 g21 g28
 obtain⟨i0,hi0,hz0,hz1,hz2⟩:=info_parts Tryz.info3
 have M0:Hid (MidR w a (w.heap.size+1+1) (w.heap.size+1) L E n (op,id,0,ty,[],[],[],p) l (((w.alloc (.cells (bare8 op id 0 ty (bs []) p) 47)).alloc (.cells (bare8 0 0 0 0 ⟨#[]⟩ 0) 47)).alloc (.cells (bare8 op id 0 ty (bs []) p) 47))):=hide (MidR.start h op id 0 ty [] p)
 have HC0:=hide (start_cell w op id 0 ty (bs []) p)
 clear h
 generalize hg:w.heap.size+1=g at *
 generalize hc:g+1=c at *
 go_enter Tryz.func109,Tryz.ntmps109
 go_upto_region 2 with fail
 show Code.wp _ _ _ _ (((w.alloc (.cells (bare8 op id 0 ty (bs []) p) 47)).alloc (.cells (bare8 0 0 0 0 ⟨#[]⟩ 0) 47)).alloc (.cells (bare8 op id 0 ty (bs []) p) 47))
 generalize ((w.alloc (.cells (bare8 op id 0 ty (bs []) p) 47)).alloc (.cells (bare8 0 0 0 0 ⟨#[]⟩ 0) 47)).alloc (.cells (bare8 op id 0 ty (bs []) p) 47)=W0 at *
 clear hg hc
 obtain⟨x0,x1,x2,x3,x4,x5,x6,x7,xz,xl⟩:=eight_of HC0.out
 go_wp2_with fail
 clear k1 k29 k10 k20 k21 k28
 go_region_with ((first
  |(go_at_call 139;refine(rletters op _).mono ?_;rintro e w1 ⟨rfl,b1⟩;have M1:=hide (M0.out.below (Below.undrew (w:=W0) b1));obtain⟨y0,y1,y2,y3,y4,y5,y6,y7,yz,yl⟩:=eight_of (((Below.undrew (w:=W0) b1).block c xl).trans HC0.out))
  |(go_at_call 138;refine(rrest (letG op) op id 0 ty [] p _ M1.out.1 LI.out.1 LI.out.2 HR.out).mono ?_;rintro e w2 ⟨v2,rfl,ho⟩;have ho:=hide ho;obtain⟨aoA,mA,cA,aoT,mT,cT,rfl,hS,hfin⟩:=fin_of M1.out ho.out;obtain⟨s0,s1,s2,s3,s4,s5,s6,s7,f0,f1,f2,f3,f4,f5,f6,f7⟩:=res8 hS;simp only [insCells])))
 all_goals
  have FF:=hide (hfin _ (((((((((Far.refl g w2).set 0 (.int .i64 op)).set 1 (.int .i64 id)).set 2 (.int .i64 N)).set 3 (.int .i64 ty)).set 4 (.slice aoA mA cA)).set 5 (.slice aoT mT cT)).set 6 (.string (bs nm))).set 7 (.int .i64 p)))
  go_wp2_with fail
  exact bodyPost_ret (v:= .agg (insCells (op,id,N,ty,ar,tt,nm,p) (.slice aoA mA cA) (.slice aoT mT cT)).toArray) (by simp [results,Tryz.results109,go_sem,insCells,s0,s1,s2,s3,s4,s5,s6,s7]) rfl ⟨_,rfl,⟨_,_,rfl,FF.out.1,FF.out.2.1⟩,FF.out.2.2.1,FF.out.2.2.2⟩
theorem roperands (op id ty p:Int) {a:Nat} {L:List Tok} {E:Int} {n:Nat} {l lf:List Tok} {y:G.Opd} (w:World) (h:RR a L E n l w) (hr:opsG E op l= .ok (y,lf)):
  Calls Tryz.prog 109 #[.pointer (some ⟨a,0,none⟩),.agg (bare8 op id 0 ty (bs []) p)] w (ROut a L E n (fill (bare op id ty p) y) lf w):=by
 by_cases g1:op=1
 ·subst g1;exact rops_1 id ty p w h hr
 by_cases g29:op=29
 ·subst g29;exact rops_29 id ty p w h hr
 by_cases g10:op=10
 ·subst g10;exact rops_10 id ty p w h hr
 by_cases g20:op=20
 ·subst g20;exact rops_20 id ty p w h hr
 by_cases g21:op=21
 ·subst g21;exact rops_21 id ty p w h hr
 by_cases g28:op=28
 ·subst g28;exact rops_28 id ty p w h hr
 exact rops_else op id ty p w h g1 g29 g10 g20 g21 g28 hr
end Go.Proofs.YtljkgcfnoegibaaGreatDoor
