/- Texts of one chain, joined. -/
import Derived.Test.YtaiaakklokahjaaGreatDoorZWaAG
set_option maxHeartbeats 8000000
set_option maxRecDepth 20000
namespace Go.Proofs.YtaiaakklokahjaaGreatDoor
open Go Go.RowKit
open G (Tok Er Ins Fun ah bk fk)
def bN (w:World) (a c g:Nat) (L:List Tok) (E:Int) (n:Nat) (x:Ins) (l:List Tok) (wk:World):Prop:=
 RR a L E n l wk∧cQ w.heap.size c x wk∧wk.heap[g]? =some (.cells #[.int .i64 0,.int .i64 0,.int .i64 0,.int .i64 0,.slice none 0 0,.slice none 0 0,.string ⟨#[]⟩,.int .i64 0] 41 (0,0))∧Kr a w wk∧a < w.heap.size∧w.heap.size≤g∧g≠c
section
variable {w:World} {a c g:Nat} {L:List Tok} {E:Int} {n:Nat} {x:Ins} {l:List Tok} {wk:World}
theorem bN.lt (h:bN w a c g L E n x l wk):a < w.heap.size∧w.heap.size≤g∧w.heap.size≤c∧c < wk.heap.size∧g < wk.heap.size∧g≠c∧w.heap.size≤wk.heap.size:=by
 obtain⟨h1,h2,h3,h4,h5,h6,h7⟩:=h;exact⟨h5,h6,h2.lt.2,h2.lt.1,(Array.getElem?_eq_some_iff.1 h3).1,h7,h4.size⟩
theorem bN.below {wk':World} (h:bN w a c g L E n x l wk) (b:Below wk.heap.size wk wk'):bN w a c g L E n x l wk':=by
 have hl:=h.lt;obtain⟨h1,h2,h3,h4,h5,h6,h7⟩:=h;exact⟨h1.below b,h2.step b,(b.block g (by omega)).trans h3,h4.step b,h5,h6,h7⟩
theorem bN.ate {l':List Tok} {wk':World} (h:bN w a c g L E n x l wk) (b:Ate a L E n l' wk wk'):bN w a c g L E n x l' wk':=by
 have hl:=h.lt;obtain⟨h1,h2,h3,h4,h5,h6,h7⟩:=h;exact⟨b.1,h2.keep fun k k1 k2=>b.2.2.2.2.2 k k2 (by omega),(b.2.2.2.2.2 g (by omega) (by omega)).trans h3,h4.trans b.2,h5,h6,h7⟩
theorem RR.set {p:Nat} (h:RR a L E n l wk) {cs:Array Value} {t:TypeId} {fz:Nat × Nat} (hp:wk.heap[p]? =some (.cells cs t fz)) (ht:t≠173) (hpa:p≠a) (i:Nat) (v:Value):RR a L E n l (wk.setCell ⟨p,i,none⟩ v):=by
 obtain⟨u,h1,h2,h3⟩:=h;exact⟨u,(Below.heap_setCell _ _ _ _ (fun e=>hpa e.symm)).trans h1,bI h2 (bp h2 hp ht) _,h3⟩
theorem RR.grown {w3:World} {row:Value} {B m:Nat} {ys:List Value} {e' s':Nat} (h:RR a L E n l wk) (hg:wk.grownBy w3 row.ownBlock) (hr:wk.ownsRow B e' s' row m ys) (he:173≠e') (hB:a < B):RR a L E n l w3:=by
 have hlt:=h.lt;obtain⟨u,h1,h2,h3⟩:=h;exact⟨u,(hg.block a hlt (fun e=>by have:=(hr.lt a e.symm).1;omega)).trans h1,eP hg hr he _ _ _ h2,h3⟩
theorem Kr.grown {w3:World} {row:Option Nat} (h:Kr a w wk) (hg:wk.grownBy w3 row) (hr:∀q,row=some q→w.heap.size≤q):Kr a w w3:=
 ⟨hg.os.trans h.1,hg.tape.trans h.2.1,hg.output.trans h.2.2.1,Nat.le_trans h.size hg.size,fun k k1 k2=>(hg.block k (Nat.lt_of_lt_of_le k1 h.size) (fun e=>by have:=hr k e.symm;omega)).trans (h.2.2.2.2 k k1 k2)⟩
theorem bN.put {y:Ins} {i:Nat} {v:Value} (h:bN w a c g L E n x l wk) (hy:cQ w.heap.size c y (wk.setCell ⟨c,i,none⟩ v)):bN w a c g L E n y l (wk.setCell ⟨c,i,none⟩ v):=by
 have hl:=h.lt;obtain⟨h1,h2,h3,h4,h5,h6,h7⟩:=h;have hc:∃cs,wk.heap[c]? =some (.cells cs 41 (0,0)):=by obtain⟨va,vt,k1,_⟩:=h2;exact⟨_,k1⟩
 obtain⟨cs,hc⟩:=hc;refine⟨h1.set hc (by decide) (by omega) i v,hy,(Below.heap_setCell _ _ _ _ (fun e=>h7 e)).trans h3,?_,h5,h6,h7⟩;have hb:=(Below.refl 0 wk).setCell (p:=⟨c,i,none⟩) (Nat.zero_le c) v;exact⟨hb.os.trans h4.1,hb.tape.trans h4.2.1,hb.output.trans h4.2.2.1,Nat.le_trans h4.size hb.size,fun k k1 k2=>(Below.heap_setCell wk ⟨c,i,none⟩ v k (by show k≠c;omega)).trans (h4.2.2.2.2 k k1 k2)⟩
theorem bN.grown {w3:World} {row:Value} {m:Nat} {ys:List Value} (h:bN w a c g L E n x l wk) (hg:wk.grownBy w3 row.ownBlock) (hr:wk.ownsRow w.heap.size 3 1 row m ys):RR a L E n l w3∧w3.heap[g]? =some (.cells #[.int .i64 0,.int .i64 0,.int .i64 0,.int .i64 0,.slice none 0 0,.slice none 0 0,.string ⟨#[]⟩,.int .i64 0] 41 (0,0))∧Kr a w w3:=by
 have hl:=h.lt;obtain⟨h1,h2,h3,h4,h5,h6,h7⟩:=h;exact⟨h1.grown hg hr (by decide) h5,(hg.block g (by omega) (fun e=>bp hr h3 (by decide) e.symm)).trans h3,h4.grown hg fun q hq=>(hr.lt q hq).1⟩
theorem bN.arg {gg cap:Nat} {k:Int} {va:Value} {w3:World} (h:bN w a c g L E n x l wk) (hc:wk.cell? ⟨c,4,none⟩=some va)
  (hown:w3.ownsRow w.heap.size 3 1 (.slice (some ⟨gg,0,none⟩) (x.2.2.2.2.1.length+1) cap) (x.2.2.2.2.1.length+1) (ints x.2.2.2.2.1 ++ [.int .i64 k])) (hg:wk.grownBy w3 va.ownBlock) (hat:va.ownBlock=some gg∨gg=wk.heap.size):
  bN w a c g L E n (addArg x k) l (w3.setCell ⟨c,4,none⟩ (.slice (some ⟨gg,0,none⟩) (x.2.2.2.2.1.length+1) cap)):=by
 have hl:=h.lt;have hi:=h.2.1.arg hc hown hg hat;obtain⟨va',vt,k1,k2,k3,k4,k5⟩:=h.2.1;have e:va'=va:=by
  have:wk.cell? ⟨c,4,none⟩=some va':=by simp [World.cell?,k1,ak]
  rw [hc] at this;exact(Option.some.inj this).symm
 subst e;obtain⟨r1,r2,r3⟩:=h.grown hg k2;have k1':w3.heap[c]? =some (.cells (ak x va' vt).toArray 41 (0,0)):=(hg.block c hl.2.2.2.1 (fun e=>bp k2 k1 (by decide) e.symm)).trans k1;refine⟨r1.set k1' (by decide) (by omega) 4 _,hi,(Below.heap_setCell _ _ _ _ (fun e=>h.2.2.2.2.2.2 e)).trans r2,?_,h.2.2.2.2.1,h.2.2.2.2.2.1,h.2.2.2.2.2.2⟩;have hb:=(Below.refl 0 w3).setCell (p:=⟨c,4,none⟩) (Nat.zero_le c) (.slice (some ⟨gg,0,none⟩) (x.2.2.2.2.1.length+1) cap);exact⟨hb.os.trans r3.1,hb.tape.trans r3.2.1,hb.output.trans r3.2.2.1,Nat.le_trans r3.size hb.size,fun k k1 k2=>(Below.heap_setCell w3 ⟨c,4,none⟩ _ k (by show k≠c;omega)).trans (r3.2.2.2.2 k k1 k2)⟩
theorem bN.to {gg cap:Nat} {k:Int} {vt:Value} {w3:World} (h:bN w a c g L E n x l wk) (hc:wk.cell? ⟨c,5,none⟩=some vt)
  (hown:w3.ownsRow w.heap.size 3 1 (.slice (some ⟨gg,0,none⟩) (x.2.2.2.2.2.1.length+1) cap) (x.2.2.2.2.2.1.length+1) (ints x.2.2.2.2.2.1 ++ [.int .i64 k])) (hg:wk.grownBy w3 vt.ownBlock) (hat:vt.ownBlock=some gg∨gg=wk.heap.size):
  bN w a c g L E n (eF x k) l (w3.setCell ⟨c,5,none⟩ (.slice (some ⟨gg,0,none⟩) (x.2.2.2.2.2.1.length+1) cap)):=by
 have hl:=h.lt;have hi:=h.2.1.to hc hown hg hat;obtain⟨va,vt',k1,k2,k3,k4,k5⟩:=h.2.1;have e:vt'=vt:=by
  have:wk.cell? ⟨c,5,none⟩=some vt':=by simp [World.cell?,k1,ak]
  rw [hc] at this;exact(Option.some.inj this).symm
 subst e;obtain⟨r1,r2,r3⟩:=h.grown hg k3;have k1':w3.heap[c]? =some (.cells (ak x va vt').toArray 41 (0,0)):=(hg.block c hl.2.2.2.1 (fun e=>bp k3 k1 (by decide) e.symm)).trans k1;refine⟨r1.set k1' (by decide) (by omega) 5 _,hi,(Below.heap_setCell _ _ _ _ (fun e=>h.2.2.2.2.2.2 e)).trans r2,?_,h.2.2.2.2.1,h.2.2.2.2.2.1,h.2.2.2.2.2.2⟩;have hb:=(Below.refl 0 w3).setCell (p:=⟨c,5,none⟩) (Nat.zero_le c) (.slice (some ⟨gg,0,none⟩) (x.2.2.2.2.2.1.length+1) cap);exact⟨hb.os.trans r3.1,hb.tape.trans r3.2.1,hb.output.trans r3.2.2.1,Nat.le_trans r3.size hb.size,fun k k1 k2=>(Below.heap_setCell w3 ⟨c,5,none⟩ _ k (by show k≠c;omega)).trans (r3.2.2.2.2 k k1 k2)⟩
end
abbrev al (op id nn ty:Int) (nm:ByteArray) (p:Int):Array Value:= #[.int .i64 op,.int .i64 id,.int .i64 nn,.int .i64 ty,.slice none 0 0,.slice none 0 0,.string nm,.int .i64 p]
theorem bN.start {w:World} {a:Nat} {L:List Tok} {E:Int} {n:Nat} {l:List Tok} (h:RR a L E n l w) (op id nn ty:Int) (nm:List UInt8) (p:Int):
  bN w a (w.heap.size+2) (w.heap.size+1) L E n (op,id,nn,ty,[],[],nm,p) l (((w.alloc (.cells (al op id nn ty (bs nm) p) 41)).alloc (.cells (al 0 0 0 0 ⟨#[]⟩ 0) 41)).alloc (.cells (al op id nn ty (bs nm) p) 41)):=by
 have b1:=af w (.cells (al op id nn ty (bs nm) p) 41);have b2:=af (w.alloc (.cells (al op id nn ty (bs nm) p) 41)) (.cells (al 0 0 0 0 ⟨#[]⟩ 0) 41);have b3:=af ((w.alloc (.cells (al op id nn ty (bs nm) p) 41)).alloc (.cells (al 0 0 0 0 ⟨#[]⟩ 0) 41)) (.cells (al op id nn ty (bs nm) p) 41);have s1:(w.alloc (.cells (al op id nn ty (bs nm) p) 41)).heap.size=w.heap.size+1:=by simp
 have s2:((w.alloc (.cells (al op id nn ty (bs nm) p) 41)).alloc (.cells (al 0 0 0 0 ⟨#[]⟩ 0) 41)).heap.size=w.heap.size+2:=by simp
 refine⟨((h.below b1).below b2).below b3,⟨.slice none 0 0,.slice none 0 0,?_,World.ownsRow_nil _ _ _ _,World.ownsRow_nil _ _ _ _,.inl rfl,by omega⟩,?_,Kr.br (ae (ae b1 b2) b3),h.lt,by omega,by omega⟩
 ·rw [←s2];exact heap_alloc_new _ _
 ·refine(b3.block (w.heap.size+1) (by rw [s2];omega)).trans ?_;rw [←s1];exact heap_alloc_new _ _
def mH (a:Nat) (L:List Tok) (E:Int) (n:Nat) (y:Ins) (l':List Tok) (w:World) (e:Ending) (w':World):Prop:=
 ∃v,e= .returned v∧sH w.heap.size y v w'∧RR a L E n l' w'∧Kr a w w'
theorem ax {α β:Type} {X:Except Er (α × List Tok)} {f:α→G.Rd β} {p:β × List Tok} (h:G.andThen X f= .ok p):∃v r,X= .ok (v,r)∧f v r= .ok p:=by
 cases X with
 |error e=>cases h
 |ok q=>exact⟨q.1,q.2,rfl,h⟩
theorem Far.kr {q a:Nat} {u w wk:World} (h:Far q wk w) (hk:Kr a u wk) (hq:u.heap.size≤q):Kr a u w:=
 ⟨h.1.trans hk.1,h.2.1.trans hk.2.1,h.2.2.1.trans hk.2.2.1,by rw [h.2.2.2.1];exact hk.size,fun k k1 k2=>(h.2.2.2.2 k (by omega)).trans (hk.2.2.2.2 k k1 k2)⟩
theorem Far.rr {q a:Nat} {L:List Tok} {E:Int} {n:Nat} {l:List Tok} {u w:World} (h:Far q u w) (hr:RR a L E n l u) {cs:Array Value} {t:TypeId} {fz:Nat × Nat} (hq:u.heap[q]? =some (.cells cs t fz)) (ht:t≠173) (hqa:q≠a):RR a L E n l w:=by
 obtain⟨v,h1,h2,h3⟩:=hr;exact⟨v,(h.2.2.2.2 a (fun e=>hqa e.symm)).trans h1,h.own h2 (bp h2 hq ht),h3⟩
theorem RR.bt {a:Nat} {L:List Tok} {E:Int} {n:Nat} {l:List Tok} {w:World} (h:RR a L E n l w):YtaiaakklokahjaaGreatDoor.bt a w=L.length - l.length:=by
 obtain⟨c1,_⟩:=h.at1;unfold YtaiaakklokahjaaGreatDoor.bt;rw [c1];simp [intOf]
theorem RR.len {a:Nat} {L:List Tok} {E:Int} {n:Nat} {l:List Tok} {w:World} (h:RR a L E n l w):l.length≤L.length∧L.length≤131072:=by
 obtain⟨v,h1,h2,h5,h6,h7⟩:=h;exact⟨h5.length_le,h6.1⟩
theorem Ma (op id nn ty:Int) (nm:List UInt8) (p:Int) {a:Nat} {L:List Tok} {E:Int} {n:Nat} {l lf:List Tok} {args to:List Int} (w:World) (h:RR a L E n l w) (hr:G.phi aF E l= .ok ((to,args),lf)):
  Calls Tryz.prog 185 #[.pointer (some ⟨a,0,none⟩),.agg (al op id nn ty (bs nm) p)] w (mH a L E n (op,id,nn,ty,args,to,nm,p) lf w):=by
 obtain⟨i0,hi0,hz0,hz1,hz2⟩:=info_parts Tryz.cU;have M0:Hid (bN w a (w.heap.size+1+1) (w.heap.size+1) L E n (op,id,nn,ty,[],[],nm,p) l (((w.alloc (.cells (al op id nn ty (bs nm) p) 41)).alloc (.cells (al 0 0 0 0 ⟨#[]⟩ 0) 41)).alloc (.cells (al op id nn ty (bs nm) p) 41))):=aa (bN.start h op id nn ty nm p);have HR:Hid (G.km aF E (l.length+1) [] [] l= .ok ((to,args),lf)):=aa hr;have hLl:=h.len;clear hr;clear h;generalize hg:w.heap.size+1=g at *;generalize hc:g+1=c at *;go_enter Tryz.func185,Tryz.ntmps185
 go_upto_region 2 with fail
 show Code.wp _ _ _ _ (((w.alloc (.cells (al op id nn ty (bs nm) p) 41)).alloc (.cells (al 0 0 0 0 ⟨#[]⟩ 0) 41)).alloc (.cells (al op id nn ty (bs nm) p) 41));generalize ((w.alloc (.cells (al op id nn ty (bs nm) p) 41)).alloc (.cells (al 0 0 0 0 ⟨#[]⟩ 0) 41)).alloc (.cells (al op id nn ty (bs nm) p) 41)=W0 at *;clear hg hc;go_wp2_with fail
 go_loopw [] (fun wr=>∃(f:Nat) (ar tt:List Int) (l':List Tok),Hid (bN w a c g L E n (op,id,nn,ty,ar,tt,nm,p) l' wr)∧l'.length < f∧tt.length+l'.length≤L.length∧ar.length+l'.length≤L.length∧Hid (G.km aF E f tt ar l'= .ok ((to,args),lf))) (fun wr=>L.length - bt a wr)
 case atStart=>exact⟨l.length+1,[],[],l,M0,by omega,by simp;omega,by simp;omega,HR⟩
 case round=>
  obtain⟨f,ar,tt,l',M,hf,hT,hA,HR'⟩:=hrel;have hra:=M.out.1.bt;have hll:=M.out.1.len;obtain⟨f,rfl⟩:∃q,f=q+1:=⟨f - 1,by omega⟩;obtain⟨va0,vt0,HC0,HZ0,o10,o20,o30⟩:=M.out.2.1.cells;obtain⟨ao0,cp0,rfl⟩:=aI o20;have q5:wr.cell? ⟨c,5,none⟩=some (.slice ao0 tt.length cp0):=HC0 5 _ rfl;have q4:=M.out.1.at1.2.2.1;clear HC0 HZ0 o10 o20 o30;by_cases hgo:tt= []∨G.bZ l'=true
  ·obtain⟨b,l2,hb,hr2⟩:=ax (show G.andThen (G.label aF E l') (fun b r=>G.andThen (G.value aF E r) fun v=>G.km aF E f (tt ++ [b]) (ar ++ [v]))= .ok ((to,args),lf) from by have:=HR'.out;unfold G.km at this;rwa [if_pos hgo] at this);obtain⟨v,l3,hv,hr3⟩:=ax hr2;have e2:=(G.gZ hb).1;have e2':=(G.gZ hb).2.1;have e3:=(G.bW hv).1;have e3':=(G.bW hv).2.1;have hl23:l3.length+2≤l'.length:=by
    have:=bQ e2;have:=bQ e3;rw [e3',←e2'] at *;rw [←e2'] at *;omega
   have HB:=aa hb;have HV:=aa hv;have HR3:=aa hr3;clear hb hr2 hv hr3 e2 e2' e3 e3' HR';by_cases ht0:tt= []
   ·have hto:((tt.length:Int) == 0)=true:=(by rw [ht0];rfl);have M5:=M;clear hgo M;go_wp2_with fail
    clear ht0 hto q4 q5;refine(wa _ M5.out.1 HB.out).mono ?_;rintro e w2 ⟨rfl,a2⟩;have M1:=aa (M5.out.ate a2);clear M5 a2;go_wp2_with fail
    refine(rvalue _ M1.out.1 HV.out).mono ?_;rintro e w3 ⟨rfl,a3⟩;have M2:=aa (M1.out.ate a3);clear M1 a3;obtain⟨va,vt,HC,HZ4,o1,o2,o3⟩:=M2.out.2.1.cells;have hcl7:=M2.out.lt;have cA:=HC 5 _ rfl;have zA:=HZ4 5;have hne:vt.ownBlock≠some c:=(o3 c (by obtain⟨ua,ut,q1,_⟩:=M2.out.2.1;exact⟨_,_,q1⟩)).2;obtain⟨ao7,cp7,rfl⟩:=aI o2;have O7:=aa o2;obtain⟨cB,zB⟩:=Cel.below (af w3 (.cells #[.int .i64 b] 3)) hcl7.2.2.2.1 cA zA;clear HC HZ4 o1 o2 o3;have t27:tt.length+1≤maxLen:=(by unfold maxLen;omega);have t37:(tt.length+1) * 8≤140737488355328:=(by omega);have t47:w.heap.size≤(w3.alloc (.cells #[.int .i64 b] 3)).heap.size:=(by simp;omega);have t57:c < (w3.alloc (.cells #[.int .i64 b] 3)).heap.size:=(by simp;omega);go_upto_region 6 with (at_builtin;refine wpList_append_lies _ rfl (.tmp 30) (.tmp 32) 26 rfl w.heap.size 3 i0 _ 1 8 Tryz.underlying26 hi0 hz0 hz1 hz2 rfl (by decide) _ _ _ rfl (O7.out.alloc _) ⟨w3.heap.size,0,none⟩ 1 1 [.int .i64 b] rfl rfl one_cell one_one (by decide) t27 t37 t47 (w3.heap.size+1) (by simp) ?_;intro gg7 cap7 w7 hown7 hgrow7 hat7 hlt7;obtain⟨cC7,zC7⟩:=Cel.grown hgrow7 t57 hne cB zB)
    have M3:=aa ((M2.out.below (af w3 (.cells #[.int .i64 b] 3))).to cB hown7 hgrow7 (hat7.imp (fun e=>e) (fun e=>e.trans (by simp))));show Code.wp _ _ _ _ (w7.setCell ⟨c,5,none⟩ (.slice (some ⟨gg7,0,none⟩) (tt.length+1) cap7));have M3:Hid (bN w a c g L E n (op,id,nn,ty,ar,tt ++ [b],nm,p) l3 (w7.setCell ⟨c,5,none⟩ (.slice (some ⟨gg7,0,none⟩) (tt.length+1) cap7))):=M3;clear cC7 zC7 hown7 hgrow7 hat7 hlt7 O7 cA zA cB zB hne t27 t37 t47 t57 hcl7 M2;generalize w7.setCell ⟨c,5,none⟩ (.slice (some ⟨gg7,0,none⟩) (tt.length+1) cap7)=W7 at *;clear va;obtain⟨va,vt,HC,HZ4,o1,o2,o3⟩:=M3.out.2.1.cells;have hcl8:=M3.out.lt;have cA:=HC 4 _ rfl;have zA:=HZ4 4;have hne:va.ownBlock≠some c:=(o3 c (by obtain⟨ua,ut,q1,_⟩:=M3.out.2.1;exact⟨_,_,q1⟩)).1;obtain⟨ao8,cp8,rfl⟩:=aI o1;have O8:=aa o1;obtain⟨cB,zB⟩:=Cel.below (af W7 (.cells #[.int .i64 v] 3)) hcl8.2.2.2.1 cA zA;clear HC HZ4 o1 o2 o3;have t28:ar.length+1≤maxLen:=(by unfold maxLen;omega);have t38:(ar.length+1) * 8≤140737488355328:=(by omega);have t48:w.heap.size≤(W7.alloc (.cells #[.int .i64 v] 3)).heap.size:=(by simp;omega);have t58:c < (W7.alloc (.cells #[.int .i64 v] 3)).heap.size:=(by simp;omega);go_wp2_with (at_builtin;refine wpList_append_lies _ rfl (.tmp 36) (.tmp 38) 26 rfl w.heap.size 3 i0 _ 1 8 Tryz.underlying26 hi0 hz0 hz1 hz2 rfl (by decide) _ _ _ rfl (O8.out.alloc _) ⟨W7.heap.size,0,none⟩ 1 1 [.int .i64 v] rfl rfl one_cell one_one (by decide) t28 t38 t48 (W7.heap.size+1) (by simp) ?_;intro gg8 cap8 w8 hown8 hgrow8 hat8 hlt8;obtain⟨cC8,zC8⟩:=Cel.grown hgrow8 t58 hne cB zB)
    have M4:=aa ((M3.out.below (af W7 (.cells #[.int .i64 v] 3))).arg cB hown8 hgrow8 (hat8.imp (fun e=>e) (fun e=>e.trans (by simp))));have hra4:=M4.out.1.bt;have hll4:=M4.out.1.len;go_roundw
    case rel=>exact⟨f,ar ++ [v],tt ++ [b],l3,M4,by omega,by simp;omega,by simp;omega,HR3⟩
    case measure=>rw [hra,hra4];omega
   ·have hto:((tt.length:Int) == 0)=false:=by cases tt with
     |nil=>exact absurd rfl ht0
     |cons x y=>simp;omega
    have HP0:=aa (hgo.resolve_left ht0);clear hgo ht0;go_wp2_with fail
    refine(yJ _ M.out.1).mono ?_;rintro e w1 ⟨rfl,b1⟩;rw [HP0.out];have M5:=aa (M.out.below b1);clear M b1 q4 q5;go_wp2_with fail
    clear hto;refine(wa _ M5.out.1 HB.out).mono ?_;rintro e w2 ⟨rfl,a2⟩;have M1:=aa (M5.out.ate a2);clear M5 a2;go_wp2_with fail
    refine(rvalue _ M1.out.1 HV.out).mono ?_;rintro e w3 ⟨rfl,a3⟩;have M2:=aa (M1.out.ate a3);clear M1 a3;obtain⟨va,vt,HC,HZ4,o1,o2,o3⟩:=M2.out.2.1.cells;have hcl7:=M2.out.lt;have cA:=HC 5 _ rfl;have zA:=HZ4 5;have hne:vt.ownBlock≠some c:=(o3 c (by obtain⟨ua,ut,q1,_⟩:=M2.out.2.1;exact⟨_,_,q1⟩)).2;obtain⟨ao7,cp7,rfl⟩:=aI o2;have O7:=aa o2;obtain⟨cB,zB⟩:=Cel.below (af w3 (.cells #[.int .i64 b] 3)) hcl7.2.2.2.1 cA zA;clear HC HZ4 o1 o2 o3;have t27:tt.length+1≤maxLen:=(by unfold maxLen;omega);have t37:(tt.length+1) * 8≤140737488355328:=(by omega);have t47:w.heap.size≤(w3.alloc (.cells #[.int .i64 b] 3)).heap.size:=(by simp;omega);have t57:c < (w3.alloc (.cells #[.int .i64 b] 3)).heap.size:=(by simp;omega);go_upto_region 6 with (at_builtin;refine wpList_append_lies _ rfl (.tmp 30) (.tmp 32) 26 rfl w.heap.size 3 i0 _ 1 8 Tryz.underlying26 hi0 hz0 hz1 hz2 rfl (by decide) _ _ _ rfl (O7.out.alloc _) ⟨w3.heap.size,0,none⟩ 1 1 [.int .i64 b] rfl rfl one_cell one_one (by decide) t27 t37 t47 (w3.heap.size+1) (by simp) ?_;intro gg7 cap7 w7 hown7 hgrow7 hat7 hlt7;obtain⟨cC7,zC7⟩:=Cel.grown hgrow7 t57 hne cB zB)
    have M3:=aa ((M2.out.below (af w3 (.cells #[.int .i64 b] 3))).to cB hown7 hgrow7 (hat7.imp (fun e=>e) (fun e=>e.trans (by simp))));show Code.wp _ _ _ _ (w7.setCell ⟨c,5,none⟩ (.slice (some ⟨gg7,0,none⟩) (tt.length+1) cap7));have M3:Hid (bN w a c g L E n (op,id,nn,ty,ar,tt ++ [b],nm,p) l3 (w7.setCell ⟨c,5,none⟩ (.slice (some ⟨gg7,0,none⟩) (tt.length+1) cap7))):=M3;clear cC7 zC7 hown7 hgrow7 hat7 hlt7 O7 cA zA cB zB hne t27 t37 t47 t57 hcl7 M2;generalize w7.setCell ⟨c,5,none⟩ (.slice (some ⟨gg7,0,none⟩) (tt.length+1) cap7)=W7 at *;clear va;obtain⟨va,vt,HC,HZ4,o1,o2,o3⟩:=M3.out.2.1.cells;have hcl8:=M3.out.lt;have cA:=HC 4 _ rfl;have zA:=HZ4 4;have hne:va.ownBlock≠some c:=(o3 c (by obtain⟨ua,ut,q1,_⟩:=M3.out.2.1;exact⟨_,_,q1⟩)).1;obtain⟨ao8,cp8,rfl⟩:=aI o1;have O8:=aa o1;obtain⟨cB,zB⟩:=Cel.below (af W7 (.cells #[.int .i64 v] 3)) hcl8.2.2.2.1 cA zA;clear HC HZ4 o1 o2 o3;have t28:ar.length+1≤maxLen:=(by unfold maxLen;omega);have t38:(ar.length+1) * 8≤140737488355328:=(by omega);have t48:w.heap.size≤(W7.alloc (.cells #[.int .i64 v] 3)).heap.size:=(by simp;omega);have t58:c < (W7.alloc (.cells #[.int .i64 v] 3)).heap.size:=(by simp;omega);go_wp2_with (at_builtin;refine wpList_append_lies _ rfl (.tmp 36) (.tmp 38) 26 rfl w.heap.size 3 i0 _ 1 8 Tryz.underlying26 hi0 hz0 hz1 hz2 rfl (by decide) _ _ _ rfl (O8.out.alloc _) ⟨W7.heap.size,0,none⟩ 1 1 [.int .i64 v] rfl rfl one_cell one_one (by decide) t28 t38 t48 (W7.heap.size+1) (by simp) ?_;intro gg8 cap8 w8 hown8 hgrow8 hat8 hlt8;obtain⟨cC8,zC8⟩:=Cel.grown hgrow8 t58 hne cB zB)
    have M4:=aa ((M3.out.below (af W7 (.cells #[.int .i64 v] 3))).arg cB hown8 hgrow8 (hat8.imp (fun e=>e) (fun e=>e.trans (by simp))));have hra4:=M4.out.1.bt;have hll4:=M4.out.1.len;go_roundw
    case rel=>exact⟨f,ar ++ [v],tt ++ [b],l3,M4,by omega,by simp;omega,by simp;omega,HR3⟩
    case measure=>rw [hra,hra4];omega
  ·have ht0:tt≠ []:=fun e=>hgo (.inl e);have hp0:G.bZ l'=false:=by cases hq:G.bZ l' with
    |false=>rfl
    |true=>exact absurd (.inr hq) hgo
   have hto:((tt.length:Int) == 0)=false:=by cases tt with
    |nil=>exact absurd rfl ht0
    |cons x y=>simp;omega
   obtain⟨⟨rfl,rfl⟩,rfl⟩:(tt=to∧ar=args)∧l'=lf:=(by have:=HR'.out;unfold G.km at this;rw [if_neg hgo] at this;cases this;exact⟨⟨rfl,rfl⟩,rfl⟩);have HP0:=aa hp0;clear hgo ht0 hp0 HR';go_wp2_with fail
   refine(yJ _ M.out.1).mono ?_;rintro e w1 ⟨rfl,b1⟩;rw [HP0.out];have M1:=aa (M.out.below b1);clear M b1 q4 q5;obtain⟨va',vt',HC,HZ4,o1,o2,o3⟩:=M1.out.2.1.cells;obtain⟨aoA,mA,cA,rfl⟩:=aQ o1;obtain⟨aoT,mT,cT,rfl⟩:=aQ o2;have y0:=HC 0 _ rfl;have y1:=HC 1 _ rfl;have y2:=HC 2 _ rfl;have y3:=HC 3 _ rfl;have y4:=HC 4 _ rfl;have y5:=HC 5 _ rfl;have y6:=HC 6 _ rfl;have y7:=HC 7 _ rfl;have hS:=M1.out.2.2.1;obtain⟨o3a,o3b⟩:=o3 g ⟨_,_,hS⟩;have hS:=aa hS;have o1:=aa o1;have o2:=aa o2;clear HC HZ4 o3;obtain⟨s0,s1,s2,s3,s4,s5,s6,s7,f0,f1,f2,f3,f4,f5,f6,f7⟩:=kH hS.out;have hcn:c≠g:=fun e=>M1.out.2.2.2.2.2.2 e.symm;have FF:=aa (((((((((Far.refl g w1).set 0 (.int .i64 op)).set 1 (.int .i64 id)).set 2 (.int .i64 nn)).set 3 (.int .i64 ty)).set 4 (.slice aoA mA cA)).set 5 (.slice aoT mT cT)).set 6 (.string (bs nm))).set 7 (.int .i64 p));have KK:=aa (FF.out.kr M1.out.2.2.2.1 M1.out.2.2.2.2.2.1);have QQ:=aa (FF.out.rr M1.out.1 hS.out (by decide) (by have:=M1.out.lt;omega));have OO:=aa (⟨FF.out.own o1.out o3a,FF.out.own o2.out o3b⟩:_∧_);go_wp2_with fail
   exact bodyPost_ret (v:= .agg (ak (op,id,nn,ty,ar,tt,nm,p) (.slice aoA mA cA) (.slice aoT mT cT)).toArray) (by simp [results,Tryz.results185,go_sem,ak,s0,s1,s2,s3,s4,s5,s6,s7]) rfl ⟨_,rfl,⟨_,_,rfl,OO.out.1,OO.out.2⟩,QQ.out,KK.out⟩
theorem sl {E:Int} {l r:List Tok} {s:List UInt8} (h:G.name gX E l= .ok (s,r)):r=l.tail∧ah l=s∧gX s=true:=by
 obtain⟨_,rfl,h3⟩:=G.ep (by simp [nM]) h;by_cases hc:gX (ah l)=true
 ·simp only [if_pos hc] at h3;injection h3 with h4;exact⟨rfl,h4,by rw [←h4];exact hc⟩
 ·simp only [if_neg hc] at h3;cases h3
theorem Hg {E v:Int} {l r:List Tok} (h:G.spot aF E l= .ok (v,r)):((ah l).head? =some 64∧G.mark aF 64 1048576 (ah l)=some v∧r=l.tail)∨((ah l).head? ≠some 64∧v=0∧r=l):=by
 unfold G.spot at h;by_cases hc:(ah l).head? =some 64
 ·rw [if_pos hc] at h;obtain⟨_,h2,h3⟩:=G.mf h;exact .inl ⟨hc,h3,h2⟩
 ·rw [if_neg hc] at h
  cases h;exact .inr ⟨hc,rfl,rfl⟩
theorem KA (op id ty N:Int) (s:List UInt8) (p:Int) {a:Nat} {L:List Tok} {E:Int} {n:Nat} {l l2 l3 lf:List Tok} {args:List Int} (w:World) (h:RR a L E n l w) (h1:G.spot aF E l= .ok (N,l2)) (h2:G.name gX E l2= .ok (s,l3)) (h3:G.values aF E l3= .ok (args,lf)):
  Calls Tryz.prog 186 #[.pointer (some ⟨a,0,none⟩),.agg (al op id 0 ty (bs []) p)] w (mH a L E n (op,id,N,ty,args,[],s,p) lf w):=by
 obtain rfl:l3=l2.tail:=(sl h2).1;obtain⟨i0,hi0,hz0,hz1,hz2⟩:=info_parts Tryz.cU;have M0:Hid (bN w a (w.heap.size+1+1) (w.heap.size+1) L E n (op,id,0,ty,[],[],[],p) l (((w.alloc (.cells (al op id 0 ty (bs []) p) 41)).alloc (.cells (al 0 0 0 0 ⟨#[]⟩ 0) 41)).alloc (.cells (al op id 0 ty (bs []) p) 41))):=aa (bN.start h op id 0 ty [] p);have HN:=aa (sl h2);have HR4:Hid (G.bO aF E (l2.tail.length+1) [] l2.tail= .ok (args,lf)):=aa h3;have HS:=aa (Hg h1);have hz:(bs (ah l)).size≤65536:=by rw [bE];exact h.short.1
 clear h1 h2 h3;clear h;generalize hg:w.heap.size+1=g at *;generalize hc:g+1=c at *;go_enter Tryz.func186,Tryz.ntmps186
 go_upto_region 2 with fail
 show Code.wp _ _ _ _ (((w.alloc (.cells (al op id 0 ty (bs []) p) 41)).alloc (.cells (al 0 0 0 0 ⟨#[]⟩ 0) 41)).alloc (.cells (al op id 0 ty (bs []) p) 41));generalize ((w.alloc (.cells (al op id 0 ty (bs []) p) 41)).alloc (.cells (al 0 0 0 0 ⟨#[]⟩ 0) 41)).alloc (.cells (al op id 0 ty (bs []) p) 41)=W0 at *;clear hg hc;rcases pI 64 (ah l)with ⟨hs,e0⟩ | ⟨x,r,hs,e0,hp,⟨hx,e1⟩ | ⟨hx,e1⟩⟩
 ·have hno:(ah l).head? ≠some 64:=by rw [hs];simp
  obtain⟨rfl,rfl⟩:N=0∧l2=l:=by
   rcases HS.out with ⟨q,_⟩ | ⟨_,q⟩
   ·exact absurd q hno
   ·exact q
  clear hs hno HS;go_wp2_with fail
  refine(cf _ M0.out.1 rfl).mono ?_;rintro e w1 ⟨rfl,b1⟩;have M2:=aa (M0.out.below b1);clear M0 b1;generalize bs (ah l2)=C at *;go_wp2_with fail
  clear e0;refine(yB s _ M2.out.1 HN.out.2.1 HN.out.2.2).mono ?_;rintro e w3 ⟨rfl,a3⟩;have M3:=aa (M2.out.ate a3);clear M2 a3;obtain⟨va,vt,HC,HZ4,o1,o2,o3⟩:=M3.out.2.1.cells;have cA:=HC 6 _ rfl;have zA:=HZ4 6;have M4:Hid (bN w a c g L E n (op,id,0,ty,[],[],s,p) l2.tail (w3.setCell ⟨c,6,none⟩ (.string (bs s)))):=aa (M3.out.put (M3.out.2.1.setName s));clear HC HZ4 o1 o2 o3 M3;go_wp2_with fail
  clear cA zA;generalize w3.setCell ⟨c,6,none⟩ (.string (bs s))=W3 at *;go_loopw [] (fun wr=>∃(f:Nat) (acc:List Int) (l':List Tok),Hid (bN w a c g L E n (op,id,0,ty,acc,[],s,p) l' wr)∧l'.length < f∧acc.length+l'.length≤L.length∧Hid (G.bO aF E f acc l'= .ok (args,lf))) (fun wr=>L.length - bt a wr)
  case atStart=>exact⟨_,[],_,M4,Nat.lt_succ_self _,by rw [List.length_nil,Nat.zero_add];exact M4.out.1.len.1,HR4⟩
  case round=>
   obtain⟨f,acc,l',M,hf,hA,HR'⟩:=hrel;have hra:=M.out.1.bt;have hll:=M.out.1.len;obtain⟨f,rfl⟩:∃q,f=q+1:=⟨f - 1,by omega⟩;go_wp2_with fail
   refine(rH _ M.out.1).mono ?_;rintro e w7 ⟨rfl,b7⟩;have M7:=aa (M.out.below b7);have hra7:Hid (bt a wr=L.length - l'.length):=aa hra;clear M b7
   cases ht:G.taken l' with
   |false=>
    obtain⟨rfl,rfl⟩:acc=args∧l'=lf:=(by have:=HR'.out;unfold G.bO at this;rw [if_neg (by simp [ht])] at this;cases this;exact⟨rfl,rfl⟩);clear ht HR';obtain⟨va',vt',HC,HZ4,o1,o2,o3⟩:=M7.out.2.1.cells;obtain⟨aoA,mA,cA,rfl⟩:=aQ o1;obtain⟨aoT,mT,cT,rfl⟩:=aQ o2;have y0:=HC 0 _ rfl;have y1:=HC 1 _ rfl;have y2:=HC 2 _ rfl;have y3:=HC 3 _ rfl;have y4:=HC 4 _ rfl;have y5:=HC 5 _ rfl;have y6:=HC 6 _ rfl;have y7:=HC 7 _ rfl;have hS:=M7.out.2.2.1;obtain⟨o3a,o3b⟩:=o3 g ⟨_,_,hS⟩;have hS:=aa hS;have o1:=aa o1;have o2:=aa o2;clear HC HZ4 o3;obtain⟨s0,s1,s2,s3,s4,s5,s6,s7,f0,f1,f2,f3,f4,f5,f6,f7⟩:=kH hS.out;have hcn:c≠g:=fun e=>M7.out.2.2.2.2.2.2 e.symm;have FF:=aa (((((((((Far.refl g w7).set 0 (.int .i64 op)).set 1 (.int .i64 id)).set 2 (.int .i64 0)).set 3 (.int .i64 ty)).set 4 (.slice aoA mA cA)).set 5 (.slice aoT mT cT)).set 6 (.string (bs s))).set 7 (.int .i64 p));have KK:=aa (FF.out.kr M7.out.2.2.2.1 M7.out.2.2.2.2.2.1);have QQ:=aa (FF.out.rr M7.out.1 hS.out (by decide) (by have:=M7.out.lt;omega));have OO:=aa (⟨FF.out.own o1.out o3a,FF.out.own o2.out o3b⟩:_∧_);go_wp2_with fail
    exact bodyPost_ret (v:= .agg (ak (op,id,0,ty,acc,[],s,p) (.slice aoA mA cA) (.slice aoT mT cT)).toArray) (by simp [results,Tryz.results186,go_sem,ak,s0,s1,s2,s3,s4,s5,s6,s7]) rfl ⟨_,rfl,⟨_,_,rfl,OO.out.1,OO.out.2⟩,QQ.out,KK.out⟩
   |true=>
    obtain⟨v,l3,hv,hr3⟩:=ax (show G.andThen (G.value aF E l') (fun v=>G.bO aF E f (acc ++ [v]))= .ok (args,lf) from by have:=HR'.out;unfold G.bO at this;rwa [if_pos ht] at this);have hl3:l3.length+1≤l'.length:=(by have h1:=bQ (G.bW hv).1;have h2:=(G.bW hv).2.1;rw [h2];omega);have HV:=aa hv;have HR3:=aa hr3;clear hv hr3 HR' ht;go_wp2_with fail
    refine(rvalue _ M7.out.1 HV.out).mono ?_;rintro e w8 ⟨rfl,a8⟩;have M8:=aa (M7.out.ate a8);clear M7 a8;obtain⟨va,vt,HC,HZ4,o1,o2,o3⟩:=M8.out.2.1.cells;have hcl9:=M8.out.lt;have cA:=HC 4 _ rfl;have zA:=HZ4 4;have hne:va.ownBlock≠some c:=(o3 c (by obtain⟨ua,ut,q1,_⟩:=M8.out.2.1;exact⟨_,_,q1⟩)).1;obtain⟨ao9,cp9,rfl⟩:=aI o1;have O9:=aa o1;obtain⟨cB,zB⟩:=Cel.below (af w8 (.cells #[.int .i64 v] 3)) hcl9.2.2.2.1 cA zA;clear HC HZ4 o1 o2 o3;have t29:acc.length+1≤maxLen:=(by unfold maxLen;omega);have t39:(acc.length+1) * 8≤140737488355328:=(by omega);have t49:w.heap.size≤(w8.alloc (.cells #[.int .i64 v] 3)).heap.size:=(by simp;omega);have t59:c < (w8.alloc (.cells #[.int .i64 v] 3)).heap.size:=(by simp;omega);go_wp2_with (at_builtin;refine wpList_append_lies _ rfl (.tmp 29) (.tmp 31) 26 rfl w.heap.size 3 i0 _ 1 8 Tryz.underlying26 hi0 hz0 hz1 hz2 rfl (by decide) _ _ _ rfl (O9.out.alloc _) ⟨w8.heap.size,0,none⟩ 1 1 [.int .i64 v] rfl rfl one_cell one_one (by decide) t29 t39 t49 (w8.heap.size+1) (by simp) ?_;intro gg9 cap9 w9 hown9 hgrow9 hat9 hlt9;obtain⟨cC9,zC9⟩:=Cel.grown hgrow9 t59 hne cB zB)
    have M9:=aa ((M8.out.below (af w8 (.cells #[.int .i64 v] 3))).arg cB hown9 hgrow9 (hat9.imp (fun e=>e) (fun e=>e.trans (by simp))));have hra9:=M9.out.1.bt;have hll9:=M9.out.1.len;go_roundw
    case rel=>exact⟨f,acc ++ [v],l3,M9,by omega,by simp;omega,HR3⟩
    case measure=>rw [hra9];omega
 ·have hyes:(ah l).head? =some 64:=by rw [hs,hx];rfl
  obtain⟨hm,rfl⟩:G.mark aF 64 1048576 (ah l)=some N∧l2=l.tail:=by
   rcases HS.out with ⟨_,q⟩ | ⟨q,_⟩
   ·exact q
   ·exact absurd hyes q
  replace e1:((bs (ah l))[0].toNat:Int)=64:=e1 hp;have HM:=aa hm;clear hs hyes HS hx hm;have HPK:=aa (rfl:ah l=ah l);generalize hC:bs (ah l)=C at *;have hC:=aa hC;go_wp2_with fail
  refine(cf _ M0.out.1 rfl).mono ?_;rintro e w1 ⟨rfl,b1⟩;rw [hC.out];have M1:=aa (M0.out.below b1);clear M0 b1;go_wp2_with fail
  clear e0 e1 hp;refine(wM 64 1048576 3 N _ M1.out.1 rfl HM.out).mono ?_;rintro e w2 ⟨rfl,a2⟩;have M1a:=aa (M1.out.ate a2);clear M1 a2;obtain⟨va,vt,HC,HZ4,o1,o2,o3⟩:=M1a.out.2.1.cells;have cA:=HC 2 _ rfl;have zA:=HZ4 2;have M2:Hid (bN w a c g L E n (op,id,N,ty,[],[],[],p) l.tail (w2.setCell ⟨c,2,none⟩ (.int .i64 N))):=aa (M1a.out.put (M1a.out.2.1.fi N));clear HC HZ4 o1 o2 o3 M1a;go_wp2_with fail
  clear cA zA;generalize w2.setCell ⟨c,2,none⟩ (.int .i64 N)=W2 at *;clear va vt;refine(yB s _ M2.out.1 HN.out.2.1 HN.out.2.2).mono ?_;rintro e w3 ⟨rfl,a3⟩;have M3:=aa (M2.out.ate a3);clear M2 a3;obtain⟨va,vt,HC,HZ4,o1,o2,o3⟩:=M3.out.2.1.cells;have cA:=HC 6 _ rfl;have zA:=HZ4 6;have M4:Hid (bN w a c g L E n (op,id,N,ty,[],[],s,p) l.tail.tail (w3.setCell ⟨c,6,none⟩ (.string (bs s)))):=aa (M3.out.put (M3.out.2.1.setName s));clear HC HZ4 o1 o2 o3 M3;go_wp2_with fail
  clear cA zA;generalize w3.setCell ⟨c,6,none⟩ (.string (bs s))=W3 at *;go_loopw [] (fun wr=>∃(f:Nat) (acc:List Int) (l':List Tok),Hid (bN w a c g L E n (op,id,N,ty,acc,[],s,p) l' wr)∧l'.length < f∧acc.length+l'.length≤L.length∧Hid (G.bO aF E f acc l'= .ok (args,lf))) (fun wr=>L.length - bt a wr)
  case atStart=>exact⟨_,[],_,M4,Nat.lt_succ_self _,by rw [List.length_nil,Nat.zero_add];exact M4.out.1.len.1,HR4⟩
  case round=>
   obtain⟨f,acc,l',M,hf,hA,HR'⟩:=hrel;have hra:=M.out.1.bt;have hll:=M.out.1.len;obtain⟨f,rfl⟩:∃q,f=q+1:=⟨f - 1,by omega⟩;go_wp2_with fail
   refine(rH _ M.out.1).mono ?_;rintro e w7 ⟨rfl,b7⟩;have M7:=aa (M.out.below b7);have hra7:Hid (bt a wr=L.length - l'.length):=aa hra;clear M b7
   cases ht:G.taken l' with
   |false=>
    obtain⟨rfl,rfl⟩:acc=args∧l'=lf:=(by have:=HR'.out;unfold G.bO at this;rw [if_neg (by simp [ht])] at this;cases this;exact⟨rfl,rfl⟩);clear ht HR';obtain⟨va',vt',HC,HZ4,o1,o2,o3⟩:=M7.out.2.1.cells;obtain⟨aoA,mA,cA,rfl⟩:=aQ o1;obtain⟨aoT,mT,cT,rfl⟩:=aQ o2;have y0:=HC 0 _ rfl;have y1:=HC 1 _ rfl;have y2:=HC 2 _ rfl;have y3:=HC 3 _ rfl;have y4:=HC 4 _ rfl;have y5:=HC 5 _ rfl;have y6:=HC 6 _ rfl;have y7:=HC 7 _ rfl;have hS:=M7.out.2.2.1;obtain⟨o3a,o3b⟩:=o3 g ⟨_,_,hS⟩;have hS:=aa hS;have o1:=aa o1;have o2:=aa o2;clear HC HZ4 o3;obtain⟨s0,s1,s2,s3,s4,s5,s6,s7,f0,f1,f2,f3,f4,f5,f6,f7⟩:=kH hS.out;have hcn:c≠g:=fun e=>M7.out.2.2.2.2.2.2 e.symm;have FF:=aa (((((((((Far.refl g w7).set 0 (.int .i64 op)).set 1 (.int .i64 id)).set 2 (.int .i64 N)).set 3 (.int .i64 ty)).set 4 (.slice aoA mA cA)).set 5 (.slice aoT mT cT)).set 6 (.string (bs s))).set 7 (.int .i64 p));have KK:=aa (FF.out.kr M7.out.2.2.2.1 M7.out.2.2.2.2.2.1);have QQ:=aa (FF.out.rr M7.out.1 hS.out (by decide) (by have:=M7.out.lt;omega));have OO:=aa (⟨FF.out.own o1.out o3a,FF.out.own o2.out o3b⟩:_∧_);go_wp2_with fail
    exact bodyPost_ret (v:= .agg (ak (op,id,N,ty,acc,[],s,p) (.slice aoA mA cA) (.slice aoT mT cT)).toArray) (by simp [results,Tryz.results186,go_sem,ak,s0,s1,s2,s3,s4,s5,s6,s7]) rfl ⟨_,rfl,⟨_,_,rfl,OO.out.1,OO.out.2⟩,QQ.out,KK.out⟩
   |true=>
    obtain⟨v,l3,hv,hr3⟩:=ax (show G.andThen (G.value aF E l') (fun v=>G.bO aF E f (acc ++ [v]))= .ok (args,lf) from by have:=HR'.out;unfold G.bO at this;rwa [if_pos ht] at this);have hl3:l3.length+1≤l'.length:=(by have h1:=bQ (G.bW hv).1;have h2:=(G.bW hv).2.1;rw [h2];omega);have HV:=aa hv;have HR3:=aa hr3;clear hv hr3 HR' ht;go_wp2_with fail
    refine(rvalue _ M7.out.1 HV.out).mono ?_;rintro e w8 ⟨rfl,a8⟩;have M8:=aa (M7.out.ate a8);clear M7 a8;obtain⟨va,vt,HC,HZ4,o1,o2,o3⟩:=M8.out.2.1.cells;have hcl9:=M8.out.lt;have cA:=HC 4 _ rfl;have zA:=HZ4 4;have hne:va.ownBlock≠some c:=(o3 c (by obtain⟨ua,ut,q1,_⟩:=M8.out.2.1;exact⟨_,_,q1⟩)).1;obtain⟨ao9,cp9,rfl⟩:=aI o1;have O9:=aa o1;obtain⟨cB,zB⟩:=Cel.below (af w8 (.cells #[.int .i64 v] 3)) hcl9.2.2.2.1 cA zA;clear HC HZ4 o1 o2 o3;have t29:acc.length+1≤maxLen:=(by unfold maxLen;omega);have t39:(acc.length+1) * 8≤140737488355328:=(by omega);have t49:w.heap.size≤(w8.alloc (.cells #[.int .i64 v] 3)).heap.size:=(by simp;omega);have t59:c < (w8.alloc (.cells #[.int .i64 v] 3)).heap.size:=(by simp;omega);go_wp2_with (at_builtin;refine wpList_append_lies _ rfl (.tmp 29) (.tmp 31) 26 rfl w.heap.size 3 i0 _ 1 8 Tryz.underlying26 hi0 hz0 hz1 hz2 rfl (by decide) _ _ _ rfl (O9.out.alloc _) ⟨w8.heap.size,0,none⟩ 1 1 [.int .i64 v] rfl rfl one_cell one_one (by decide) t29 t39 t49 (w8.heap.size+1) (by simp) ?_;intro gg9 cap9 w9 hown9 hgrow9 hat9 hlt9;obtain⟨cC9,zC9⟩:=Cel.grown hgrow9 t59 hne cB zB)
    have M9:=aa ((M8.out.below (af w8 (.cells #[.int .i64 v] 3))).arg cB hown9 hgrow9 (hat9.imp (fun e=>e) (fun e=>e.trans (by simp))));have hra9:=M9.out.1.bt;have hll9:=M9.out.1.len;go_roundw
    case rel=>exact⟨f,acc ++ [v],l3,M9,by omega,by simp;omega,HR3⟩
    case measure=>rw [hra9];omega
 ·have hno:(ah l).head? ≠some 64:=by rw [hs];simp [hx]
  obtain⟨rfl,rfl⟩:N=0∧l2=l:=by
   rcases HS.out with ⟨q,_⟩ | ⟨_,q⟩
   ·exact absurd q hno
   ·exact q
  replace e1:(((bs (ah l2))[0].toNat:Int) == 64)=false:=e1 hp;clear hs hno HS hx;go_wp2_with fail
  refine(cf _ M0.out.1 rfl).mono ?_;rintro e w1 ⟨rfl,b1⟩;have M2:=aa (M0.out.below b1);clear M0 b1;generalize bs (ah l2)=C at *;go_wp2_with fail
  clear e0;refine(yB s _ M2.out.1 HN.out.2.1 HN.out.2.2).mono ?_;rintro e w3 ⟨rfl,a3⟩;have M3:=aa (M2.out.ate a3);clear M2 a3;obtain⟨va,vt,HC,HZ4,o1,o2,o3⟩:=M3.out.2.1.cells;have cA:=HC 6 _ rfl;have zA:=HZ4 6;have M4:Hid (bN w a c g L E n (op,id,0,ty,[],[],s,p) l2.tail (w3.setCell ⟨c,6,none⟩ (.string (bs s)))):=aa (M3.out.put (M3.out.2.1.setName s));clear HC HZ4 o1 o2 o3 M3;go_wp2_with fail
  clear cA zA;generalize w3.setCell ⟨c,6,none⟩ (.string (bs s))=W3 at *;go_loopw [] (fun wr=>∃(f:Nat) (acc:List Int) (l':List Tok),Hid (bN w a c g L E n (op,id,0,ty,acc,[],s,p) l' wr)∧l'.length < f∧acc.length+l'.length≤L.length∧Hid (G.bO aF E f acc l'= .ok (args,lf))) (fun wr=>L.length - bt a wr)
  case atStart=>exact⟨_,[],_,M4,Nat.lt_succ_self _,by rw [List.length_nil,Nat.zero_add];exact M4.out.1.len.1,HR4⟩
  case round=>
   obtain⟨f,acc,l',M,hf,hA,HR'⟩:=hrel;have hra:=M.out.1.bt;have hll:=M.out.1.len;obtain⟨f,rfl⟩:∃q,f=q+1:=⟨f - 1,by omega⟩;go_wp2_with fail
   refine(rH _ M.out.1).mono ?_;rintro e w7 ⟨rfl,b7⟩;have M7:=aa (M.out.below b7);have hra7:Hid (bt a wr=L.length - l'.length):=aa hra;clear M b7
   cases ht:G.taken l' with
   |false=>
    obtain⟨rfl,rfl⟩:acc=args∧l'=lf:=(by have:=HR'.out;unfold G.bO at this;rw [if_neg (by simp [ht])] at this;cases this;exact⟨rfl,rfl⟩);clear ht HR';obtain⟨va',vt',HC,HZ4,o1,o2,o3⟩:=M7.out.2.1.cells;obtain⟨aoA,mA,cA,rfl⟩:=aQ o1;obtain⟨aoT,mT,cT,rfl⟩:=aQ o2;have y0:=HC 0 _ rfl;have y1:=HC 1 _ rfl;have y2:=HC 2 _ rfl;have y3:=HC 3 _ rfl;have y4:=HC 4 _ rfl;have y5:=HC 5 _ rfl;have y6:=HC 6 _ rfl;have y7:=HC 7 _ rfl;have hS:=M7.out.2.2.1;obtain⟨o3a,o3b⟩:=o3 g ⟨_,_,hS⟩;have hS:=aa hS;have o1:=aa o1;have o2:=aa o2;clear HC HZ4 o3;obtain⟨s0,s1,s2,s3,s4,s5,s6,s7,f0,f1,f2,f3,f4,f5,f6,f7⟩:=kH hS.out;have hcn:c≠g:=fun e=>M7.out.2.2.2.2.2.2 e.symm;have FF:=aa (((((((((Far.refl g w7).set 0 (.int .i64 op)).set 1 (.int .i64 id)).set 2 (.int .i64 0)).set 3 (.int .i64 ty)).set 4 (.slice aoA mA cA)).set 5 (.slice aoT mT cT)).set 6 (.string (bs s))).set 7 (.int .i64 p));have KK:=aa (FF.out.kr M7.out.2.2.2.1 M7.out.2.2.2.2.2.1);have QQ:=aa (FF.out.rr M7.out.1 hS.out (by decide) (by have:=M7.out.lt;omega));have OO:=aa (⟨FF.out.own o1.out o3a,FF.out.own o2.out o3b⟩:_∧_);go_wp2_with fail
    exact bodyPost_ret (v:= .agg (ak (op,id,0,ty,acc,[],s,p) (.slice aoA mA cA) (.slice aoT mT cT)).toArray) (by simp [results,Tryz.results186,go_sem,ak,s0,s1,s2,s3,s4,s5,s6,s7]) rfl ⟨_,rfl,⟨_,_,rfl,OO.out.1,OO.out.2⟩,QQ.out,KK.out⟩
   |true=>
    obtain⟨v,l3,hv,hr3⟩:=ax (show G.andThen (G.value aF E l') (fun v=>G.bO aF E f (acc ++ [v]))= .ok (args,lf) from by have:=HR'.out;unfold G.bO at this;rwa [if_pos ht] at this);have hl3:l3.length+1≤l'.length:=(by have h1:=bQ (G.bW hv).1;have h2:=(G.bW hv).2.1;rw [h2];omega);have HV:=aa hv;have HR3:=aa hr3;clear hv hr3 HR' ht;go_wp2_with fail
    refine(rvalue _ M7.out.1 HV.out).mono ?_;rintro e w8 ⟨rfl,a8⟩;have M8:=aa (M7.out.ate a8);clear M7 a8;obtain⟨va,vt,HC,HZ4,o1,o2,o3⟩:=M8.out.2.1.cells;have hcl9:=M8.out.lt;have cA:=HC 4 _ rfl;have zA:=HZ4 4;have hne:va.ownBlock≠some c:=(o3 c (by obtain⟨ua,ut,q1,_⟩:=M8.out.2.1;exact⟨_,_,q1⟩)).1;obtain⟨ao9,cp9,rfl⟩:=aI o1;have O9:=aa o1;obtain⟨cB,zB⟩:=Cel.below (af w8 (.cells #[.int .i64 v] 3)) hcl9.2.2.2.1 cA zA;clear HC HZ4 o1 o2 o3;have t29:acc.length+1≤maxLen:=(by unfold maxLen;omega);have t39:(acc.length+1) * 8≤140737488355328:=(by omega);have t49:w.heap.size≤(w8.alloc (.cells #[.int .i64 v] 3)).heap.size:=(by simp;omega);have t59:c < (w8.alloc (.cells #[.int .i64 v] 3)).heap.size:=(by simp;omega);go_wp2_with (at_builtin;refine wpList_append_lies _ rfl (.tmp 29) (.tmp 31) 26 rfl w.heap.size 3 i0 _ 1 8 Tryz.underlying26 hi0 hz0 hz1 hz2 rfl (by decide) _ _ _ rfl (O9.out.alloc _) ⟨w8.heap.size,0,none⟩ 1 1 [.int .i64 v] rfl rfl one_cell one_one (by decide) t29 t39 t49 (w8.heap.size+1) (by simp) ?_;intro gg9 cap9 w9 hown9 hgrow9 hat9 hlt9;obtain⟨cC9,zC9⟩:=Cel.grown hgrow9 t59 hne cB zB)
    have M9:=aa ((M8.out.below (af w8 (.cells #[.int .i64 v] 3))).arg cB hown9 hgrow9 (hat9.imp (fun e=>e) (fun e=>e.trans (by simp))));have hra9:=M9.out.1.bt;have hll9:=M9.out.1.len;go_roundw
    case rel=>exact⟨f,acc ++ [v],l3,M9,by omega,by simp;omega,HR3⟩
    case measure=>rw [hra9];omega
open G (Tok Er Ins Fun)
theorem ib.below {w w':World} {x:Ins} {v:Value} (h:ib w x v) (b:Below w.heap.size w w'):ib w' x v:=by
 obtain⟨ao,to,ca,ct,e,h1,h2,h3⟩:=h;exact⟨ao,to,ca,ct,e,h1.below b,h2.below b,h3⟩
def tkN (k:Int):Nat:=(L5.takes (L5.num k)).length
def jb (k:Int) (a b:Nat):Bool:=
 if k=20 then decide ((a:Int)=b) && decide ((0:Int) < a)
 else if k=21 then decide ((b:Int)=0)
 else if k=24 then decide ((a:Int)=1) && decide ((b:Int)=0)
 else if k=26 then decide ((a:Int)=0) && decide ((b:Int)=1)
 else if k=27 then decide ((a:Int)=1) && decide ((b:Int)=2)
 else if k=28 then decide ((a:Int)≤1) && decide ((b:Int)=0)
 else decide ((a:Int)=tkN k) && decide ((b:Int)=0)
def ui (k n:Int):Bool:=
 if k=1 then true
 else if k=11∨k=12∨k=15∨k=13∨k=14 then decide (0≤n) && decide (n≤15)
 else if k=21∨k=23∨k=24 then decide (0≤n) && decide (n≤1048576)
 else if k=29 then decide (0≤n) && decide (n≤255)
 else decide (0≤n) && decide (n≤0)
theorem rp (k:Int) (id n ty pl:Int) (ar tt:List Int) (nm:List UInt8) (ao to:Option Addr) (ca ct:Nat) (w:World) (hL:ar.length≤maxLen∧tt.length≤maxLen):Calls Tryz.prog 129 #[.agg #[.int .i64 k,.int .i64 id,.int .i64 n,.int .i64 ty,.slice ao ar.length ca,.slice to tt.length ct,.string (bs nm),.int .i64 pl]] w fun e w'=>e= .returned (.bool (jb k ar.length tt.length))∧Below w.heap.size w w':=by
 have HB:=aa (jb.eq_1 k ar.length tt.length).symm;obtain⟨la,lt⟩:=hL;unfold maxLen at la lt;have b0:=af w (.cells #[.int .i64 k,.int .i64 id,.int .i64 n,.int .i64 ty,.slice ao ar.length ca,.slice to tt.length ct,.string (bs nm),.int .i64 pl] 41);have H0:=aa (heap_alloc_new w (.cells #[.int .i64 k,.int .i64 id,.int .i64 n,.int .i64 ty,.slice ao ar.length ca,.slice to tt.length ct,.string (bs nm),.int .i64 pl] 41));have B0:=aa b0;have hz0:(w.alloc (.cells #[.int .i64 k,.int .i64 id,.int .i64 n,.int .i64 ty,.slice ao ar.length ca,.slice to tt.length ct,.string (bs nm),.int .i64 pl] 41)).heap.size > w.heap.size:=by simp
 clear b0;go_enter Tryz.func129,Tryz.ntmps129
 go_upto_region 1 with fail
 show Code.wp _ _ _ _ (w.alloc (.cells #[.int .i64 k,.int .i64 id,.int .i64 n,.int .i64 ty,.slice ao ar.length ca,.slice to tt.length ct,.string (bs nm),.int .i64 pl] 41));generalize w.alloc (.cells #[.int .i64 k,.int .i64 id,.int .i64 n,.int .i64 ty,.slice ao ar.length ca,.slice to tt.length ct,.string (bs nm),.int .i64 pl] 41)=W at *;obtain⟨c0,c1,c2,c3,c4,c5,c6,c7⟩:=pF H0.out;by_cases hk:k=20∨k=21∨k=24∨k=26∨k=27∨k=28
 ·rcases hk with rfl | rfl | rfl | rfl | rfl | rfl
  all_goals
   generalize hA:ar.length=A at *;generalize hT:tt.length=T at *;have HA:=aa hA;have HT:=aa hT;clear hA hT;go_wp2_with fail
   all_goals
    go_ret;exact⟨L5.aw (by first | exact HB.out | (rw [←HB.out,Bool.eq_iff_iff];simp;done) | (rw [←HB.out,Bool.eq_iff_iff];simp;omega) | (rw [HA.out,HT.out];exact HB.out) | (rw [HA.out,HT.out,←HB.out,Bool.eq_iff_iff];simp;done) | (rw [HA.out,HT.out,←HB.out,Bool.eq_iff_iff];simp;omega)),B0.out⟩
 ·replace HB:Hid ((decide ((ar.length:Int)=tkN k) && decide ((tt.length:Int)=0))=jb k ar.length tt.length):=aa (by unfold jb;rw [if_neg (by omega),if_neg (by omega),if_neg (by omega),if_neg (by omega),if_neg (by omega),if_neg (by omega)]);have n20:(k == 20)=false:=by simp;omega
  have n21:(k == 21)=false:=by simp;omega
  have n24:(k == 24)=false:=by simp;omega
  have n26:(k == 26)=false:=by simp;omega
  have n27:(k == 27)=false:=by simp;omega
  have n28:(k == 28)=false:=by simp;omega
  clear hk;generalize hA:ar.length=A at *;generalize hT:tt.length=T at *;have HA:=aa hA;have HT:=aa hT;clear hA hT;go_wp2_with fail
  refine(L5.iz k W).mono ?_;rintro e w1 ⟨ao1,cap1,rfl,s1,b1⟩;have HTk:Hid ((L5.takes (L5.num k)).length=tkN k):=aa rfl;have htl:tkN k≤2:=by unfold tkN L5.takes;exact List.length_filter_le _ _
  have B1:=aa b1;rw [HTk.out];clear s1 b1;generalize tkN k=tk at *;go_wp2_with fail
  all_goals
   go_ret;exact⟨L5.aw (by first | exact HB.out | (rw [←HB.out,Bool.eq_iff_iff];simp;done) | (rw [←HB.out,Bool.eq_iff_iff];simp;omega) | (rw [HA.out,HT.out];exact HB.out) | (rw [HA.out,HT.out,←HB.out,Bool.eq_iff_iff];simp;done) | (rw [HA.out,HT.out,←HB.out,Bool.eq_iff_iff];simp;omega)),ae B0.out B1.out⟩
theorem DN (s:List UInt8):∃a b:Int,L3.lD (bs s)= .tuple #[.agg #[.int .i64 a,.int .i64 b],.int .i64 (fG s)]:=by
 have h:∃a b c:Int,L3.lD (bs s)= .tuple #[.agg #[.int .i64 a,.int .i64 b],.int .i64 c]:=by
  unfold L3.lD;split
  ·exact⟨_,_,_,rfl⟩
  ·split
   ·exact⟨_,_,_,rfl⟩
   ·unfold L3.nw;split
    ·exact⟨_,_,_,rfl⟩
    ·exact⟨_,_,_,rfl⟩
 obtain⟨a,b,c,h⟩:=h;have e:fG s=c:=by unfold fG;rw [h];rfl
 exact⟨a,b,by rw [h,e]⟩
def IG (k:Int) (nm:List UInt8):Int:=if k=10 then fG nm else if k=21 then(if L2.gn nm then 0 else 4)else(if nm= [] then 0 else 4)
theorem C5 (nm:List UInt8):(bs nm).toList.isEmpty=decide (nm= []):=by
 rw [ByteArray.toList_eq,eC]
 cases nm <;> simp
def aU (x:Ins):Int:=
 if(wW x.1 && L5.may x.1 x.2.2.2.1)=false then 2
 else if qj x.1 x.2.1 x.2.2.2.1=false then 8
 else if jb x.1 x.2.2.2.2.1.length x.2.2.2.2.2.1.length=false then 13
 else if ui x.1 x.2.2.1=false then 18
 else if x.2.2.2.2.1.any (byd 1048576)=true then 8
 else if x.2.2.2.2.2.1.any (byd 255)=true then 7
 else IG x.1 x.2.2.2.2.2.2.1
end Go.Proofs.YtaiaakklokahjaaGreatDoor
