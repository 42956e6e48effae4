/- Texts of one chain, joined. -/
import Derived.Test.YtljkgcfnoegibaaGreatDoorWcAD
import Derived.Test.YtljkgcfnoegibaaGreatDoorWcAT
set_option maxHeartbeats 4000000
set_option maxRecDepth 20000
namespace Go.Proofs.YtljkgcfnoegibaaGreatDoor
open Go Go.RowKit
open G (Tok Er Ins Fun peek0 peek1 atOf)
theorem name_ok {E:Int} {l r:List Tok} {s:List UInt8} (h:G.name namF E l= .ok (s,r)):r=l.tail∧peek0 l=s∧namF s=true:=by
 obtain⟨_,rfl,h3⟩:=G.one_ok (by simp [nam_nil]) h
 by_cases hc:namF (peek0 l)=true
 ·simp only [if_pos hc] at h3
  injection h3 with h4
  exact⟨rfl,h4,by rw [←h4];exact hc⟩
 ·simp only [if_neg hc] at h3;cases h3
theorem spot_ok {E v:Int} {l r:List Tok} (h:G.spot idxF E l= .ok (v,r)):((peek0 l).head? =some 64∧G.mark idxF 64 1048576 (peek0 l)=some v∧r=l.tail)∨((peek0 l).head? ≠some 64∧v=0∧r=l):=by
 unfold G.spot at h
 by_cases hc:(peek0 l).head? =some 64
 ·rw [if_pos hc] at h
  obtain⟨_,h2,h3⟩:=G.index_ok h
  exact .inl ⟨hc,h3,h2⟩
 ·rw [if_neg hc] at h
  cases h
  exact .inr ⟨hc,rfl,rfl⟩
theorem rcall (op id ty N:Int) (s:List UInt8) (p:Int) {a:Nat} {L:List Tok} {E:Int} {n:Nat} {l l2 l3 lf:List Tok} {args:List Int} (w:World) (h:RR a L E n l w) (h1:G.spot idxF E l= .ok (N,l2)) (h2:G.name namF E l2= .ok (s,l3)) (h3:G.values idxF E l3= .ok (args,lf)):
  Calls Tryz.prog 136 #[.pointer (some ⟨a,0,none⟩),.agg (bare8 op id 0 ty (bs []) p)] w (ROut a L E n (op,id,N,ty,args,[],s,p) lf w):=by
 obtain rfl:l3=l2.tail:=(name_ok h2).1
 obtain⟨i0,hi0,hz0,hz1,hz2⟩:=info_parts Tryz.info3
 have M0:Hid (MidR w a (w.heap.size+1+1) (w.heap.size+1) L E n (op,id,0,ty,[],[],[],p) l (((w.alloc (.cells (bare8 op id 0 ty (bs []) p) 47)).alloc (.cells (bare8 0 0 0 0 ⟨#[]⟩ 0) 47)).alloc (.cells (bare8 op id 0 ty (bs []) p) 47))):=hide (MidR.start h op id 0 ty [] p)
 have HN:=hide (name_ok h2)
 have HR4:Hid (G.valuesW idxF E (l2.tail.length+1) [] l2.tail= .ok (args,lf)):=hide h3
 have HS:=hide (spot_ok h1)
 have hz:(bs (peek0 l)).size≤65536:=by rw [bs_size];exact h.short.1
 clear h1 h2 h3
 clear h
 generalize hg:w.heap.size+1=g at *
 generalize hc:g+1=c at *
 go_enter Tryz.func136,Tryz.ntmps136
 go_upto_region 2 with fail
 show Code.wp _ _ _ _ (((w.alloc (.cells (bare8 op id 0 ty (bs []) p) 47)).alloc (.cells (bare8 0 0 0 0 ⟨#[]⟩ 0) 47)).alloc (.cells (bare8 op id 0 ty (bs []) p) 47))
 generalize ((w.alloc (.cells (bare8 op id 0 ty (bs []) p) 47)).alloc (.cells (bare8 0 0 0 0 ⟨#[]⟩ 0) 47)).alloc (.cells (bare8 op id 0 ty (bs []) p) 47)=W0 at *
 clear hg hc
 rcases first_of 64 (peek0 l)with ⟨hs,e0⟩ | ⟨x,r,hs,e0,hp,⟨hx,e1⟩ | ⟨hx,e1⟩⟩
 ·have hno:(peek0 l).head? ≠some 64:=by rw [hs];simp
  obtain⟨rfl,rfl⟩:N=0∧l2=l:=by
   rcases HS.out with ⟨q,_⟩ | ⟨_,q⟩
   ·exact absurd q hno
   ·exact q
  clear hs hno HS
  go_wp2_with fail
  refine(rpeek0 _ M0.out.1 rfl).mono ?_;rintro e w1 ⟨rfl,b1⟩
  have M2:=hide (M0.out.below b1)
  clear M0 b1
  generalize bs (peek0 l2)=C at *
  go_wp2_with fail
  clear e0
  refine(rname s _ M2.out.1 HN.out.2.1 HN.out.2.2).mono ?_;rintro e w3 ⟨rfl,a3⟩
  have M3:=hide (M2.out.ate a3)
  clear M2 a3
  obtain⟨va,vt,HC,HZ4,o1,o2,o3⟩:=M3.out.2.1.cells
  have cA:=HC 6 _ rfl
  have zA:=HZ4 6
  have M4:Hid (MidR w a c g L E n (op,id,0,ty,[],[],s,p) l2.tail (w3.setCell ⟨c,6,none⟩ (.string (bs s)))):=hide (M3.out.put (M3.out.2.1.setName s))
  clear HC HZ4 o1 o2 o3 M3
  go_wp2_with fail
  clear cA zA
  generalize w3.setCell ⟨c,6,none⟩ (.string (bs s))=W3 at *
  go_loopw [] (fun wr=>∃(f:Nat) (acc:List Int) (l':List Tok),Hid (MidR w a c g L E n (op,id,0,ty,acc,[],s,p) l' wr)∧l'.length < f∧acc.length+l'.length≤L.length∧Hid (G.valuesW idxF E f acc l'= .ok (args,lf))) (fun wr=>L.length - readAt a wr)
  case atStart=>exact⟨_,[],_,M4,Nat.lt_succ_self _,by rw [List.length_nil,Nat.zero_add];exact M4.out.1.len.1,HR4⟩
  case round=>
   obtain⟨f,acc,l',M,hf,hA,HR'⟩:=hrel
   have hra:=M.out.1.readAt
   have hll:=M.out.1.len
   obtain⟨f,rfl⟩:∃q,f=q+1:=⟨f - 1,by omega⟩
   go_wp2_with fail
   refine(rtaken _ M.out.1).mono ?_;rintro e w7 ⟨rfl,b7⟩
   have M7:=hide (M.out.below b7)
   have hra7:Hid (readAt a wr=L.length - l'.length):=hide hra
   clear M b7
   cases ht:G.taken l' with
   |false=>
    obtain⟨rfl,rfl⟩:acc=args∧l'=lf:=by have:=HR'.out;unfold G.valuesW at this;rw [if_neg (by simp [ht])] at this;cases this;exact⟨rfl,rfl⟩
    clear ht HR'
    obtain⟨va',vt',HC,HZ4,o1,o2,o3⟩:=M7.out.2.1.cells
    obtain⟨aoA,mA,cA,rfl⟩:=own_slice o1
    obtain⟨aoT,mT,cT,rfl⟩:=own_slice o2
    have y0:=HC 0 _ rfl
    have y1:=HC 1 _ rfl
    have y2:=HC 2 _ rfl
    have y3:=HC 3 _ rfl
    have y4:=HC 4 _ rfl
    have y5:=HC 5 _ rfl
    have y6:=HC 6 _ rfl
    have y7:=HC 7 _ rfl
    have hS:=M7.out.2.2.1
    obtain⟨o3a,o3b⟩:=o3 g ⟨_,_,hS⟩
    have hS:=hide hS
    have o1:=hide o1
    have o2:=hide o2
    clear HC HZ4 o3
    obtain⟨s0,s1,s2,s3,s4,s5,s6,s7,f0,f1,f2,f3,f4,f5,f6,f7⟩:=res8 hS.out
    have hcn:c≠g:=fun e=>M7.out.2.2.2.2.2.2 e.symm
    have FF:=hide (((((((((Far.refl g w7).set 0 (.int .i64 op)).set 1 (.int .i64 id)).set 2 (.int .i64 0)).set 3 (.int .i64 ty)).set 4 (.slice aoA mA cA)).set 5 (.slice aoT mT cT)).set 6 (.string (bs s))).set 7 (.int .i64 p))
    have KK:=hide (FF.out.kr M7.out.2.2.2.1 M7.out.2.2.2.2.2.1)
    have QQ:=hide (FF.out.rr M7.out.1 hS.out (by decide) (by have:=M7.out.lt;omega))
    have OO:=hide (⟨FF.out.own o1.out o3a,FF.out.own o2.out o3b⟩:_∧_)
    go_wp2_with fail
    exact bodyPost_ret (v:= .agg (insCells (op,id,0,ty,acc,[],s,p) (.slice aoA mA cA) (.slice aoT mT cT)).toArray) (by simp [results,Tryz.results136,go_sem,insCells,s0,s1,s2,s3,s4,s5,s6,s7]) rfl ⟨_,rfl,⟨_,_,rfl,OO.out.1,OO.out.2⟩,QQ.out,KK.out⟩
   |true=>
    obtain⟨v,l3,hv,hr3⟩:=then_inv (show G.andThen (G.value idxF E l') (fun v=>G.valuesW idxF E f (acc ++ [v]))= .ok (args,lf) from by have:=HR'.out;unfold G.valuesW at this;rwa [if_pos ht] at this)
    have hl3:l3.length+1≤l'.length:=by have h1:=tail_bulk (G.value_ok hv).1;have h2:=(G.value_ok hv).2.1;rw [h2];omega
    have HV:=hide hv
    have HR3:=hide hr3
    clear hv hr3 HR' ht
    go_wp2_with fail
    refine(rvalue _ M7.out.1 HV.out).mono ?_;rintro e w8 ⟨rfl,a8⟩
    have M8:=hide (M7.out.ate a8)
    clear M7 a8
    obtain⟨va,vt,HC,HZ4,o1,o2,o3⟩:=M8.out.2.1.cells
    have hcl9:=M8.out.lt
    have cA:=HC 4 _ rfl
    have zA:=HZ4 4
    have hne:va.ownBlock≠some c:=(o3 c (by obtain⟨ua,ut,q1,_⟩:=M8.out.2.1;exact⟨_,_,q1⟩)).1
    obtain⟨ao9,cp9,rfl⟩:=own_len o1
    have O9:=hide o1
    obtain⟨cB,zB⟩:=Cel.below (below_box w8 (.cells #[.int .i64 v] 3)) hcl9.2.2.2.1 cA zA
    clear HC HZ4 o1 o2 o3
    have t29:acc.length+1≤maxLen:=by unfold maxLen;omega
    have t39:(acc.length+1) * 8≤140737488355328:=by omega
    have t49:w.heap.size≤(w8.alloc (.cells #[.int .i64 v] 3)).heap.size:=by simp;omega
    have t59:c < (w8.alloc (.cells #[.int .i64 v] 3)).heap.size:=by simp;omega
    go_wp2_with (at_builtin;refine wpList_append_lies _ rfl (.tmp 29) (.tmp 31) 33 rfl w.heap.size 3 i0 _ 1 8 Tryz.underlying33 hi0 hz0 hz1 hz2 rfl (by decide) _ _ _ rfl (O9.out.alloc _) ⟨w8.heap.size,0,none⟩ 1 1 [.int .i64 v] rfl rfl one_cell one_one (by decide) t29 t39 t49 (w8.heap.size+1) (by simp) ?_;intro gg9 cap9 w9 hown9 hgrow9 hat9 hlt9;obtain⟨cC9,zC9⟩:=Cel.grown hgrow9 t59 hne cB zB)
    have M9:=hide ((M8.out.below (below_box w8 (.cells #[.int .i64 v] 3))).arg cB hown9 hgrow9 (hat9.imp (fun e=>e) (fun e=>e.trans (by simp))))
    have hra9:=M9.out.1.readAt
    have hll9:=M9.out.1.len
    go_roundw
    case rel=>exact⟨f,acc ++ [v],l3,M9,by omega,by simp;omega,HR3⟩
    case measure=>rw [hra9];omega
 ·have hyes:(peek0 l).head? =some 64:=by rw [hs,hx];rfl
  obtain⟨hm,rfl⟩:G.mark idxF 64 1048576 (peek0 l)=some N∧l2=l.tail:=by
   rcases HS.out with ⟨_,q⟩ | ⟨q,_⟩
   ·exact q
   ·exact absurd hyes q
  replace e1:((bs (peek0 l))[0].toNat:Int)=64:=e1 hp
  have HM:=hide hm
  clear hs hyes HS hx hm
  have HPK:=hide (rfl:peek0 l=peek0 l)
  generalize hC:bs (peek0 l)=C at *
  have hC:=hide hC
  go_wp2_with fail
  refine(rpeek0 _ M0.out.1 rfl).mono ?_;rintro e w1 ⟨rfl,b1⟩
  rw [hC.out]
  have M1:=hide (M0.out.below b1)
  clear M0 b1
  go_wp2_with fail
  clear e0 e1 hp
  refine(rindex 64 1048576 3 N _ M1.out.1 rfl HM.out).mono ?_;rintro e w2 ⟨rfl,a2⟩
  have M1a:=hide (M1.out.ate a2)
  clear M1 a2
  obtain⟨va,vt,HC,HZ4,o1,o2,o3⟩:=M1a.out.2.1.cells
  have cA:=HC 2 _ rfl
  have zA:=HZ4 2
  have M2:Hid (MidR w a c g L E n (op,id,N,ty,[],[],[],p) l.tail (w2.setCell ⟨c,2,none⟩ (.int .i64 N))):=hide (M1a.out.put (M1a.out.2.1.setN N))
  clear HC HZ4 o1 o2 o3 M1a
  go_wp2_with fail
  clear cA zA
  generalize w2.setCell ⟨c,2,none⟩ (.int .i64 N)=W2 at *
  clear va vt
  refine(rname s _ M2.out.1 HN.out.2.1 HN.out.2.2).mono ?_;rintro e w3 ⟨rfl,a3⟩
  have M3:=hide (M2.out.ate a3)
  clear M2 a3
  obtain⟨va,vt,HC,HZ4,o1,o2,o3⟩:=M3.out.2.1.cells
  have cA:=HC 6 _ rfl
  have zA:=HZ4 6
  have M4:Hid (MidR w a c g L E n (op,id,N,ty,[],[],s,p) l.tail.tail (w3.setCell ⟨c,6,none⟩ (.string (bs s)))):=hide (M3.out.put (M3.out.2.1.setName s))
  clear HC HZ4 o1 o2 o3 M3
  go_wp2_with fail
  clear cA zA
  generalize w3.setCell ⟨c,6,none⟩ (.string (bs s))=W3 at *
  go_loopw [] (fun wr=>∃(f:Nat) (acc:List Int) (l':List Tok),Hid (MidR w a c g L E n (op,id,N,ty,acc,[],s,p) l' wr)∧l'.length < f∧acc.length+l'.length≤L.length∧Hid (G.valuesW idxF E f acc l'= .ok (args,lf))) (fun wr=>L.length - readAt a wr)
  case atStart=>exact⟨_,[],_,M4,Nat.lt_succ_self _,by rw [List.length_nil,Nat.zero_add];exact M4.out.1.len.1,HR4⟩
  case round=>
   obtain⟨f,acc,l',M,hf,hA,HR'⟩:=hrel
   have hra:=M.out.1.readAt
   have hll:=M.out.1.len
   obtain⟨f,rfl⟩:∃q,f=q+1:=⟨f - 1,by omega⟩
   go_wp2_with fail
   refine(rtaken _ M.out.1).mono ?_;rintro e w7 ⟨rfl,b7⟩
   have M7:=hide (M.out.below b7)
   have hra7:Hid (readAt a wr=L.length - l'.length):=hide hra
   clear M b7
   cases ht:G.taken l' with
   |false=>
    obtain⟨rfl,rfl⟩:acc=args∧l'=lf:=by have:=HR'.out;unfold G.valuesW at this;rw [if_neg (by simp [ht])] at this;cases this;exact⟨rfl,rfl⟩
    clear ht HR'
    obtain⟨va',vt',HC,HZ4,o1,o2,o3⟩:=M7.out.2.1.cells
    obtain⟨aoA,mA,cA,rfl⟩:=own_slice o1
    obtain⟨aoT,mT,cT,rfl⟩:=own_slice o2
    have y0:=HC 0 _ rfl
    have y1:=HC 1 _ rfl
    have y2:=HC 2 _ rfl
    have y3:=HC 3 _ rfl
    have y4:=HC 4 _ rfl
    have y5:=HC 5 _ rfl
    have y6:=HC 6 _ rfl
    have y7:=HC 7 _ rfl
    have hS:=M7.out.2.2.1
    obtain⟨o3a,o3b⟩:=o3 g ⟨_,_,hS⟩
    have hS:=hide hS
    have o1:=hide o1
    have o2:=hide o2
    clear HC HZ4 o3
    obtain⟨s0,s1,s2,s3,s4,s5,s6,s7,f0,f1,f2,f3,f4,f5,f6,f7⟩:=res8 hS.out
    have hcn:c≠g:=fun e=>M7.out.2.2.2.2.2.2 e.symm
    have FF:=hide (((((((((Far.refl g w7).set 0 (.int .i64 op)).set 1 (.int .i64 id)).set 2 (.int .i64 N)).set 3 (.int .i64 ty)).set 4 (.slice aoA mA cA)).set 5 (.slice aoT mT cT)).set 6 (.string (bs s))).set 7 (.int .i64 p))
    have KK:=hide (FF.out.kr M7.out.2.2.2.1 M7.out.2.2.2.2.2.1)
    have QQ:=hide (FF.out.rr M7.out.1 hS.out (by decide) (by have:=M7.out.lt;omega))
    have OO:=hide (⟨FF.out.own o1.out o3a,FF.out.own o2.out o3b⟩:_∧_)
    go_wp2_with fail
    exact bodyPost_ret (v:= .agg (insCells (op,id,N,ty,acc,[],s,p) (.slice aoA mA cA) (.slice aoT mT cT)).toArray) (by simp [results,Tryz.results136,go_sem,insCells,s0,s1,s2,s3,s4,s5,s6,s7]) rfl ⟨_,rfl,⟨_,_,rfl,OO.out.1,OO.out.2⟩,QQ.out,KK.out⟩
   |true=>
    obtain⟨v,l3,hv,hr3⟩:=then_inv (show G.andThen (G.value idxF E l') (fun v=>G.valuesW idxF E f (acc ++ [v]))= .ok (args,lf) from by have:=HR'.out;unfold G.valuesW at this;rwa [if_pos ht] at this)
    have hl3:l3.length+1≤l'.length:=by have h1:=tail_bulk (G.value_ok hv).1;have h2:=(G.value_ok hv).2.1;rw [h2];omega
    have HV:=hide hv
    have HR3:=hide hr3
    clear hv hr3 HR' ht
    go_wp2_with fail
    refine(rvalue _ M7.out.1 HV.out).mono ?_;rintro e w8 ⟨rfl,a8⟩
    have M8:=hide (M7.out.ate a8)
    clear M7 a8
    obtain⟨va,vt,HC,HZ4,o1,o2,o3⟩:=M8.out.2.1.cells
    have hcl9:=M8.out.lt
    have cA:=HC 4 _ rfl
    have zA:=HZ4 4
    have hne:va.ownBlock≠some c:=(o3 c (by obtain⟨ua,ut,q1,_⟩:=M8.out.2.1;exact⟨_,_,q1⟩)).1
    obtain⟨ao9,cp9,rfl⟩:=own_len o1
    have O9:=hide o1
    obtain⟨cB,zB⟩:=Cel.below (below_box w8 (.cells #[.int .i64 v] 3)) hcl9.2.2.2.1 cA zA
    clear HC HZ4 o1 o2 o3
    have t29:acc.length+1≤maxLen:=by unfold maxLen;omega
    have t39:(acc.length+1) * 8≤140737488355328:=by omega
    have t49:w.heap.size≤(w8.alloc (.cells #[.int .i64 v] 3)).heap.size:=by simp;omega
    have t59:c < (w8.alloc (.cells #[.int .i64 v] 3)).heap.size:=by simp;omega
    go_wp2_with (at_builtin;refine wpList_append_lies _ rfl (.tmp 29) (.tmp 31) 33 rfl w.heap.size 3 i0 _ 1 8 Tryz.underlying33 hi0 hz0 hz1 hz2 rfl (by decide) _ _ _ rfl (O9.out.alloc _) ⟨w8.heap.size,0,none⟩ 1 1 [.int .i64 v] rfl rfl one_cell one_one (by decide) t29 t39 t49 (w8.heap.size+1) (by simp) ?_;intro gg9 cap9 w9 hown9 hgrow9 hat9 hlt9;obtain⟨cC9,zC9⟩:=Cel.grown hgrow9 t59 hne cB zB)
    have M9:=hide ((M8.out.below (below_box w8 (.cells #[.int .i64 v] 3))).arg cB hown9 hgrow9 (hat9.imp (fun e=>e) (fun e=>e.trans (by simp))))
    have hra9:=M9.out.1.readAt
    have hll9:=M9.out.1.len
    go_roundw
    case rel=>exact⟨f,acc ++ [v],l3,M9,by omega,by simp;omega,HR3⟩
    case measure=>rw [hra9];omega
 ·have hno:(peek0 l).head? ≠some 64:=by rw [hs];simp [hx]
  obtain⟨rfl,rfl⟩:N=0∧l2=l:=by
   rcases HS.out with ⟨q,_⟩ | ⟨_,q⟩
   ·exact absurd q hno
   ·exact q
  replace e1:(((bs (peek0 l2))[0].toNat:Int) == 64)=false:=e1 hp
  clear hs hno HS hx
  go_wp2_with fail
  refine(rpeek0 _ M0.out.1 rfl).mono ?_;rintro e w1 ⟨rfl,b1⟩
  have M2:=hide (M0.out.below b1)
  clear M0 b1
  generalize bs (peek0 l2)=C at *
  go_wp2_with fail
  clear e0
  refine(rname s _ M2.out.1 HN.out.2.1 HN.out.2.2).mono ?_;rintro e w3 ⟨rfl,a3⟩
  have M3:=hide (M2.out.ate a3)
  clear M2 a3
  obtain⟨va,vt,HC,HZ4,o1,o2,o3⟩:=M3.out.2.1.cells
  have cA:=HC 6 _ rfl
  have zA:=HZ4 6
  have M4:Hid (MidR w a c g L E n (op,id,0,ty,[],[],s,p) l2.tail (w3.setCell ⟨c,6,none⟩ (.string (bs s)))):=hide (M3.out.put (M3.out.2.1.setName s))
  clear HC HZ4 o1 o2 o3 M3
  go_wp2_with fail
  clear cA zA
  generalize w3.setCell ⟨c,6,none⟩ (.string (bs s))=W3 at *
  go_loopw [] (fun wr=>∃(f:Nat) (acc:List Int) (l':List Tok),Hid (MidR w a c g L E n (op,id,0,ty,acc,[],s,p) l' wr)∧l'.length < f∧acc.length+l'.length≤L.length∧Hid (G.valuesW idxF E f acc l'= .ok (args,lf))) (fun wr=>L.length - readAt a wr)
  case atStart=>exact⟨_,[],_,M4,Nat.lt_succ_self _,by rw [List.length_nil,Nat.zero_add];exact M4.out.1.len.1,HR4⟩
  case round=>
   obtain⟨f,acc,l',M,hf,hA,HR'⟩:=hrel
   have hra:=M.out.1.readAt
   have hll:=M.out.1.len
   obtain⟨f,rfl⟩:∃q,f=q+1:=⟨f - 1,by omega⟩
   go_wp2_with fail
   refine(rtaken _ M.out.1).mono ?_;rintro e w7 ⟨rfl,b7⟩
   have M7:=hide (M.out.below b7)
   have hra7:Hid (readAt a wr=L.length - l'.length):=hide hra
   clear M b7
   cases ht:G.taken l' with
   |false=>
    obtain⟨rfl,rfl⟩:acc=args∧l'=lf:=by have:=HR'.out;unfold G.valuesW at this;rw [if_neg (by simp [ht])] at this;cases this;exact⟨rfl,rfl⟩
    clear ht HR'
    obtain⟨va',vt',HC,HZ4,o1,o2,o3⟩:=M7.out.2.1.cells
    obtain⟨aoA,mA,cA,rfl⟩:=own_slice o1
    obtain⟨aoT,mT,cT,rfl⟩:=own_slice o2
    have y0:=HC 0 _ rfl
    have y1:=HC 1 _ rfl
    have y2:=HC 2 _ rfl
    have y3:=HC 3 _ rfl
    have y4:=HC 4 _ rfl
    have y5:=HC 5 _ rfl
    have y6:=HC 6 _ rfl
    have y7:=HC 7 _ rfl
    have hS:=M7.out.2.2.1
    obtain⟨o3a,o3b⟩:=o3 g ⟨_,_,hS⟩
    have hS:=hide hS
    have o1:=hide o1
    have o2:=hide o2
    clear HC HZ4 o3
    obtain⟨s0,s1,s2,s3,s4,s5,s6,s7,f0,f1,f2,f3,f4,f5,f6,f7⟩:=res8 hS.out
    have hcn:c≠g:=fun e=>M7.out.2.2.2.2.2.2 e.symm
    have FF:=hide (((((((((Far.refl g w7).set 0 (.int .i64 op)).set 1 (.int .i64 id)).set 2 (.int .i64 0)).set 3 (.int .i64 ty)).set 4 (.slice aoA mA cA)).set 5 (.slice aoT mT cT)).set 6 (.string (bs s))).set 7 (.int .i64 p))
    have KK:=hide (FF.out.kr M7.out.2.2.2.1 M7.out.2.2.2.2.2.1)
    have QQ:=hide (FF.out.rr M7.out.1 hS.out (by decide) (by have:=M7.out.lt;omega))
    have OO:=hide (⟨FF.out.own o1.out o3a,FF.out.own o2.out o3b⟩:_∧_)
    go_wp2_with fail
    exact bodyPost_ret (v:= .agg (insCells (op,id,0,ty,acc,[],s,p) (.slice aoA mA cA) (.slice aoT mT cT)).toArray) (by simp [results,Tryz.results136,go_sem,insCells,s0,s1,s2,s3,s4,s5,s6,s7]) rfl ⟨_,rfl,⟨_,_,rfl,OO.out.1,OO.out.2⟩,QQ.out,KK.out⟩
   |true=>
    obtain⟨v,l3,hv,hr3⟩:=then_inv (show G.andThen (G.value idxF E l') (fun v=>G.valuesW idxF E f (acc ++ [v]))= .ok (args,lf) from by have:=HR'.out;unfold G.valuesW at this;rwa [if_pos ht] at this)
    have hl3:l3.length+1≤l'.length:=by have h1:=tail_bulk (G.value_ok hv).1;have h2:=(G.value_ok hv).2.1;rw [h2];omega
    have HV:=hide hv
    have HR3:=hide hr3
    clear hv hr3 HR' ht
    go_wp2_with fail
    refine(rvalue _ M7.out.1 HV.out).mono ?_;rintro e w8 ⟨rfl,a8⟩
    have M8:=hide (M7.out.ate a8)
    clear M7 a8
    obtain⟨va,vt,HC,HZ4,o1,o2,o3⟩:=M8.out.2.1.cells
    have hcl9:=M8.out.lt
    have cA:=HC 4 _ rfl
    have zA:=HZ4 4
    have hne:va.ownBlock≠some c:=(o3 c (by obtain⟨ua,ut,q1,_⟩:=M8.out.2.1;exact⟨_,_,q1⟩)).1
    obtain⟨ao9,cp9,rfl⟩:=own_len o1
    have O9:=hide o1
    obtain⟨cB,zB⟩:=Cel.below (below_box w8 (.cells #[.int .i64 v] 3)) hcl9.2.2.2.1 cA zA
    clear HC HZ4 o1 o2 o3
    have t29:acc.length+1≤maxLen:=by unfold maxLen;omega
    have t39:(acc.length+1) * 8≤140737488355328:=by omega
    have t49:w.heap.size≤(w8.alloc (.cells #[.int .i64 v] 3)).heap.size:=by simp;omega
    have t59:c < (w8.alloc (.cells #[.int .i64 v] 3)).heap.size:=by simp;omega
    go_wp2_with (at_builtin;refine wpList_append_lies _ rfl (.tmp 29) (.tmp 31) 33 rfl w.heap.size 3 i0 _ 1 8 Tryz.underlying33 hi0 hz0 hz1 hz2 rfl (by decide) _ _ _ rfl (O9.out.alloc _) ⟨w8.heap.size,0,none⟩ 1 1 [.int .i64 v] rfl rfl one_cell one_one (by decide) t29 t39 t49 (w8.heap.size+1) (by simp) ?_;intro gg9 cap9 w9 hown9 hgrow9 hat9 hlt9;obtain⟨cC9,zC9⟩:=Cel.grown hgrow9 t59 hne cB zB)
    have M9:=hide ((M8.out.below (below_box w8 (.cells #[.int .i64 v] 3))).arg cB hown9 hgrow9 (hat9.imp (fun e=>e) (fun e=>e.trans (by simp))))
    have hra9:=M9.out.1.readAt
    have hll9:=M9.out.1.len
    go_roundw
    case rel=>exact⟨f,acc ++ [v],l3,M9,by omega,by simp;omega,HR3⟩
    case measure=>rw [hra9];omega
def restG (E:Int):List UInt8→Ins→List Tok→Except Er (Ins × List Tok)
 |[],x,l=> .ok (x,l)
 |c :: r,x,l=>
  if c=118 then G.andThen (G.value idxF E l) fun v l'=>restG E r (addArg x v) l'
  else if c=115 then G.andThen (G.number numF E 0 15 l) fun v l'=>restG E r (setN x v) l'
  else if c=110 then G.andThen (G.number numF E 0 1048576 l) fun v l'=>restG E r (setN x v) l'
  else G.andThen (G.label idxF E l) fun v l'=>restG E r (addTo x v) l'
theorem drop_at {s:List UInt8} {k:Nat} (h:k < s.length):∃c,s[k]? =some c∧s.drop k=c :: s.drop (k+1):=⟨s[k],List.getElem?_eq_getElem h,List.drop_eq_getElem_cons h⟩
theorem bs_at {s:List UInt8} {k:Nat} {c:UInt8} (h:s[k]? =some c):∃hk:k < (bs s).size,(bs s)[k]=c:=by
 obtain⟨h1,h2⟩:=List.getElem?_eq_some_iff.1 h
 exact⟨by rw [bs_size];exact h1,h2⟩
theorem rrest (s:List UInt8) (op id nn ty:Int) (nm:List UInt8) (p:Int) {a:Nat} {L:List Tok} {E:Int} {n:Nat} {l lf:List Tok} {y:Ins} (w:World) (h:RR a L E n l w) (hs:∀c∈s,c=118∨c=115∨c=110∨c=108) (hsl:s.length≤100) (hr:restG E s (op,id,nn,ty,[],[],nm,p) l= .ok (y,lf)):
  Calls Tryz.prog 138 #[.pointer (some ⟨a,0,none⟩),.agg (bare8 op id nn ty (bs nm) p),.string (bs s)] w (ROut a L E n y lf w):=by
 obtain⟨i0,hi0,hz0,hz1,hz2⟩:=info_parts Tryz.info3
 have M0:Hid (MidR w a (w.heap.size+1+1) (w.heap.size+1) L E n (op,id,nn,ty,[],[],nm,p) l (((w.alloc (.cells (bare8 op id nn ty (bs nm) p) 47)).alloc (.cells (bare8 0 0 0 0 ⟨#[]⟩ 0) 47)).alloc (.cells (bare8 op id nn ty (bs nm) p) 47))):=hide (MidR.start h op id nn ty nm p)
 have HR:=hide hr
 have HS:=hide hs
 have hz:(bs s).size≤100:=by rw [bs_size];exact hsl
 have HZ:=hide (bs_size s)
 clear hr hs
 clear h
 generalize hg:w.heap.size+1=g at *
 generalize hc:g+1=c at *
 go_enter Tryz.func138,Tryz.ntmps138
 go_upto_region 2 with fail
 show Code.wp _ _ _ _ (((w.alloc (.cells (bare8 op id nn ty (bs nm) p) 47)).alloc (.cells (bare8 0 0 0 0 ⟨#[]⟩ 0) 47)).alloc (.cells (bare8 op id nn ty (bs nm) p) 47))
 generalize ((w.alloc (.cells (bare8 op id nn ty (bs nm) p) 47)).alloc (.cells (bare8 0 0 0 0 ⟨#[]⟩ 0) 47)).alloc (.cells (bare8 op id nn ty (bs nm) p) 47)=W0 at *
 clear hg hc
 go_wp2_with fail
 go_loopw [8] (fun i wr=>∃(k:Nat) (x':Ins) (l':List Tok),i= .int .i64 k∧k≤s.length∧x'.2.2.2.2.1.length≤k∧x'.2.2.2.2.2.1.length≤k∧Hid (MidR w a c g L E n x' l' wr)∧Hid (restG E (s.drop k) x' l'= .ok (y,lf))) (fun i _=>s.length - (intOf i).toNat)
 case atStart=>exact⟨0,_,l,rfl,Nat.zero_le _,Nat.le_refl _,Nat.le_refl _,M0,HR⟩
 case round=>
  obtain⟨k,x',l',rfl,hk,hA,hT,M,HR'⟩:=hrel
  by_cases hlt:k < s.length
  ·obtain⟨d,hd,hdr⟩:=drop_at hlt
   obtain⟨hkz,hb⟩:=bs_at hd
   have HD:=HS.out d (List.mem_of_getElem? hd)
   have hRR:Hid (restG E (d :: s.drop (k+1)) x' l'= .ok (y,lf)):=hide (by rw [←hdr];exact HR'.out)
   have hkz':(k:Int) < ((bs s).size:Int):=by omega
   clear hd hdr HR'
   rcases HD with rfl | rfl | rfl | rfl
   ·obtain⟨v,l2,hv,hr2⟩:=then_inv (show G.andThen (G.value idxF E l') (fun v l''=>restG E (s.drop (k+1)) (addArg x' v) l'')= .ok (y,lf) from hRR.out)
    have hb1:((bs s)[k].toNat:Int)=118:=by rw [hb];rfl
    have HV:=hide hv
    have HR2:=hide hr2
    clear hb hv hr2 hRR
    go_wp2_with fail
    refine(rvalue _ M.out.1 HV.out).mono ?_;rintro e w1 ⟨rfl,a1⟩
    have M1:=hide (M.out.ate a1)
    clear M a1
    obtain⟨va,vt,HC,HZ4,o1,o2,o3⟩:=M1.out.2.1.cells
    have hcl5:=M1.out.lt
    have cA:=HC 4 _ rfl
    have zA:=HZ4 4
    have hne:va.ownBlock≠some c:=(o3 c (by obtain⟨ua,ut,q1,_⟩:=M1.out.2.1;exact⟨_,_,q1⟩)).1
    obtain⟨ao5,cp5,rfl⟩:=own_len o1
    have O5:=hide o1
    obtain⟨cB,zB⟩:=Cel.below (below_box w1 (.cells #[.int .i64 v] 3)) hcl5.2.2.2.1 cA zA
    clear HC HZ4 o1 o2 o3
    have t25:x'.2.2.2.2.1.length+1≤maxLen:=by unfold maxLen;omega
    have t35:(x'.2.2.2.2.1.length+1) * 8≤140737488355328:=by omega
    have t45:w.heap.size≤(w1.alloc (.cells #[.int .i64 v] 3)).heap.size:=by simp;omega
    have t55:c < (w1.alloc (.cells #[.int .i64 v] 3)).heap.size:=by simp;omega
    go_wp2_with (at_builtin;refine wpList_append_lies _ rfl (.tmp 26) (.tmp 28) 33 rfl w.heap.size 3 i0 _ 1 8 Tryz.underlying33 hi0 hz0 hz1 hz2 rfl (by decide) _ _ _ rfl (O5.out.alloc _) ⟨w1.heap.size,0,none⟩ 1 1 [.int .i64 v] rfl rfl one_cell one_one (by decide) t25 t35 t45 (w1.heap.size+1) (by simp) ?_;intro gg5 cap5 w5 hown5 hgrow5 hat5 hlt5;obtain⟨cC5,zC5⟩:=Cel.grown hgrow5 t55 hne cB zB)
    have M3:=hide ((M1.out.below (below_box w1 (.cells #[.int .i64 v] 3))).arg cB hown5 hgrow5 (hat5.imp (fun e=>e) (fun e=>e.trans (by simp))))
    go_roundw
    case rel=>exact⟨k+1,_,l2,by go_num,by omega,by(show _≤_+1;grind [addArg,addTo,setN]),by(show _≤_+1;grind [addArg,addTo,setN]),M3,HR2⟩
    case measure=>simp [intOf];omega
   ·obtain⟨v,l2,hv,hr2⟩:=then_inv (show G.andThen (G.number numF E 0 15 l') (fun v l''=>restG E (s.drop (k+1)) (setN x' v) l'')= .ok (y,lf) from hRR.out)
    have hb1:((bs s)[k].toNat:Int)=115:=by rw [hb];rfl
    obtain rfl:l2=l'.tail:=(number_ok hv).1
    have HV:=hide hv
    have HR2:=hide hr2
    clear hb hv hr2 hRR
    go_wp2_with fail
    refine(rnumber 0 15 v _ M.out.1 (number_ok HV.out).2.1 (number_ok HV.out).2.2.1 (number_ok HV.out).2.2.2).mono ?_;rintro e w1 ⟨rfl,a1⟩
    have M1:=hide (M.out.ate a1)
    clear M a1
    obtain⟨va,vt,HC,HZ4,o1,o2,o3⟩:=M1.out.2.1.cells
    have cA:=HC 2 _ rfl
    have zA:=HZ4 2
    have M3:=hide (M1.out.put (M1.out.2.1.setN v))
    clear HC HZ4 o1 o2 o3
    go_wp2_with fail
    go_roundw
    case rel=>exact⟨k+1,_,l'.tail,by go_num,by omega,by(show _≤_+1;grind [addArg,addTo,setN]),by(show _≤_+1;grind [addArg,addTo,setN]),M3,HR2⟩
    case measure=>simp [intOf];omega
   ·obtain⟨v,l2,hv,hr2⟩:=then_inv (show G.andThen (G.number numF E 0 1048576 l') (fun v l''=>restG E (s.drop (k+1)) (setN x' v) l'')= .ok (y,lf) from hRR.out)
    have hb1:((bs s)[k].toNat:Int)=110:=by rw [hb];rfl
    obtain rfl:l2=l'.tail:=(number_ok hv).1
    have HV:=hide hv
    have HR2:=hide hr2
    clear hb hv hr2 hRR
    go_wp2_with fail
    refine(rnumber 0 1048576 v _ M.out.1 (number_ok HV.out).2.1 (number_ok HV.out).2.2.1 (number_ok HV.out).2.2.2).mono ?_;rintro e w1 ⟨rfl,a1⟩
    have M1:=hide (M.out.ate a1)
    clear M a1
    obtain⟨va,vt,HC,HZ4,o1,o2,o3⟩:=M1.out.2.1.cells
    have cA:=HC 2 _ rfl
    have zA:=HZ4 2
    have M3:=hide (M1.out.put (M1.out.2.1.setN v))
    clear HC HZ4 o1 o2 o3
    go_wp2_with fail
    go_roundw
    case rel=>exact⟨k+1,_,l'.tail,by go_num,by omega,by(show _≤_+1;grind [addArg,addTo,setN]),by(show _≤_+1;grind [addArg,addTo,setN]),M3,HR2⟩
    case measure=>simp [intOf];omega
   ·obtain⟨v,l2,hv,hr2⟩:=then_inv (show G.andThen (G.label idxF E l') (fun v l''=>restG E (s.drop (k+1)) (addTo x' v) l'')= .ok (y,lf) from hRR.out)
    have hb1:((bs s)[k].toNat:Int)=108:=by rw [hb];rfl
    have HV:=hide hv
    have HR2:=hide hr2
    clear hb hv hr2 hRR
    go_wp2_with fail
    refine(rlabel _ M.out.1 HV.out).mono ?_;rintro e w1 ⟨rfl,a1⟩
    have M1:=hide (M.out.ate a1)
    clear M a1
    obtain⟨va,vt,HC,HZ4,o1,o2,o3⟩:=M1.out.2.1.cells
    have hcl5:=M1.out.lt
    have cA:=HC 5 _ rfl
    have zA:=HZ4 5
    have hne:vt.ownBlock≠some c:=(o3 c (by obtain⟨ua,ut,q1,_⟩:=M1.out.2.1;exact⟨_,_,q1⟩)).2
    obtain⟨ao5,cp5,rfl⟩:=own_len o2
    have O5:=hide o2
    obtain⟨cB,zB⟩:=Cel.below (below_box w1 (.cells #[.int .i64 v] 3)) hcl5.2.2.2.1 cA zA
    clear HC HZ4 o1 o2 o3
    have t25:x'.2.2.2.2.2.1.length+1≤maxLen:=by unfold maxLen;omega
    have t35:(x'.2.2.2.2.2.1.length+1) * 8≤140737488355328:=by omega
    have t45:w.heap.size≤(w1.alloc (.cells #[.int .i64 v] 3)).heap.size:=by simp;omega
    have t55:c < (w1.alloc (.cells #[.int .i64 v] 3)).heap.size:=by simp;omega
    go_wp2_with (at_builtin;refine wpList_append_lies _ rfl (.tmp 46) (.tmp 48) 33 rfl w.heap.size 3 i0 _ 1 8 Tryz.underlying33 hi0 hz0 hz1 hz2 rfl (by decide) _ _ _ rfl (O5.out.alloc _) ⟨w1.heap.size,0,none⟩ 1 1 [.int .i64 v] rfl rfl one_cell one_one (by decide) t25 t35 t45 (w1.heap.size+1) (by simp) ?_;intro gg5 cap5 w5 hown5 hgrow5 hat5 hlt5;obtain⟨cC5,zC5⟩:=Cel.grown hgrow5 t55 hne cB zB)
    have M3:=hide ((M1.out.below (below_box w1 (.cells #[.int .i64 v] 3))).to cB hown5 hgrow5 (hat5.imp (fun e=>e) (fun e=>e.trans (by simp))))
    go_roundw
    case rel=>exact⟨k+1,_,l2,by go_num,by omega,by(show _≤_+1;grind [addArg,addTo,setN]),by(show _≤_+1;grind [addArg,addTo,setN]),M3,HR2⟩
    case measure=>simp [intOf];omega
  ·have hk2:k=s.length:=by omega
   have HE:Hid (restG E [] x' l'= .ok (y,lf)):=hide (by have:=HR'.out;rwa [hk2,List.drop_length] at this)
   obtain⟨rfl,rfl⟩:x'=y∧l'=lf:=by have:=HE.out;cases this;exact⟨rfl,rfl⟩
   have hkz':¬(k:Int) < ((bs s).size:Int):=by have:=HZ.out;omega
   have hkz2:decide ((k:Int) < ((bs s).size:Int))=false:=by simpa using hkz'
   obtain⟨va',vt',HC,HZ4,o1,o2,o3⟩:=M.out.2.1.cells
   obtain⟨aoA,mA,cA,rfl⟩:=own_slice o1
   obtain⟨aoT,mT,cT,rfl⟩:=own_slice o2
   have y0:=HC 0 _ rfl
   have y1:=HC 1 _ rfl
   have y2:=HC 2 _ rfl
   have y3:=HC 3 _ rfl
   have y4:=HC 4 _ rfl
   have y5:=HC 5 _ rfl
   have y6:=HC 6 _ rfl
   have y7:=HC 7 _ rfl
   have hS:=M.out.2.2.1
   obtain⟨o3a,o3b⟩:=o3 g ⟨_,_,hS⟩
   have hS:=hide hS
   have o1:=hide o1
   have o2:=hide o2
   clear HC HZ4 o3
   obtain⟨s0,s1,s2,s3,s4,s5,s6,s7,f0,f1,f2,f3,f4,f5,f6,f7⟩:=res8 hS.out
   have hcn:c≠g:=fun e=>M.out.2.2.2.2.2.2 e.symm
   have FF:=hide (((((((((Far.refl g wr).set 0 (.int .i64 x'.1)).set 1 (.int .i64 x'.2.1)).set 2 (.int .i64 x'.2.2.1)).set 3 (.int .i64 x'.2.2.2.1)).set 4 (.slice aoA mA cA)).set 5 (.slice aoT mT cT)).set 6 (.string (bs x'.2.2.2.2.2.2.1))).set 7 (.int .i64 x'.2.2.2.2.2.2.2))
   have KK:=hide (FF.out.kr M.out.2.2.2.1 M.out.2.2.2.2.2.1)
   have QQ:=hide (FF.out.rr M.out.1 hS.out (by decide) (by have:=M.out.lt;omega))
   have OO:=hide (⟨FF.out.own o1.out o3a,FF.out.own o2.out o3b⟩:_∧_)
   go_wp2_with fail
   exact bodyPost_ret (v:= .agg (insCells x' (.slice aoA mA cA) (.slice aoT mT cT)).toArray) (by simp [results,Tryz.results138,go_sem,insCells,s0,s1,s2,s3,s4,s5,s6,s7]) rfl ⟨_,rfl,⟨_,_,rfl,OO.out.1,OO.out.2⟩,QQ.out,KK.out⟩
def letG (op:Int):List UInt8:=
 if op=11 then [118,115] else if op=12 then [118,115] else if op=15 then [118,115] else if op=13 then [118,115,118] else if op=14 then [118,115,118]
 else if op=23 then [110] else if op=24 then [118,110] else if op=26 then [108] else if op=27 then [118,108,108] else List.replicate (tksF op) 118
theorem tks_le (op:Int):tksF op≤2:=by
 unfold tksF L5.takes
 exact List.length_filter_le _ _
theorem v_more (k:Nat):bs (List.replicate k 118) ++ ⟨#[118]⟩=bs (List.replicate (k+1) 118):=by
 rw [show(⟨#[118]⟩:ByteArray)=bs [118] from rfl,cat_bs,List.replicate_succ']
theorem rletters_11 (w:World):Calls Tryz.prog 139 #[.int .i64 11] w fun e w'=>e= .returned (.string (bs (letG 11)))∧Below w.heap.size w w':=by
 go_enter Tryz.func139,Tryz.ntmps139
 go_wp2_with fail
 go_ret
 exact⟨rfl,Below.refl _ _⟩
theorem rletters_12 (w:World):Calls Tryz.prog 139 #[.int .i64 12] w fun e w'=>e= .returned (.string (bs (letG 12)))∧Below w.heap.size w w':=by
 go_enter Tryz.func139,Tryz.ntmps139
 go_wp2_with fail
 go_ret
 exact⟨rfl,Below.refl _ _⟩
theorem rletters_15 (w:World):Calls Tryz.prog 139 #[.int .i64 15] w fun e w'=>e= .returned (.string (bs (letG 15)))∧Below w.heap.size w w':=by
 go_enter Tryz.func139,Tryz.ntmps139
 go_wp2_with fail
 go_ret
 exact⟨rfl,Below.refl _ _⟩
theorem rletters_13 (w:World):Calls Tryz.prog 139 #[.int .i64 13] w fun e w'=>e= .returned (.string (bs (letG 13)))∧Below w.heap.size w w':=by
 go_enter Tryz.func139,Tryz.ntmps139
 go_wp2_with fail
 go_ret
 exact⟨rfl,Below.refl _ _⟩
theorem rletters_14 (w:World):Calls Tryz.prog 139 #[.int .i64 14] w fun e w'=>e= .returned (.string (bs (letG 14)))∧Below w.heap.size w w':=by
 go_enter Tryz.func139,Tryz.ntmps139
 go_wp2_with fail
 go_ret
 exact⟨rfl,Below.refl _ _⟩
theorem rletters_23 (w:World):Calls Tryz.prog 139 #[.int .i64 23] w fun e w'=>e= .returned (.string (bs (letG 23)))∧Below w.heap.size w w':=by
 go_enter Tryz.func139,Tryz.ntmps139
 go_wp2_with fail
 go_ret
 exact⟨rfl,Below.refl _ _⟩
theorem rletters_24 (w:World):Calls Tryz.prog 139 #[.int .i64 24] w fun e w'=>e= .returned (.string (bs (letG 24)))∧Below w.heap.size w w':=by
 go_enter Tryz.func139,Tryz.ntmps139
 go_wp2_with fail
 go_ret
 exact⟨rfl,Below.refl _ _⟩
theorem rletters_26 (w:World):Calls Tryz.prog 139 #[.int .i64 26] w fun e w'=>e= .returned (.string (bs (letG 26)))∧Below w.heap.size w w':=by
 go_enter Tryz.func139,Tryz.ntmps139
 go_wp2_with fail
 go_ret
 exact⟨rfl,Below.refl _ _⟩
theorem rletters_27 (w:World):Calls Tryz.prog 139 #[.int .i64 27] w fun e w'=>e= .returned (.string (bs (letG 27)))∧Below w.heap.size w w':=by
 go_enter Tryz.func139,Tryz.ntmps139
 go_wp2_with fail
 go_ret
 exact⟨rfl,Below.refl _ _⟩
theorem rletters_else (op:Int) (w:World) (h11:(op == 11)=false) (h12:(op == 12)=false) (h15:(op == 15)=false) (h13:(op == 13)=false) (h14:(op == 14)=false) (h23:(op == 23)=false) (h24:(op == 24)=false) (h26:(op == 26)=false) (h27:(op == 27)=false):Calls Tryz.prog 139 #[.int .i64 op] w fun e w'=>e= .returned (.string (bs (letG op)))∧Below w.heap.size w w':=by
 have HL:Hid (List.replicate (tksF op) 118=letG op):=hide (by
  simp only [beq_eq_false_iff_ne,ne_eq] at *
  unfold letG
  rw [if_neg h11,if_neg h12,if_neg h15,if_neg h13,if_neg h14,if_neg h23,if_neg h24,if_neg h26,if_neg h27])
 have hm:=tks_le op
 go_enter Tryz.func139,Tryz.ntmps139
 go_wp2_with fail
 clear h11 h12 h15 h13 h14 h23 h24 h26 h27
 go_loopw [3,4] (fun sv i wr=>∃k:Nat,k≤tksF op∧sv= .string (bs (List.replicate k 118))∧i= .int .i64 k∧Hid (Below w.heap.size w wr)) (fun _ i _=>tksF op - (intOf i).toNat)
 case atStart=>exact⟨0,Nat.zero_le _,rfl,rfl,Below.refl _ _⟩
 case round=>
  obtain⟨k,hk,rfl,rfl,HB⟩:=hrel
  go_wp2_with fail
  refine(L5.refTakes_any op _).mono ?_;rintro e w1 ⟨ao,cap,rfl,_,b1⟩
  have HB1:=hide (below_step HB.out b1)
  clear HB b1
  change k≤(L5.takes (L5.num op)).length at hk
  have hm':(L5.takes (L5.num op)).length≤2:=hm
  by_cases hlt:k < (L5.takes (L5.num op)).length
  ·have hlt':(k:Int) < ((L5.takes (L5.num op)).length:Int):=by omega
   have hz:(bs (List.replicate k 118)).size≤2:=by rw [bs_size,List.length_replicate];omega
   have hv:=v_more k
   go_wp2_with fail
   go_roundw
   case rel=>exact⟨k+1,by show k+1≤(L5.takes (L5.num op)).length;omega,by first | rfl | rw [←hv],by go_num,HB1⟩
   case measure=>simp [intOf,tksF];omega
  ·have hk2:Hid (k=tksF op):=hide (by show k=(L5.takes (L5.num op)).length;omega)
   have hlt':¬(k:Int) < ((L5.takes (L5.num op)).length:Int):=by omega
   have HQ:Hid (bs (List.replicate k 118)=bs (letG op)):=hide (by rw [hk2.out,HL.out])
   have hlt2:decide ((k:Int) < ((L5.takes (L5.num op)).length:Int))=false:=by simpa using hlt'
   go_wp2_with fail
   go_ret
   exact⟨L5.ret_str HQ.out,HB1.out⟩
theorem rletters (op:Int) (w:World):Calls Tryz.prog 139 #[.int .i64 op] w fun e w'=>e= .returned (.string (bs (letG op)))∧Below w.heap.size w w':=by
 by_cases h11:op=11
 ·subst h11;exact rletters_11 w
 by_cases h12:op=12
 ·subst h12;exact rletters_12 w
 by_cases h15:op=15
 ·subst h15;exact rletters_15 w
 by_cases h13:op=13
 ·subst h13;exact rletters_13 w
 by_cases h14:op=14
 ·subst h14;exact rletters_14 w
 by_cases h23:op=23
 ·subst h23;exact rletters_23 w
 by_cases h24:op=24
 ·subst h24;exact rletters_24 w
 by_cases h26:op=26
 ·subst h26;exact rletters_26 w
 by_cases h27:op=27
 ·subst h27;exact rletters_27 w
 exact rletters_else op w (by simpa using h11) (by simpa using h12) (by simpa using h15) (by simpa using h13) (by simpa using h14) (by simpa using h23) (by simpa using h24) (by simpa using h26) (by simpa using h27)
end Go.Proofs.YtljkgcfnoegibaaGreatDoor
