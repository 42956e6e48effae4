/- Texts of one chain, joined. -/
import Derived.Test.YtljkgcfnoegibaaGreatDoorZAAJ
set_option maxHeartbeats 4000000
set_option maxRecDepth 20000
namespace Go.Proofs.YtljkgcfnoegibaaGreatDoor
open Go Go.RowKit
open G (Tok Er Ins Fun peek0 peek1 fG)
def ef (E:Int):List UInt8→Ins→List Tok→Except Er (Ins × List Tok)
 |[],x,l=> .ok (x,l)
 |c :: r,x,l=>
  if c=118 then G.andThen (G.value aQ E l) fun v l'=>ef E r (addArg x v) l'
  else if c=115 then G.andThen (G.number cC E 0 15 l) fun v l'=>ef E r (dO x v) l'
  else if c=110 then G.andThen (G.number cC E 0 1048576 l) fun v l'=>ef E r (dO x v) l'
  else G.andThen (G.label aQ E l) fun v l'=>ef E r (dt x v) l'
theorem sX {s:List UInt8} {k:Nat} (h:k < s.length):∃c,s[k]? =some c∧s.drop k=c :: s.drop (k+1):=⟨s[k],List.getElem?_eq_getElem h,List.drop_eq_getElem_cons h⟩
theorem Fq {s:List UInt8} {k:Nat} {c:UInt8} (h:s[k]? =some c):∃hk:k < (bs s).size,(bs s)[k]=c:=by
 obtain⟨h1,h2⟩:=List.getElem?_eq_some_iff.1 h;exact⟨by rw [aY];exact h1,h2⟩
theorem IB (s:List UInt8) (op id nn ty:Int) (nm:List UInt8) (p:Int) {a:Nat} {L:List Tok} {E:Int} {n:Nat} {l lf:List Tok} {y:Ins} (w:World) (h:RR a L E n l w) (hs:∀c∈s,c=118∨c=115∨c=110∨c=108) (hsl:s.length≤100) (hr:ef E s (op,id,nn,ty,[],[],nm,p) l= .ok (y,lf)):
  Calls Tryz.prog 138 #[.pointer (some ⟨a,0,none⟩),.agg (al op id nn ty (bs nm) p),.string (bs s)] w (nI a L E n y lf w):=by
 obtain⟨i0,hi0,hz0,hz1,hz2⟩:=info_parts Tryz.cr;have M0:Hid (cz w a (w.heap.size+1+1) (w.heap.size+1) L E n (op,id,nn,ty,[],[],nm,p) l (((w.alloc (.cells (al op id nn ty (bs nm) p) 47)).alloc (.cells (al 0 0 0 0 ⟨#[]⟩ 0) 47)).alloc (.cells (al op id nn ty (bs nm) p) 47))):=ae (cz.start h op id nn ty nm p);have HR:=ae hr;have HS:=ae hs;have hz:(bs s).size≤100:=by rw [aY];exact hsl
 have HZ:=ae (aY s);clear hr hs;clear h;generalize hg:w.heap.size+1=g at *;generalize hc:g+1=c at *;go_enter Tryz.func138,Tryz.ntmps138
 go_upto_region 2 with fail
 show Code.wp _ _ _ _ (((w.alloc (.cells (al op id nn ty (bs nm) p) 47)).alloc (.cells (al 0 0 0 0 ⟨#[]⟩ 0) 47)).alloc (.cells (al op id nn ty (bs nm) p) 47));generalize ((w.alloc (.cells (al op id nn ty (bs nm) p) 47)).alloc (.cells (al 0 0 0 0 ⟨#[]⟩ 0) 47)).alloc (.cells (al op id nn ty (bs nm) p) 47)=W0 at *;clear hg hc;go_wp2_with fail
 go_loopw [8] (fun i wr=>∃(k:Nat) (x':Ins) (l':List Tok),i= .int .i64 k∧k≤s.length∧x'.2.2.2.2.1.length≤k∧x'.2.2.2.2.2.1.length≤k∧Hid (cz w a c g L E n x' l' wr)∧Hid (ef E (s.drop k) x' l'= .ok (y,lf))) (fun i _=>s.length - (intOf i).toNat)
 case atStart=>exact⟨0,_,l,rfl,Nat.zero_le _,Nat.le_refl _,Nat.le_refl _,M0,HR⟩
 case round=>
  obtain⟨k,x',l',rfl,hk,hA,hT,M,HR'⟩:=hrel;by_cases hlt:k < s.length
  ·obtain⟨d,hd,hdr⟩:=sX hlt;obtain⟨hkz,hb⟩:=Fq hd;have HD:=HS.out d (List.mem_of_getElem? hd);have hRR:Hid (ef E (d :: s.drop (k+1)) x' l'= .ok (y,lf)):=ae (by rw [←hdr];exact HR'.out);have hkz':(k:Int) < ((bs s).size:Int):=(by omega);clear hd hdr HR';rcases HD with rfl | rfl | rfl | rfl
   ·obtain⟨v,l2,hv,hr2⟩:=aB (show G.andThen (G.value aQ E l') (fun v l''=>ef E (s.drop (k+1)) (addArg x' v) l'')= .ok (y,lf) from hRR.out);have hb1:((bs s)[k].toNat:Int)=118:=(by rw [hb];rfl);have HV:=ae hv;have HR2:=ae hr2;clear hb hv hr2 hRR;go_wp2_with fail
    refine(rvalue _ M.out.1 HV.out).mono ?_;rintro e w1 ⟨rfl,a1⟩;have M1:=ae (M.out.ate a1);clear M a1;obtain⟨va,vt,HC,HZ4,o1,o2,o3⟩:=M1.out.2.1.cells;have hcl5:=M1.out.lt;have cA:=HC 4 _ rfl;have zA:=HZ4 4;have hne:va.ownBlock≠some c:=(o3 c (by obtain⟨ua,ut,q1,_⟩:=M1.out.2.1;exact⟨_,_,q1⟩)).1;obtain⟨ao5,cp5,rfl⟩:=aL o1;have O5:=ae o1;obtain⟨cB,zB⟩:=Cel.below (ah w1 (.cells #[.int .i64 v] 3)) hcl5.2.2.2.1 cA zA;clear HC HZ4 o1 o2 o3;have t25:x'.2.2.2.2.1.length+1≤maxLen:=(by unfold maxLen;omega);have t35:(x'.2.2.2.2.1.length+1) * 8≤140737488355328:=(by omega);have t45:w.heap.size≤(w1.alloc (.cells #[.int .i64 v] 3)).heap.size:=(by simp;omega);have t55:c < (w1.alloc (.cells #[.int .i64 v] 3)).heap.size:=(by simp;omega);go_wp2_with (at_builtin;refine wpList_append_lies _ rfl (.tmp 26) (.tmp 28) 33 rfl w.heap.size 3 i0 _ 1 8 Tryz.underlying33 hi0 hz0 hz1 hz2 rfl (by decide) _ _ _ rfl (O5.out.alloc _) ⟨w1.heap.size,0,none⟩ 1 1 [.int .i64 v] rfl rfl aM bt (by decide) t25 t35 t45 (w1.heap.size+1) (by simp) ?_;intro gg5 cap5 w5 hown5 hgrow5 hat5 hlt5;obtain⟨cC5,zC5⟩:=Cel.grown hgrow5 t55 hne cB zB)
    have M3:=ae ((M1.out.below (ah w1 (.cells #[.int .i64 v] 3))).arg cB hown5 hgrow5 (hat5.imp (fun e=>e) (fun e=>e.trans (by simp))));go_roundw
    case rel=>exact⟨k+1,_,l2,by go_num,by omega,by(show _≤_+1;grind [addArg,dt,dO]),by(show _≤_+1;grind [addArg,dt,dO]),M3,HR2⟩
    case measure=>simp [intOf];omega
   ·obtain⟨v,l2,hv,hr2⟩:=aB (show G.andThen (G.number cC E 0 15 l') (fun v l''=>ef E (s.drop (k+1)) (dO x' v) l'')= .ok (y,lf) from hRR.out);have hb1:((bs s)[k].toNat:Int)=115:=(by rw [hb];rfl);obtain rfl:l2=l'.tail:=(eK hv).1;have HV:=ae hv;have HR2:=ae hr2;clear hb hv hr2 hRR;go_wp2_with fail
    refine(oO 0 15 v _ M.out.1 (eK HV.out).2.1 (eK HV.out).2.2.1 (eK HV.out).2.2.2).mono ?_;rintro e w1 ⟨rfl,a1⟩;have M1:=ae (M.out.ate a1);clear M a1;obtain⟨va,vt,HC,HZ4,o1,o2,o3⟩:=M1.out.2.1.cells;have cA:=HC 2 _ rfl;have zA:=HZ4 2;have M3:=ae (M1.out.put (M1.out.2.1.dO v));clear HC HZ4 o1 o2 o3;go_wp2_with fail
    go_roundw
    case rel=>exact⟨k+1,_,l'.tail,by go_num,by omega,by(show _≤_+1;grind [addArg,dt,dO]),by(show _≤_+1;grind [addArg,dt,dO]),M3,HR2⟩
    case measure=>simp [intOf];omega
   ·obtain⟨v,l2,hv,hr2⟩:=aB (show G.andThen (G.number cC E 0 1048576 l') (fun v l''=>ef E (s.drop (k+1)) (dO x' v) l'')= .ok (y,lf) from hRR.out);have hb1:((bs s)[k].toNat:Int)=110:=(by rw [hb];rfl);obtain rfl:l2=l'.tail:=(eK hv).1;have HV:=ae hv;have HR2:=ae hr2;clear hb hv hr2 hRR;go_wp2_with fail
    refine(oO 0 1048576 v _ M.out.1 (eK HV.out).2.1 (eK HV.out).2.2.1 (eK HV.out).2.2.2).mono ?_;rintro e w1 ⟨rfl,a1⟩;have M1:=ae (M.out.ate a1);clear M a1;obtain⟨va,vt,HC,HZ4,o1,o2,o3⟩:=M1.out.2.1.cells;have cA:=HC 2 _ rfl;have zA:=HZ4 2;have M3:=ae (M1.out.put (M1.out.2.1.dO v));clear HC HZ4 o1 o2 o3;go_wp2_with fail
    go_roundw
    case rel=>exact⟨k+1,_,l'.tail,by go_num,by omega,by(show _≤_+1;grind [addArg,dt,dO]),by(show _≤_+1;grind [addArg,dt,dO]),M3,HR2⟩
    case measure=>simp [intOf];omega
   ·obtain⟨v,l2,hv,hr2⟩:=aB (show G.andThen (G.label aQ E l') (fun v l''=>ef E (s.drop (k+1)) (dt x' v) l'')= .ok (y,lf) from hRR.out);have hb1:((bs s)[k].toNat:Int)=108:=(by rw [hb];rfl);have HV:=ae hv;have HR2:=ae hr2;clear hb hv hr2 hRR;go_wp2_with fail
    refine(zh _ M.out.1 HV.out).mono ?_;rintro e w1 ⟨rfl,a1⟩;have M1:=ae (M.out.ate a1);clear M a1;obtain⟨va,vt,HC,HZ4,o1,o2,o3⟩:=M1.out.2.1.cells;have hcl5:=M1.out.lt;have cA:=HC 5 _ rfl;have zA:=HZ4 5;have hne:vt.ownBlock≠some c:=(o3 c (by obtain⟨ua,ut,q1,_⟩:=M1.out.2.1;exact⟨_,_,q1⟩)).2;obtain⟨ao5,cp5,rfl⟩:=aL o2;have O5:=ae o2;obtain⟨cB,zB⟩:=Cel.below (ah w1 (.cells #[.int .i64 v] 3)) hcl5.2.2.2.1 cA zA;clear HC HZ4 o1 o2 o3;have t25:x'.2.2.2.2.2.1.length+1≤maxLen:=(by unfold maxLen;omega);have t35:(x'.2.2.2.2.2.1.length+1) * 8≤140737488355328:=(by omega);have t45:w.heap.size≤(w1.alloc (.cells #[.int .i64 v] 3)).heap.size:=(by simp;omega);have t55:c < (w1.alloc (.cells #[.int .i64 v] 3)).heap.size:=(by simp;omega);go_wp2_with (at_builtin;refine wpList_append_lies _ rfl (.tmp 46) (.tmp 48) 33 rfl w.heap.size 3 i0 _ 1 8 Tryz.underlying33 hi0 hz0 hz1 hz2 rfl (by decide) _ _ _ rfl (O5.out.alloc _) ⟨w1.heap.size,0,none⟩ 1 1 [.int .i64 v] rfl rfl aM bt (by decide) t25 t35 t45 (w1.heap.size+1) (by simp) ?_;intro gg5 cap5 w5 hown5 hgrow5 hat5 hlt5;obtain⟨cC5,zC5⟩:=Cel.grown hgrow5 t55 hne cB zB)
    have M3:=ae ((M1.out.below (ah w1 (.cells #[.int .i64 v] 3))).to cB hown5 hgrow5 (hat5.imp (fun e=>e) (fun e=>e.trans (by simp))));go_roundw
    case rel=>exact⟨k+1,_,l2,by go_num,by omega,by(show _≤_+1;grind [addArg,dt,dO]),by(show _≤_+1;grind [addArg,dt,dO]),M3,HR2⟩
    case measure=>simp [intOf];omega
  ·have hk2:k=s.length:=(by omega);have HE:Hid (ef E [] x' l'= .ok (y,lf)):=ae (by have:=HR'.out;rwa [hk2,List.drop_length] at this);obtain⟨rfl,rfl⟩:x'=y∧l'=lf:=(by have:=HE.out;cases this;exact⟨rfl,rfl⟩);have hkz':¬(k:Int) < ((bs s).size:Int):=(by have:=HZ.out;omega);have hkz2:decide ((k:Int) < ((bs s).size:Int))=false:=(by simpa using hkz');obtain⟨va',vt',HC,HZ4,o1,o2,o3⟩:=M.out.2.1.cells;obtain⟨aoA,mA,cA,rfl⟩:=aN o1;obtain⟨aoT,mT,cT,rfl⟩:=aN o2;have y0:=HC 0 _ rfl;have y1:=HC 1 _ rfl;have y2:=HC 2 _ rfl;have y3:=HC 3 _ rfl;have y4:=HC 4 _ rfl;have y5:=HC 5 _ rfl;have y6:=HC 6 _ rfl;have y7:=HC 7 _ rfl;have hS:=M.out.2.2.1;obtain⟨o3a,o3b⟩:=o3 g ⟨_,_,hS⟩;have hS:=ae hS;have o1:=ae o1;have o2:=ae o2;clear HC HZ4 o3;obtain⟨s0,s1,s2,s3,s4,s5,s6,s7,f0,f1,f2,f3,f4,f5,f6,f7⟩:=kz hS.out;have hcn:c≠g:=fun e=>M.out.2.2.2.2.2.2 e.symm;have FF:=ae (((((((((Far.refl g wr).set 0 (.int .i64 x'.1)).set 1 (.int .i64 x'.2.1)).set 2 (.int .i64 x'.2.2.1)).set 3 (.int .i64 x'.2.2.2.1)).set 4 (.slice aoA mA cA)).set 5 (.slice aoT mT cT)).set 6 (.string (bs x'.2.2.2.2.2.2.1))).set 7 (.int .i64 x'.2.2.2.2.2.2.2));have KK:=ae (FF.out.kr M.out.2.2.2.1 M.out.2.2.2.2.2.1);have QQ:=ae (FF.out.rr M.out.1 hS.out (by decide) (by have:=M.out.lt;omega));have OO:=ae (⟨FF.out.own o1.out o3a,FF.out.own o2.out o3b⟩:_∧_);go_wp2_with fail
   exact bodyPost_ret (v:= .agg (ak x' (.slice aoA mA cA) (.slice aoT mT cT)).toArray) (by simp [results,Tryz.results138,go_sem,ak,s0,s1,s2,s3,s4,s5,s6,s7]) rfl ⟨_,rfl,⟨_,_,rfl,OO.out.1,OO.out.2⟩,QQ.out,KK.out⟩
def eY (op:Int):List UInt8:=
 if op=11 then [118,115] else if op=12 then [118,115] else if op=15 then [118,115] else if op=13 then [118,115,118] else if op=14 then [118,115,118]
 else if op=23 then [110] else if op=24 then [118,110] else if op=26 then [108] else if op=27 then [118,108,108] else List.replicate (eZ op) 118
theorem Ef (op:Int):eZ op≤2:=by
 unfold eZ L5.takes;exact List.length_filter_le _ _
theorem Jn (k:Nat):bs (List.replicate k 118) ++ ⟨#[118]⟩=bs (List.replicate (k+1) 118):=by
 rw [show(⟨#[118]⟩:ByteArray)=bs [118] from rfl,Af,List.replicate_succ']
theorem wh (w:World):Calls Tryz.prog 139 #[.int .i64 11] w fun e w'=>e= .returned (.string (bs (eY 11)))∧Below w.heap.size w w':=by
 go_enter Tryz.func139,Tryz.ntmps139
 go_wp2_with fail
 go_ret;exact⟨rfl,Below.refl _ _⟩
theorem vy (w:World):Calls Tryz.prog 139 #[.int .i64 12] w fun e w'=>e= .returned (.string (bs (eY 12)))∧Below w.heap.size w w':=by
 go_enter Tryz.func139,Tryz.ntmps139
 go_wp2_with fail
 go_ret;exact⟨rfl,Below.refl _ _⟩
theorem xQ (w:World):Calls Tryz.prog 139 #[.int .i64 15] w fun e w'=>e= .returned (.string (bs (eY 15)))∧Below w.heap.size w w':=by
 go_enter Tryz.func139,Tryz.ntmps139
 go_wp2_with fail
 go_ret;exact⟨rfl,Below.refl _ _⟩
theorem xw (w:World):Calls Tryz.prog 139 #[.int .i64 13] w fun e w'=>e= .returned (.string (bs (eY 13)))∧Below w.heap.size w w':=by
 go_enter Tryz.func139,Tryz.ntmps139
 go_wp2_with fail
 go_ret;exact⟨rfl,Below.refl _ _⟩
theorem wX (w:World):Calls Tryz.prog 139 #[.int .i64 14] w fun e w'=>e= .returned (.string (bs (eY 14)))∧Below w.heap.size w w':=by
 go_enter Tryz.func139,Tryz.ntmps139
 go_wp2_with fail
 go_ret;exact⟨rfl,Below.refl _ _⟩
theorem v8 (w:World):Calls Tryz.prog 139 #[.int .i64 23] w fun e w'=>e= .returned (.string (bs (eY 23)))∧Below w.heap.size w w':=by
 go_enter Tryz.func139,Tryz.ntmps139
 go_wp2_with fail
 go_ret;exact⟨rfl,Below.refl _ _⟩
theorem xq (w:World):Calls Tryz.prog 139 #[.int .i64 24] w fun e w'=>e= .returned (.string (bs (eY 24)))∧Below w.heap.size w w':=by
 go_enter Tryz.func139,Tryz.ntmps139
 go_wp2_with fail
 go_ret;exact⟨rfl,Below.refl _ _⟩
theorem vW (w:World):Calls Tryz.prog 139 #[.int .i64 26] w fun e w'=>e= .returned (.string (bs (eY 26)))∧Below w.heap.size w w':=by
 go_enter Tryz.func139,Tryz.ntmps139
 go_wp2_with fail
 go_ret;exact⟨rfl,Below.refl _ _⟩
theorem wO (w:World):Calls Tryz.prog 139 #[.int .i64 27] w fun e w'=>e= .returned (.string (bs (eY 27)))∧Below w.heap.size w w':=by
 go_enter Tryz.func139,Tryz.ntmps139
 go_wp2_with fail
 go_ret;exact⟨rfl,Below.refl _ _⟩
theorem re (op:Int) (w:World) (h11:(op == 11)=false) (h12:(op == 12)=false) (h15:(op == 15)=false) (h13:(op == 13)=false) (h14:(op == 14)=false) (h23:(op == 23)=false) (h24:(op == 24)=false) (h26:(op == 26)=false) (h27:(op == 27)=false):Calls Tryz.prog 139 #[.int .i64 op] w fun e w'=>e= .returned (.string (bs (eY op)))∧Below w.heap.size w w':=by
 have HL:Hid (List.replicate (eZ op) 118=eY op):=ae (by
  simp only [beq_eq_false_iff_ne,ne_eq] at *;unfold eY;rw [if_neg h11,if_neg h12,if_neg h15,if_neg h13,if_neg h14,if_neg h23,if_neg h24,if_neg h26,if_neg h27])
 have hm:=Ef op;go_enter Tryz.func139,Tryz.ntmps139
 go_wp2_with fail
 clear h11 h12 h15 h13 h14 h23 h24 h26 h27;go_loopw [3,4] (fun sv i wr=>∃k:Nat,k≤eZ op∧sv= .string (bs (List.replicate k 118))∧i= .int .i64 k∧Hid (Below w.heap.size w wr)) (fun _ i _=>eZ op - (intOf i).toNat)
 case atStart=>exact⟨0,Nat.zero_le _,rfl,rfl,Below.refl _ _⟩
 case round=>
  obtain⟨k,hk,rfl,rfl,HB⟩:=hrel;go_wp2_with fail
  refine(L5.jC op _).mono ?_;rintro e w1 ⟨ao,cap,rfl,_,b1⟩;have HB1:=ae (af HB.out b1);clear HB b1;change k≤(L5.takes (L5.num op)).length at hk;have hm':(L5.takes (L5.num op)).length≤2:=hm;by_cases hlt:k < (L5.takes (L5.num op)).length
  ·have hlt':(k:Int) < ((L5.takes (L5.num op)).length:Int):=(by omega);have hz:(bs (List.replicate k 118)).size≤2:=(by rw [aY,List.length_replicate];omega);have hv:=Jn k;go_wp2_with fail
   go_roundw
   case rel=>exact⟨k+1,by show k+1≤(L5.takes (L5.num op)).length;omega,by first | rfl | rw [←hv],by go_num,HB1⟩
   case measure=>simp [intOf,eZ];omega
  ·have hk2:Hid (k=eZ op):=ae (by show k=(L5.takes (L5.num op)).length;omega);have hlt':¬(k:Int) < ((L5.takes (L5.num op)).length:Int):=(by omega);have HQ:Hid (bs (List.replicate k 118)=bs (eY op)):=ae (by rw [hk2.out,HL.out]);have hlt2:decide ((k:Int) < ((L5.takes (L5.num op)).length:Int))=false:=(by simpa using hlt');go_wp2_with fail
   go_ret;exact⟨L5.lJ HQ.out,HB1.out⟩
theorem vZ (op:Int) (w:World):Calls Tryz.prog 139 #[.int .i64 op] w fun e w'=>e= .returned (.string (bs (eY op)))∧Below w.heap.size w w':=by
 by_cases h11:op=11
 ·subst h11;exact wh w
 by_cases h12:op=12
 ·subst h12;exact vy w
 by_cases h15:op=15
 ·subst h15;exact xQ w
 by_cases h13:op=13
 ·subst h13;exact xw w
 by_cases h14:op=14
 ·subst h14;exact wX w
 by_cases h23:op=23
 ·subst h23;exact v8 w
 by_cases h24:op=24
 ·subst h24;exact xq w
 by_cases h26:op=26
 ·subst h26;exact vW w
 by_cases h27:op=27
 ·subst h27;exact wO w
 exact re op w (by simpa using h11) (by simpa using h12) (by simpa using h15) (by simpa using h13) (by simpa using h14) (by simpa using h23) (by simpa using h24) (by simpa using h26) (by simpa using h27)
theorem nH {w:World} {a c g:Nat} {L:List Tok} {E:Int} {n:Nat} {x y:Ins} {l lf:List Tok} {W1 w2:World} {v:Value} (M:cz w a c g L E n x l W1) (h:pK W1.heap.size y v w2∧RR a L E n lf w2∧Kr a W1 w2):
  ∃aoA mA cA aoT mT cT,v= .agg (ak y (.slice aoA mA cA) (.slice aoT mT cT)).toArray∧w2.heap[g]? =some (.cells #[.int .i64 0,.int .i64 0,.int .i64 0,.int .i64 0,.slice none 0 0,.slice none 0 0,.string ⟨#[]⟩,.int .i64 0] 47 (0,0))∧
   ∀W,Far g w2 W→W.ownsRow w.heap.size 3 1 (.slice aoA mA cA) y.2.2.2.2.1.length (ints y.2.2.2.2.1)∧W.ownsRow w.heap.size 3 1 (.slice aoT mT cT) y.2.2.2.2.2.1.length (ints y.2.2.2.2.2.1)∧RR a L E n lf W∧Kr a w W:=by
 have hl:=M.lt;obtain⟨⟨va,vt,rfl,o1,o2⟩,r,k⟩:=h;obtain⟨h1,h2,h3,h4,h5,h6,h7⟩:=M;obtain⟨aoA,mA,cA,rfl⟩:=aN o1;obtain⟨aoT,mT,cT,rfl⟩:=aN o2;have hS:=(k.2.2.2.2 g hl.2.2.2.2.1 (by omega)).trans h3;refine⟨aoA,mA,cA,aoT,mT,cT,rfl,hS,fun W hW=>⟨aT (hW.own o1 (aU o1 hS (by decide))) hl.2.2.2.2.2.2,aT (hW.own o2 (aU o2 hS (by decide))) hl.2.2.2.2.2.2,hW.rr r hS (by decide) (by omega),hW.kr (h4.trans k) h6⟩⟩
theorem bV (w:World) (op id nn ty:Int) (nm:ByteArray) (p:Int):(((w.alloc (.cells (al op id nn ty nm p) 47)).alloc (.cells (al 0 0 0 0 ⟨#[]⟩ 0) 47)).alloc (.cells (al op id nn ty nm p) 47)).heap[w.heap.size+1+1]? =some (.cells (al op id nn ty nm p) 47 (0,0)):=by
 have s2:((w.alloc (.cells (al op id nn ty nm p) 47)).alloc (.cells (al 0 0 0 0 ⟨#[]⟩ 0) 47)).heap.size=w.heap.size+1+1:=by simp
 rw [←s2];exact heap_alloc_new _ _
theorem a9 {w:World} {c:Nat} {op id nn ty p:Int} {nm:ByteArray} (h:w.heap[c]? =some (.cells (al op id nn ty nm p) 47 (0,0))):
  w.cell? ⟨c,0,none⟩=some (.int .i64 op)∧w.cell? ⟨c,1,none⟩=some (.int .i64 id)∧w.cell? ⟨c,2,none⟩=some (.int .i64 nn)∧w.cell? ⟨c,3,none⟩=some (.int .i64 ty)∧w.cell? ⟨c,4,none⟩=some (.slice none 0 0)∧w.cell? ⟨c,5,none⟩=some (.slice none 0 0)∧w.cell? ⟨c,6,none⟩=some (.string nm)∧w.cell? ⟨c,7,none⟩=some (.int .i64 p)∧(∀i,w.frozen? ⟨c,i,none⟩=false)∧c < w.heap.size:=by
 refine⟨?_,?_,?_,?_,?_,?_,?_,?_,fun i=>by simp [World.frozen?,h],(Array.getElem?_eq_some_iff.1 h).1⟩ <;> simp [World.cell?,h]
theorem Dl {E:Int}:∀(k:Nat) (op id nn ty p:Int) (acc:List Int) (l:List Tok) (a:List Int) (lf:List Tok),G.bp aQ E k acc l= .ok (a,lf)→ef E (List.replicate k 118) (op,id,nn,ty,acc,[],[],p) l= .ok ((op,id,nn,ty,a,[],[],p),lf):=by
 intro k;induction k with
 |zero=>intro op id nn ty p acc l a lf h;cases h;rfl
 |succ k ih=>
  intro op id nn ty p acc l a lf h;obtain⟨v,r,hv,h2⟩:=aB (show G.andThen (G.value aQ E l) (fun v=>G.bp aQ E k (acc ++ [v]))= .ok (a,lf) from h);show G.andThen (G.value aQ E l) _=_;rw [hv];exact ih op id nn ty p (acc ++ [v]) r a lf h2
theorem Ek (op:Int):(∀c∈eY op,c=118∨c=115∨c=110∨c=108)∧(eY op).length≤100:=by
 unfold eY;repeat' (first | split)
 all_goals first | exact⟨by decide,by decide⟩ | skip
 refine⟨fun c hc=> .inl (List.eq_of_mem_replicate hc),?_⟩;rw [List.length_replicate];have:=Ef op;omega
theorem GM {E id ty p:Int} {l lf:List Tok} {y:G.Opd} (h:bT E 11 l= .ok (y,lf)):ef E (eY 11) (bare 11 id ty p) l= .ok (fill (bare 11 id ty p) y,lf):=by
 replace h:(fun r0=>G.andThen (G.value aQ E r0) (fun v=>fun r1=>G.andThen (G.number cC E 0 15 r1) (fun x=>G.done (x,[v],[],[])))) l= .ok (y,lf):=h;obtain⟨v,q0,e0,h⟩:=aB (show G.andThen (G.value aQ E l) (fun v=>fun r1=>G.andThen (G.number cC E 0 15 r1) (fun x=>G.done (x,[v],[],[])))= .ok (y,lf) from h);obtain⟨x,q1,e1,h⟩:=aB (show G.andThen (G.number cC E 0 15 q0) (fun x=>G.done (x,[v],[],[]))= .ok (y,lf) from h)
 cases h;refine(cS e0).trans ?_;refine(cS e1).trans ?_;rfl
theorem GD {E id ty p:Int} {l lf:List Tok} {y:G.Opd} (h:bT E 12 l= .ok (y,lf)):ef E (eY 12) (bare 12 id ty p) l= .ok (fill (bare 12 id ty p) y,lf):=by
 replace h:(fun r0=>G.andThen (G.value aQ E r0) (fun v=>fun r1=>G.andThen (G.number cC E 0 15 r1) (fun x=>G.done (x,[v],[],[])))) l= .ok (y,lf):=h;obtain⟨v,q0,e0,h⟩:=aB (show G.andThen (G.value aQ E l) (fun v=>fun r1=>G.andThen (G.number cC E 0 15 r1) (fun x=>G.done (x,[v],[],[])))= .ok (y,lf) from h);obtain⟨x,q1,e1,h⟩:=aB (show G.andThen (G.number cC E 0 15 q0) (fun x=>G.done (x,[v],[],[]))= .ok (y,lf) from h)
 cases h;refine(cS e0).trans ?_;refine(cS e1).trans ?_;rfl
theorem GJ {E id ty p:Int} {l lf:List Tok} {y:G.Opd} (h:bT E 15 l= .ok (y,lf)):ef E (eY 15) (bare 15 id ty p) l= .ok (fill (bare 15 id ty p) y,lf):=by
 replace h:(fun r0=>G.andThen (G.value aQ E r0) (fun v=>fun r1=>G.andThen (G.number cC E 0 15 r1) (fun x=>G.done (x,[v],[],[])))) l= .ok (y,lf):=h;obtain⟨v,q0,e0,h⟩:=aB (show G.andThen (G.value aQ E l) (fun v=>fun r1=>G.andThen (G.number cC E 0 15 r1) (fun x=>G.done (x,[v],[],[])))= .ok (y,lf) from h);obtain⟨x,q1,e1,h⟩:=aB (show G.andThen (G.number cC E 0 15 q0) (fun x=>G.done (x,[v],[],[]))= .ok (y,lf) from h)
 cases h;refine(cS e0).trans ?_;refine(cS e1).trans ?_;rfl
theorem Ic {E id ty p:Int} {l lf:List Tok} {y:G.Opd} (h:bT E 13 l= .ok (y,lf)):ef E (eY 13) (bare 13 id ty p) l= .ok (fill (bare 13 id ty p) y,lf):=by
 replace h:(fun r0=>G.andThen (G.value aQ E r0) (fun v=>fun r1=>G.andThen (G.number cC E 0 15 r1) (fun x=>fun r2=>G.andThen (G.value aQ E r2) (fun u=>G.done (x,[v,u],[],[]))))) l= .ok (y,lf):=h;obtain⟨v,q0,e0,h⟩:=aB (show G.andThen (G.value aQ E l) (fun v=>fun r1=>G.andThen (G.number cC E 0 15 r1) (fun x=>fun r2=>G.andThen (G.value aQ E r2) (fun u=>G.done (x,[v,u],[],[]))))= .ok (y,lf) from h);obtain⟨x,q1,e1,h⟩:=aB (show G.andThen (G.number cC E 0 15 q0) (fun x=>fun r2=>G.andThen (G.value aQ E r2) (fun u=>G.done (x,[v,u],[],[])))= .ok (y,lf) from h);obtain⟨u,q2,e2,h⟩:=aB (show G.andThen (G.value aQ E q1) (fun u=>G.done (x,[v,u],[],[]))= .ok (y,lf) from h)
 cases h;refine(cS e0).trans ?_;refine(cS e1).trans ?_;refine(cS e2).trans ?_;rfl
theorem GH {E id ty p:Int} {l lf:List Tok} {y:G.Opd} (h:bT E 14 l= .ok (y,lf)):ef E (eY 14) (bare 14 id ty p) l= .ok (fill (bare 14 id ty p) y,lf):=by
 replace h:(fun r0=>G.andThen (G.value aQ E r0) (fun v=>fun r1=>G.andThen (G.number cC E 0 15 r1) (fun x=>fun r2=>G.andThen (G.value aQ E r2) (fun u=>G.done (x,[v,u],[],[]))))) l= .ok (y,lf):=h;obtain⟨v,q0,e0,h⟩:=aB (show G.andThen (G.value aQ E l) (fun v=>fun r1=>G.andThen (G.number cC E 0 15 r1) (fun x=>fun r2=>G.andThen (G.value aQ E r2) (fun u=>G.done (x,[v,u],[],[]))))= .ok (y,lf) from h);obtain⟨x,q1,e1,h⟩:=aB (show G.andThen (G.number cC E 0 15 q0) (fun x=>fun r2=>G.andThen (G.value aQ E r2) (fun u=>G.done (x,[v,u],[],[])))= .ok (y,lf) from h);obtain⟨u,q2,e2,h⟩:=aB (show G.andThen (G.value aQ E q1) (fun u=>G.done (x,[v,u],[],[]))= .ok (y,lf) from h)
 cases h;refine(cS e0).trans ?_;refine(cS e1).trans ?_;refine(cS e2).trans ?_;rfl
theorem Gc {E id ty p:Int} {l lf:List Tok} {y:G.Opd} (h:bT E 23 l= .ok (y,lf)):ef E (eY 23) (bare 23 id ty p) l= .ok (fill (bare 23 id ty p) y,lf):=by
 replace h:(fun r0=>G.andThen (G.number cC E 0 1048576 r0) (fun x=>G.done (x,[],[],[]))) l= .ok (y,lf):=h;obtain⟨x,q0,e0,h⟩:=aB (show G.andThen (G.number cC E 0 1048576 l) (fun x=>G.done (x,[],[],[]))= .ok (y,lf) from h)
 cases h;refine(cS e0).trans ?_;rfl
theorem Gi {E id ty p:Int} {l lf:List Tok} {y:G.Opd} (h:bT E 24 l= .ok (y,lf)):ef E (eY 24) (bare 24 id ty p) l= .ok (fill (bare 24 id ty p) y,lf):=by
 replace h:(fun r0=>G.andThen (G.value aQ E r0) (fun v=>fun r1=>G.andThen (G.number cC E 0 1048576 r1) (fun x=>G.done (x,[v],[],[])))) l= .ok (y,lf):=h;obtain⟨v,q0,e0,h⟩:=aB (show G.andThen (G.value aQ E l) (fun v=>fun r1=>G.andThen (G.number cC E 0 1048576 r1) (fun x=>G.done (x,[v],[],[])))= .ok (y,lf) from h);obtain⟨x,q1,e1,h⟩:=aB (show G.andThen (G.number cC E 0 1048576 q0) (fun x=>G.done (x,[v],[],[]))= .ok (y,lf) from h)
 cases h;refine(cS e0).trans ?_;refine(cS e1).trans ?_;rfl
theorem GR {E id ty p:Int} {l lf:List Tok} {y:G.Opd} (h:bT E 26 l= .ok (y,lf)):ef E (eY 26) (bare 26 id ty p) l= .ok (fill (bare 26 id ty p) y,lf):=by
 replace h:(fun r0=>G.andThen (G.label aQ E r0) (fun b=>G.done (0,[],[b],[]))) l= .ok (y,lf):=h;obtain⟨b,q0,e0,h⟩:=aB (show G.andThen (G.label aQ E l) (fun b=>G.done (0,[],[b],[]))= .ok (y,lf) from h)
 cases h;refine(cS e0).trans ?_;rfl
theorem GN {E id ty p:Int} {l lf:List Tok} {y:G.Opd} (h:bT E 27 l= .ok (y,lf)):ef E (eY 27) (bare 27 id ty p) l= .ok (fill (bare 27 id ty p) y,lf):=by
 replace h:(fun r0=>G.andThen (G.value aQ E r0) (fun v=>fun r1=>G.andThen (G.label aQ E r1) (fun b=>fun r2=>G.andThen (G.label aQ E r2) (fun c=>G.done (0,[v],[b,c],[]))))) l= .ok (y,lf):=h;obtain⟨v,q0,e0,h⟩:=aB (show G.andThen (G.value aQ E l) (fun v=>fun r1=>G.andThen (G.label aQ E r1) (fun b=>fun r2=>G.andThen (G.label aQ E r2) (fun c=>G.done (0,[v],[b,c],[]))))= .ok (y,lf) from h);obtain⟨b,q1,e1,h⟩:=aB (show G.andThen (G.label aQ E q0) (fun b=>fun r2=>G.andThen (G.label aQ E r2) (fun c=>G.done (0,[v],[b,c],[])))= .ok (y,lf) from h);obtain⟨c,q2,e2,h⟩:=aB (show G.andThen (G.label aQ E q1) (fun c=>G.done (0,[v],[b,c],[]))= .ok (y,lf) from h)
 cases h;refine(cS e0).trans ?_;refine(cS e1).trans ?_;refine(cS e2).trans ?_;rfl
theorem Ed {op E id ty p:Int} {l lf:List Tok} {y:G.Opd} (g1:¬op=1) (g29:¬op=29) (g10:¬op=10) (g20:¬op=20) (g21:¬op=21) (g28:¬op=28) (h:bT E op l= .ok (y,lf)):ef E (eY op) (bare op id ty p) l= .ok (fill (bare op id ty p) y,lf):=by
 by_cases h11:op=11
 ·subst h11;exact GM h
 by_cases h12:op=12
 ·subst h12;exact GD h
 by_cases h15:op=15
 ·subst h15;exact GJ h
 by_cases h13:op=13
 ·subst h13;exact Ic h
 by_cases h14:op=14
 ·subst h14;exact GH h
 by_cases h23:op=23
 ·subst h23;exact Gc h
 by_cases h24:op=24
 ·subst h24;exact Gi h
 by_cases h26:op=26
 ·subst h26;exact GR h
 by_cases h27:op=27
 ·subst h27;exact GN h
 have e:eY op=List.replicate (eZ op) 118:=by unfold eY;rw [if_neg h11,if_neg h12,if_neg h15,if_neg h13,if_neg h14,if_neg h23,if_neg h24,if_neg h26,if_neg h27]
 rw [e];unfold bT G.operands at h;simp only [if_neg g1,if_neg g29,if_neg g10,if_neg g20,if_neg g21,if_neg g28,h11,h12,h15,h13,h14,h23,h24,h26,h27,or_self,if_false] at h;obtain⟨a,r,hv,h2⟩:=aB h
 cases h2;exact Dl _ _ _ _ _ _ _ _ _ _ hv
theorem Jh (id ty p:Int) {a:Nat} {L:List Tok} {E:Int} {n:Nat} {l lf:List Tok} {y:G.Opd} (w:World) (h:RR a L E n l w) (hr:bT E 1 l= .ok (y,lf)):
  Calls Tryz.prog 109 #[.pointer (some ⟨a,0,none⟩),.agg (al 1 id 0 ty (bs []) p)] w (nI a L E n (fill (bare 1 id ty p) y) lf w):=by
 obtain⟨v,r,hv,h2⟩:=aB (show G.andThen (G.mz cC E l) (fun x=>G.done (x,[],[],[]))= .ok (y,lf) from hr)
 cases h2;obtain⟨rfl,hn⟩:=Da hv;have hb:=L1.iX (peek0 l);rw [show L1.aO (peek0 l)=(v,0) from hn] at hb;have HN:=ae hn;have HB:=ae hb;clear hr hv hn hb;obtain⟨i0,hi0,hz0,hz1,hz2⟩:=info_parts Tryz.cr;have M0:Hid (cz w a (w.heap.size+1+1) (w.heap.size+1) L E n (1,id,0,ty,[],[],[],p) l (((w.alloc (.cells (al 1 id 0 ty (bs []) p) 47)).alloc (.cells (al 0 0 0 0 ⟨#[]⟩ 0) 47)).alloc (.cells (al 1 id 0 ty (bs []) p) 47))):=ae (cz.start h 1 id 0 ty [] p);have HC0:=ae (bV w 1 id 0 ty (bs []) p);clear h;generalize hg:w.heap.size+1=g at *;generalize hc:g+1=c at *;go_enter Tryz.func109,Tryz.ntmps109
 go_upto_region 2 with fail
 show Code.wp _ _ _ _ (((w.alloc (.cells (al 1 id 0 ty (bs []) p) 47)).alloc (.cells (al 0 0 0 0 ⟨#[]⟩ 0) 47)).alloc (.cells (al 1 id 0 ty (bs []) p) 47));generalize ((w.alloc (.cells (al 1 id 0 ty (bs []) p) 47)).alloc (.cells (al 0 0 0 0 ⟨#[]⟩ 0) 47)).alloc (.cells (al 1 id 0 ty (bs []) p) 47)=W0 at *;clear hg hc;obtain⟨x0,x1,x2,x3,x4,x5,x6,x7,xz,xl⟩:=a9 HC0.out;clear HC0;have z2:=xz 2;clear xz x0 x1 x2 x3 x4 x5 x6 x7 xl;obtain⟨x0,x2⟩:W0.cell? ⟨c,0,none⟩=some (.int .i64 1)∧True:=by obtain⟨va,vt,HC,_⟩:=M0.out.2.1.cells;exact⟨HC 0 _ rfl,trivial⟩
 clear z2 x2;go_wp2_with fail
 refine(oO (-9223372036854775808) 9223372036854775807 v _ M0.out.1 HN.out HB.out.1 HB.out.2).mono ?_;rintro e w1 ⟨rfl,a1⟩;have M1:=ae (M0.out.ate a1);clear M0 a1 x0;obtain⟨va,vt,HC,HZ4,o1,o2,o3⟩:=M1.out.2.1.cells;have cA:=HC 2 _ rfl;have zA:=HZ4 2;have M2:Hid (cz w a c g L E n (1,id,v,ty,[],[],[],p) l.tail (w1.setCell ⟨c,2,none⟩ (.int .i64 v))):=ae (M1.out.put (M1.out.2.1.dO v));clear HC HZ4 o1 o2 o3 M1;go_upto_region 23 with fail
 show Code.wp _ _ _ _ (w1.setCell ⟨c,2,none⟩ (.int .i64 v));clear cA zA;generalize w1.setCell ⟨c,2,none⟩ (.int .i64 v)=W1 at *;clear va vt;obtain⟨va',vt',HC,HZ4,o1,o2,o3⟩:=M2.out.2.1.cells;obtain⟨aoA,mA,cA,rfl⟩:=aN o1;obtain⟨aoT,mT,cT,rfl⟩:=aN o2;have y0:=HC 0 _ rfl;have y1:=HC 1 _ rfl;have y2:=HC 2 _ rfl;have y3:=HC 3 _ rfl;have y4:=HC 4 _ rfl;have y5:=HC 5 _ rfl;have y6:=HC 6 _ rfl;have y7:=HC 7 _ rfl;have hS:=M2.out.2.2.1;obtain⟨o3a,o3b⟩:=o3 g ⟨_,_,hS⟩;have hS:=ae hS;have o1:=ae o1;have o2:=ae o2;clear HC HZ4 o3;obtain⟨s0,s1,s2,s3,s4,s5,s6,s7,f0,f1,f2,f3,f4,f5,f6,f7⟩:=kz hS.out;have hcn:c≠g:=fun e=>M2.out.2.2.2.2.2.2 e.symm;have FF:=ae (((((((((Far.refl g W1).set 0 (.int .i64 1)).set 1 (.int .i64 id)).set 2 (.int .i64 v)).set 3 (.int .i64 ty)).set 4 (.slice aoA mA cA)).set 5 (.slice aoT mT cT)).set 6 (.string (bs []))).set 7 (.int .i64 p));have KK:=ae (FF.out.kr M2.out.2.2.2.1 M2.out.2.2.2.2.2.1);have QQ:=ae (FF.out.rr M2.out.1 hS.out (by decide) (by have:=M2.out.lt;omega));have OO:=ae (⟨FF.out.own o1.out o3a,FF.out.own o2.out o3b⟩:_∧_);go_wp2_with fail
 exact bodyPost_ret (v:= .agg (ak (1,id,v,ty,[],[],[],p) (.slice aoA mA cA) (.slice aoT mT cT)).toArray) (by simp [results,Tryz.results109,go_sem,ak,s0,s1,s2,s3,s4,s5,s6,s7]) rfl ⟨_,rfl,⟨_,_,rfl,OO.out.1,OO.out.2⟩,QQ.out,KK.out⟩
theorem GZ (id ty p:Int) {a:Nat} {L:List Tok} {E:Int} {n:Nat} {l lf:List Tok} {y:G.Opd} (w:World) (h:RR a L E n l w) (hr:bT E 29 l= .ok (y,lf)):
  Calls Tryz.prog 109 #[.pointer (some ⟨a,0,none⟩),.agg (al 29 id 0 ty (bs []) p)] w (nI a L E n (fill (bare 29 id ty p) y) lf w):=by
 obtain⟨v,r,hv,h2⟩:=aB (show G.andThen (G.number cC E 0 255 l) (fun x=>G.done (x,[],[],[]))= .ok (y,lf) from hr)
 cases h2;obtain⟨rfl,hn,hb1,hb2⟩:=eK hv;have HN:=ae hn;have HB:=ae (And.intro hb1 hb2);clear hr hv hn hb1 hb2;obtain⟨i0,hi0,hz0,hz1,hz2⟩:=info_parts Tryz.cr;have M0:Hid (cz w a (w.heap.size+1+1) (w.heap.size+1) L E n (29,id,0,ty,[],[],[],p) l (((w.alloc (.cells (al 29 id 0 ty (bs []) p) 47)).alloc (.cells (al 0 0 0 0 ⟨#[]⟩ 0) 47)).alloc (.cells (al 29 id 0 ty (bs []) p) 47))):=ae (cz.start h 29 id 0 ty [] p);have HC0:=ae (bV w 29 id 0 ty (bs []) p);clear h;generalize hg:w.heap.size+1=g at *;generalize hc:g+1=c at *;go_enter Tryz.func109,Tryz.ntmps109
 go_upto_region 2 with fail
 show Code.wp _ _ _ _ (((w.alloc (.cells (al 29 id 0 ty (bs []) p) 47)).alloc (.cells (al 0 0 0 0 ⟨#[]⟩ 0) 47)).alloc (.cells (al 29 id 0 ty (bs []) p) 47));generalize ((w.alloc (.cells (al 29 id 0 ty (bs []) p) 47)).alloc (.cells (al 0 0 0 0 ⟨#[]⟩ 0) 47)).alloc (.cells (al 29 id 0 ty (bs []) p) 47)=W0 at *;clear hg hc;obtain⟨x0,x1,x2,x3,x4,x5,x6,x7,xz,xl⟩:=a9 HC0.out;clear HC0;have z2:=xz 2;clear xz x0 x1 x2 x3 x4 x5 x6 x7 xl;obtain⟨x0,x2⟩:W0.cell? ⟨c,0,none⟩=some (.int .i64 29)∧True:=by obtain⟨va,vt,HC,_⟩:=M0.out.2.1.cells;exact⟨HC 0 _ rfl,trivial⟩
 clear z2 x2;go_wp2_with fail
 refine(oO 0 255 v _ M0.out.1 HN.out HB.out.1 HB.out.2).mono ?_;rintro e w1 ⟨rfl,a1⟩;have M1:=ae (M0.out.ate a1);clear M0 a1 x0;obtain⟨va,vt,HC,HZ4,o1,o2,o3⟩:=M1.out.2.1.cells;have cA:=HC 2 _ rfl;have zA:=HZ4 2;have M2:Hid (cz w a c g L E n (29,id,v,ty,[],[],[],p) l.tail (w1.setCell ⟨c,2,none⟩ (.int .i64 v))):=ae (M1.out.put (M1.out.2.1.dO v));clear HC HZ4 o1 o2 o3 M1;go_upto_region 23 with fail
 show Code.wp _ _ _ _ (w1.setCell ⟨c,2,none⟩ (.int .i64 v));clear cA zA;generalize w1.setCell ⟨c,2,none⟩ (.int .i64 v)=W1 at *;clear va vt;obtain⟨va',vt',HC,HZ4,o1,o2,o3⟩:=M2.out.2.1.cells;obtain⟨aoA,mA,cA,rfl⟩:=aN o1;obtain⟨aoT,mT,cT,rfl⟩:=aN o2;have y0:=HC 0 _ rfl;have y1:=HC 1 _ rfl;have y2:=HC 2 _ rfl;have y3:=HC 3 _ rfl;have y4:=HC 4 _ rfl;have y5:=HC 5 _ rfl;have y6:=HC 6 _ rfl;have y7:=HC 7 _ rfl;have hS:=M2.out.2.2.1;obtain⟨o3a,o3b⟩:=o3 g ⟨_,_,hS⟩;have hS:=ae hS;have o1:=ae o1;have o2:=ae o2;clear HC HZ4 o3;obtain⟨s0,s1,s2,s3,s4,s5,s6,s7,f0,f1,f2,f3,f4,f5,f6,f7⟩:=kz hS.out;have hcn:c≠g:=fun e=>M2.out.2.2.2.2.2.2 e.symm;have FF:=ae (((((((((Far.refl g W1).set 0 (.int .i64 29)).set 1 (.int .i64 id)).set 2 (.int .i64 v)).set 3 (.int .i64 ty)).set 4 (.slice aoA mA cA)).set 5 (.slice aoT mT cT)).set 6 (.string (bs []))).set 7 (.int .i64 p));have KK:=ae (FF.out.kr M2.out.2.2.2.1 M2.out.2.2.2.2.2.1);have QQ:=ae (FF.out.rr M2.out.1 hS.out (by decide) (by have:=M2.out.lt;omega));have OO:=ae (⟨FF.out.own o1.out o3a,FF.out.own o2.out o3b⟩:_∧_);go_wp2_with fail
 exact bodyPost_ret (v:= .agg (ak (29,id,v,ty,[],[],[],p) (.slice aoA mA cA) (.slice aoT mT cT)).toArray) (by simp [results,Tryz.results109,go_sem,ak,s0,s1,s2,s3,s4,s5,s6,s7]) rfl ⟨_,rfl,⟨_,_,rfl,OO.out.1,OO.out.2⟩,QQ.out,KK.out⟩
theorem Gm (id ty p:Int) {a:Nat} {L:List Tok} {E:Int} {n:Nat} {l lf:List Tok} {y:G.Opd} (w:World) (h:RR a L E n l w) (hr:bT E 20 l= .ok (y,lf)):
  Calls Tryz.prog 109 #[.pointer (some ⟨a,0,none⟩),.agg (al 20 id 0 ty (bs []) p)] w (nI a L E n (fill (bare 20 id ty p) y) lf w):=by
 obtain⟨x,r,hv,h2⟩:=aB (show G.andThen (G.phi aQ E l) (fun x=>G.done (0,x.2,x.1,[]))= .ok (y,lf) from hr)
 cases h2;have HV:=ae hv;clear hr hv;obtain⟨i0,hi0,hz0,hz1,hz2⟩:=info_parts Tryz.cr;have M0:Hid (cz w a (w.heap.size+1+1) (w.heap.size+1) L E n (20,id,0,ty,[],[],[],p) l (((w.alloc (.cells (al 20 id 0 ty (bs []) p) 47)).alloc (.cells (al 0 0 0 0 ⟨#[]⟩ 0) 47)).alloc (.cells (al 20 id 0 ty (bs []) p) 47))):=ae (cz.start h 20 id 0 ty [] p);have HC0:=ae (bV w 20 id 0 ty (bs []) p);clear h;generalize hg:w.heap.size+1=g at *;generalize hc:g+1=c at *;go_enter Tryz.func109,Tryz.ntmps109
 go_upto_region 2 with fail
 show Code.wp _ _ _ _ (((w.alloc (.cells (al 20 id 0 ty (bs []) p) 47)).alloc (.cells (al 0 0 0 0 ⟨#[]⟩ 0) 47)).alloc (.cells (al 20 id 0 ty (bs []) p) 47));generalize ((w.alloc (.cells (al 20 id 0 ty (bs []) p) 47)).alloc (.cells (al 0 0 0 0 ⟨#[]⟩ 0) 47)).alloc (.cells (al 20 id 0 ty (bs []) p) 47)=W0 at *;clear hg hc;obtain⟨x0,x1,x2,x3,x4,x5,x6,x7,xz,xl⟩:=a9 HC0.out;clear HC0;go_wp2_with fail
 refine(MF 20 id 0 ty [] p _ M0.out.1 HV.out).mono ?_;rintro e w1 ⟨v,rfl,ho⟩;have ho:=ae ho;clear x0 x1 x2 x3 x4 x5 x6 x7 xz xl;obtain⟨aoA,mA,cA,aoT,mT,cT,rfl,hS,hfin⟩:=nH M0.out ho.out;obtain⟨s0,s1,s2,s3,s4,s5,s6,s7,f0,f1,f2,f3,f4,f5,f6,f7⟩:=kz hS;have FF:=ae (hfin _ (((((((((Far.refl g w1).set 0 (.int .i64 20)).set 1 (.int .i64 id)).set 2 (.int .i64 0)).set 3 (.int .i64 ty)).set 4 (.slice aoA mA cA)).set 5 (.slice aoT mT cT)).set 6 (.string (bs []))).set 7 (.int .i64 p)));clear hfin hS ho;simp only [ak] at *;go_wp2_with fail
 exact bodyPost_ret (v:= .agg (ak (20,id,0,ty,x.2,x.1,[],p) (.slice aoA mA cA) (.slice aoT mT cT)).toArray) (by simp [results,Tryz.results109,go_sem,ak,s0,s1,s2,s3,s4,s5,s6,s7]) rfl ⟨_,rfl,⟨_,_,rfl,FF.out.1,FF.out.2.1⟩,FF.out.2.2.1,FF.out.2.2.2⟩
theorem GU (id ty p:Int) {a:Nat} {L:List Tok} {E:Int} {n:Nat} {l lf:List Tok} {y:G.Opd} (w:World) (h:RR a L E n l w) (hr:bT E 21 l= .ok (y,lf)):
  Calls Tryz.prog 109 #[.pointer (some ⟨a,0,none⟩),.agg (al 21 id 0 ty (bs []) p)] w (nI a L E n (fill (bare 21 id ty p) y) lf w):=by
 obtain⟨N,r1,hv1,h2⟩:=aB (show G.andThen (G.spot aQ E l) (fun n r=>G.andThen (G.name iP E r) fun s r=>G.andThen (G.values aQ E r) fun a=>G.done (n,a,[],s))= .ok (y,lf) from hr);obtain⟨s,r2,hv2,h2⟩:=aB h2;obtain⟨ar,r3,hv3,h2⟩:=aB h2
 cases h2;have HV1:=ae hv1;have HV2:=ae hv2;have HV3:=ae hv3;clear hr hv1 hv2 hv3;obtain⟨i0,hi0,hz0,hz1,hz2⟩:=info_parts Tryz.cr;have M0:Hid (cz w a (w.heap.size+1+1) (w.heap.size+1) L E n (21,id,0,ty,[],[],[],p) l (((w.alloc (.cells (al 21 id 0 ty (bs []) p) 47)).alloc (.cells (al 0 0 0 0 ⟨#[]⟩ 0) 47)).alloc (.cells (al 21 id 0 ty (bs []) p) 47))):=ae (cz.start h 21 id 0 ty [] p);have HC0:=ae (bV w 21 id 0 ty (bs []) p);clear h;generalize hg:w.heap.size+1=g at *;generalize hc:g+1=c at *;go_enter Tryz.func109,Tryz.ntmps109
 go_upto_region 2 with fail
 show Code.wp _ _ _ _ (((w.alloc (.cells (al 21 id 0 ty (bs []) p) 47)).alloc (.cells (al 0 0 0 0 ⟨#[]⟩ 0) 47)).alloc (.cells (al 21 id 0 ty (bs []) p) 47));generalize ((w.alloc (.cells (al 21 id 0 ty (bs []) p) 47)).alloc (.cells (al 0 0 0 0 ⟨#[]⟩ 0) 47)).alloc (.cells (al 21 id 0 ty (bs []) p) 47)=W0 at *;clear hg hc;obtain⟨x0,x1,x2,x3,x4,x5,x6,x7,xz,xl⟩:=a9 HC0.out;clear HC0;go_wp2_with fail
 refine(Lu 21 id ty N s p _ M0.out.1 HV1.out HV2.out HV3.out).mono ?_;rintro e w1 ⟨v,rfl,ho⟩;have ho:=ae ho;clear x0 x1 x2 x3 x4 x5 x6 x7 xz xl;obtain⟨aoA,mA,cA,aoT,mT,cT,rfl,hS,hfin⟩:=nH M0.out ho.out;obtain⟨s0,s1,s2,s3,s4,s5,s6,s7,f0,f1,f2,f3,f4,f5,f6,f7⟩:=kz hS;have FF:=ae (hfin _ (((((((((Far.refl g w1).set 0 (.int .i64 21)).set 1 (.int .i64 id)).set 2 (.int .i64 N)).set 3 (.int .i64 ty)).set 4 (.slice aoA mA cA)).set 5 (.slice aoT mT cT)).set 6 (.string (bs s))).set 7 (.int .i64 p)));clear hfin hS ho;simp only [ak] at *;go_wp2_with fail
 exact bodyPost_ret (v:= .agg (ak (21,id,N,ty,ar,[],s,p) (.slice aoA mA cA) (.slice aoT mT cT)).toArray) (by simp [results,Tryz.results109,go_sem,ak,s0,s1,s2,s3,s4,s5,s6,s7]) rfl ⟨_,rfl,⟨_,_,rfl,FF.out.1,FF.out.2.1⟩,FF.out.2.2.1,FF.out.2.2.2⟩
open G (Tok Er Ins Fun)
def qg (b:List Ins):List Int:=match b[b.length - 1]? with
 |some x=>x.2.2.2.2.2.1
 |none=> []
def aW (f:Fun) (k:Nat):List Int:=dI (qg (f.2.2.2.1.getD k []))
def aD (f:Fun):List (List Int):=f.2.2.2.1.map fun b=>dI (qg b)
def Ful (f:Fun):Prop:=f.2.2.2.1.length≤1000000∧∀b∈f.2.2.2.1,b≠ []∧∀x∈b,x.2.2.2.2.2.1.length≤1000000
theorem ju {f:Fun} {k:Nat} {b:List Ins} (h:f.2.2.2.1[k]? =some b):aW f k=dI (qg b):=by
 unfold aW;rw [List.getD_eq_getElem?_getD,h];rfl
theorem Ful.last {f:Fun} (h:Ful f) {b:List Ins} (hb:b∈f.2.2.2.1):∃x,b[b.length - 1]? =some x∧qg b=x.2.2.2.2.2.1∧x.2.2.2.2.2.1.length≤1000000:=by
 obtain⟨h1,h2⟩:=h.2 b hb;have:b.length - 1 < b.length:=by
  have:b.length≠0:=fun e=>h1 (List.length_eq_zero_iff.1 e);omega
 refine⟨b[b.length - 1],List.getElem?_eq_getElem this,?_,h2 _ (List.getElem_mem this)⟩;unfold qg;rw [List.getElem?_eq_getElem this]
theorem Tryz.uD:(Tryz.prog.info? 33).map (fun i=>(i.zero,i.size,i.bytes))=some (some (.slice none 0 0),1,24):=by kernel_rfl
def cF (B:Nat) (w:World) (ll:List (List Int)) (v:Value):Prop:=∃us:List Value,w.ownsRow B 33 1 v ll.length us∧us.length=ll.length∧∀(i:Nat) (l:List Int),ll[i]? =some l→∃u,us[i]? =some u∧w.ownsRow B 3 1 u l.length (ints l)
theorem cF.nil (B:Nat) (w:World):cF B w [] (.slice none 0 0):=⟨[],World.ownsRow_nil _ _ _ _,rfl,fun i l h=>by simp at h⟩
theorem cF.below {B:Nat} {w w':World} {ll:List (List Int)} {v:Value} (h:cF B w ll v) (b:Below w.heap.size w w'):cF B w' ll v:=by
 obtain⟨us,h1,h2,h3⟩:=h;refine⟨us,br b B _ _ _ _ _ h1,h2,fun i l hl=> ?_⟩;obtain⟨u,k1,k2⟩:=h3 i l hl;exact⟨u,k1,br b B _ _ _ _ _ k2⟩
theorem cF.base {B B':Nat} {w:World} {ll:List (List Int)} {v:Value} (h:cF B w ll v) (hB:B'≤B):cF B' w ll v:=by
 obtain⟨us,h1,h2,h3⟩:=h;refine⟨us,aT h1 hB,h2,fun i l hl=> ?_⟩;obtain⟨u,k1,k2⟩:=h3 i l hl;exact⟨u,k1,aT k2 hB⟩
theorem cF.len {B:Nat} {w:World} {ll:List (List Int)} {v:Value} (h:cF B w ll v):∃ao c,v= .slice ao ll.length c:=by
 obtain⟨us,h1,_⟩:=h;exact aL h1
theorem cF.step {B:Nat} {wr w2:World} {ll:List (List Int)} {l:List Int} {v v' u:Value} {us:List Value} {o:Obj} (h1:wr.ownsRow B 33 1 v ll.length us)
  (h:us.length=ll.length∧∀(i:Nat) (l:List Int),ll[i]? =some l→∃u,us[i]? =some u∧wr.ownsRow B 3 1 u l.length (ints l)) (hu:wr.ownsRow B 3 1 u l.length (ints l))
  (own:w2.ownsRow B 33 1 v' (ll.length+1) (us ++ [u])) (hg:(wr.alloc o).grownBy w2 v.ownBlock):cF B w2 (ll ++ [l]) v':=by
 obtain⟨h2,h3⟩:=h;refine⟨us ++ [u],by simpa using own,by simp [h2],fun i m hm=> ?_⟩;have other:∀(x:Value) (n:Nat) (xs:List Value),wr.ownsRow B 3 1 x n xs→w2.ownsRow B 3 1 x n xs:=fun x n xs hx=>fE hg (h1.alloc o) (by decide) x n xs (hx.alloc o);by_cases hi:i < ll.length
 ·rw [List.getElem?_append_left hi] at hm;obtain⟨y,k1,k2⟩:=h3 i m hm;exact⟨y,by rw [List.getElem?_append_left (by omega)];exact k1,other _ _ _ k2⟩
 ·rw [List.getElem?_append_right (by omega)] at hm;have hi2:i - ll.length=0:=by
   have:=(List.getElem?_eq_some_iff.1 hm).1;simp at this;omega
  rw [hi2] at hm;simp at hm;subst hm;exact⟨u,by rw [List.getElem?_append_right (by omega),h2,hi2];rfl,other _ _ _ hu⟩
def lW (w:World) (ao:Option Addr) (ll:List (List Int)):Prop:=ll= []∨∃b o,ao=some ⟨b,o,none⟩∧b < w.heap.size∧∀(i:Nat) (l:List Int),ll[i]? =some l→∃u,w.cell? ⟨b,o+i,none⟩=some u∧bX w l u
def fL (w:World) (ll:List (List Int)) (v:Value):Prop:=∃ao c,v= .slice ao ll.length c∧lW w ao ll∧ll.length≤c∧c≤maxLen
theorem lW.below {w w':World} {ao:Option Addr} {ll:List (List Int)} (h:lW w ao ll) (hb:Below w.heap.size w w'):lW w' ao ll:=by
 rcases h with h | ⟨b,o,e,hl,hc⟩
 ·exact .inl h
 ·refine .inr ⟨b,o,e,Nat.lt_of_lt_of_le hl hb.size,fun i l hi=> ?_⟩;obtain⟨u,h1,h2⟩:=hc i l hi;exact⟨u,(hb.cell (p:=⟨b,o+i,none⟩) hl).trans h1,h2.below hb⟩
theorem fL.below {w w':World} {ll:List (List Int)} {v:Value} (h:fL w ll v) (hb:Below w.heap.size w w'):fL w' ll v:=by
 obtain⟨ao,c,e,h1,h2⟩:=h;exact⟨ao,c,e,h1.below hb,h2⟩
theorem cF.read {B:Nat} {w:World} {ll:List (List Int)} {v:Value} (h:cF B w ll v):fL w ll v:=by
 obtain⟨us,h1,h2,h3⟩:=h;rcases dn h1 with ⟨rfl,hn⟩ | ⟨g,cap,rfl,k1,k2,k3,k4,k5,k6⟩
 ·have e:ll= []:=List.length_eq_zero_iff.1 hn;subst e;exact⟨none,0,rfl,.inl rfl,Nat.le_refl _,Nat.zero_le _⟩
 ·refine⟨some ⟨g,0,none⟩,cap,rfl,.inr ⟨g,0,rfl,k4,fun i l hi=> ?_⟩,k1,k2⟩;obtain⟨u,m1,m2⟩:=h3 i l hi;exact⟨u,by rw [Nat.zero_add];exact k5 i u m1,dG m2⟩
def bM (f:Fun) (b k:Nat):List Int:=((List.range k).filter fun j=>az (aW f j) b).map Int.ofNat
def aK (f:Fun):List (List Int):=(List.range f.2.2.2.1.length).map fun b=>bM f b f.2.2.2.1.length
theorem px {f:Fun} {b k:Nat} (h:az (aW f k) b=true):bM f b (k+1)=bM f b k ++ [(k:Int)]:=by
 unfold bM;rw [List.range_succ,List.filter_append,List.map_append];simp [h]
theorem sO {f:Fun} {b k:Nat} (h:az (aW f k) b=false):bM f b (k+1)=bM f b k:=by
 unfold bM;rw [List.range_succ,List.filter_append,List.map_append];simp [h]
theorem jV (f:Fun) (b k:Nat):(bM f b k).length≤k:=by
 unfold bM;rw [List.length_map];exact Nat.le_trans (List.length_filter_le _ _) (by simp)
theorem iC (f:Fun):(aK f).length=f.2.2.2.1.length:=by simp [aK]
end Go.Proofs.YtljkgcfnoegibaaGreatDoor
