/- Texts of one chain, joined. -/
import Derived.Test.YtaiaakklokahjaaGreatDoorZWaAI
import Derived.Test.YtaiaakklokahjaaGreatDoorZWaAJ
set_option maxHeartbeats 4000000
set_option maxRecDepth 20000
namespace Go.Proofs.YtaiaakklokahjaaGreatDoor
open Go Go.RowKit
open G (Tok Er Ins Fun ah bk fk)
def dk (E:Int):List UInt8→Ins→List Tok→Except Er (Ins × List Tok)
 |[],x,l=> .ok (x,l)
 |c :: r,x,l=>
  if c=118 then G.andThen (G.value aF E l) fun v l'=>dk E r (addArg x v) l'
  else if c=115 then G.andThen (G.number bL E 0 15 l) fun v l'=>dk E r (fi x v) l'
  else if c=110 then G.andThen (G.number bL E 0 1048576 l) fun v l'=>dk E r (fi x v) l'
  else G.andThen (G.label aF E l) fun v l'=>dk E r (eF x v) l'
theorem yC {s:List UInt8} {k:Nat} (h:k < s.length):∃c,s[k]? =some c∧s.drop k=c :: s.drop (k+1):=⟨s[k],List.getElem?_eq_getElem h,List.drop_eq_getElem_cons h⟩
theorem Is {s:List UInt8} {k:Nat} {c:UInt8} (h:s[k]? =some c):∃hk:k < (bs s).size,(bs s)[k]=c:=by
 obtain⟨h1,h2⟩:=List.getElem?_eq_some_iff.1 h;exact⟨by rw [bE];exact h1,h2⟩
theorem IB (s:List UInt8) (op id nn ty:Int) (nm:List UInt8) (p:Int) {a:Nat} {L:List Tok} {E:Int} {n:Nat} {l lf:List Tok} {y:Ins} (w:World) (h:RR a L E n l w) (hs:∀c∈s,c=118∨c=115∨c=110∨c=108) (hsl:s.length≤100) (hr:dk E s (op,id,nn,ty,[],[],nm,p) l= .ok (y,lf)):
  Calls Tryz.prog 188 #[.pointer (some ⟨a,0,none⟩),.agg (al op id nn ty (bs nm) p),.string (bs s)] w (mH a L E n y lf w):=by
 obtain⟨i0,hi0,hz0,hz1,hz2⟩:=info_parts Tryz.cU;have M0:Hid (bN w a (w.heap.size+1+1) (w.heap.size+1) L E n (op,id,nn,ty,[],[],nm,p) l (((w.alloc (.cells (al op id nn ty (bs nm) p) 41)).alloc (.cells (al 0 0 0 0 ⟨#[]⟩ 0) 41)).alloc (.cells (al op id nn ty (bs nm) p) 41))):=aa (bN.start h op id nn ty nm p);have HR:=aa hr;have HS:=aa hs;have hz:(bs s).size≤100:=by rw [bE];exact hsl
 have HZ:=aa (bE s);clear hr hs;clear h;generalize hg:w.heap.size+1=g at *;generalize hc:g+1=c at *;go_enter Tryz.func188,Tryz.ntmps188
 go_upto_region 2 with fail
 show Code.wp _ _ _ _ (((w.alloc (.cells (al op id nn ty (bs nm) p) 41)).alloc (.cells (al 0 0 0 0 ⟨#[]⟩ 0) 41)).alloc (.cells (al op id nn ty (bs nm) p) 41));generalize ((w.alloc (.cells (al op id nn ty (bs nm) p) 41)).alloc (.cells (al 0 0 0 0 ⟨#[]⟩ 0) 41)).alloc (.cells (al op id nn ty (bs nm) p) 41)=W0 at *;clear hg hc;go_wp2_with fail
 go_loopw [8] (fun i wr=>∃(k:Nat) (x':Ins) (l':List Tok),i= .int .i64 k∧k≤s.length∧x'.2.2.2.2.1.length≤k∧x'.2.2.2.2.2.1.length≤k∧Hid (bN w a c g L E n x' l' wr)∧Hid (dk E (s.drop k) x' l'= .ok (y,lf))) (fun i _=>s.length - (intOf i).toNat)
 case atStart=>exact⟨0,_,l,rfl,Nat.zero_le _,Nat.le_refl _,Nat.le_refl _,M0,HR⟩
 case round=>
  obtain⟨k,x',l',rfl,hk,hA,hT,M,HR'⟩:=hrel;by_cases hlt:k < s.length
  ·obtain⟨d,hd,hdr⟩:=yC hlt;obtain⟨hkz,hb⟩:=Is hd;have HD:=HS.out d (List.mem_of_getElem? hd);have hRR:Hid (dk E (d :: s.drop (k+1)) x' l'= .ok (y,lf)):=aa (by rw [←hdr];exact HR'.out);have hkz':(k:Int) < ((bs s).size:Int):=(by omega);clear hd hdr HR';rcases HD with rfl | rfl | rfl | rfl
   ·obtain⟨v,l2,hv,hr2⟩:=ax (show G.andThen (G.value aF E l') (fun v l''=>dk E (s.drop (k+1)) (addArg x' v) l'')= .ok (y,lf) from hRR.out);have hb1:((bs s)[k].toNat:Int)=118:=(by rw [hb];rfl);have HV:=aa hv;have HR2:=aa hr2;clear hb hv hr2 hRR;go_wp2_with fail
    refine(rvalue _ M.out.1 HV.out).mono ?_;rintro e w1 ⟨rfl,a1⟩;have M1:=aa (M.out.ate a1);clear M a1;obtain⟨va,vt,HC,HZ4,o1,o2,o3⟩:=M1.out.2.1.cells;have hcl5:=M1.out.lt;have cA:=HC 4 _ rfl;have zA:=HZ4 4;have hne:va.ownBlock≠some c:=(o3 c (by obtain⟨ua,ut,q1,_⟩:=M1.out.2.1;exact⟨_,_,q1⟩)).1;obtain⟨ao5,cp5,rfl⟩:=aI o1;have O5:=aa o1;obtain⟨cB,zB⟩:=Cel.below (af w1 (.cells #[.int .i64 v] 3)) hcl5.2.2.2.1 cA zA;clear HC HZ4 o1 o2 o3;have t25:x'.2.2.2.2.1.length+1≤maxLen:=(by unfold maxLen;omega);have t35:(x'.2.2.2.2.1.length+1) * 8≤140737488355328:=(by omega);have t45:w.heap.size≤(w1.alloc (.cells #[.int .i64 v] 3)).heap.size:=(by simp;omega);have t55:c < (w1.alloc (.cells #[.int .i64 v] 3)).heap.size:=(by simp;omega);go_wp2_with (at_builtin;refine wpList_append_lies _ rfl (.tmp 26) (.tmp 28) 26 rfl w.heap.size 3 i0 _ 1 8 Tryz.underlying26 hi0 hz0 hz1 hz2 rfl (by decide) _ _ _ rfl (O5.out.alloc _) ⟨w1.heap.size,0,none⟩ 1 1 [.int .i64 v] rfl rfl one_cell one_one (by decide) t25 t35 t45 (w1.heap.size+1) (by simp) ?_;intro gg5 cap5 w5 hown5 hgrow5 hat5 hlt5;obtain⟨cC5,zC5⟩:=Cel.grown hgrow5 t55 hne cB zB)
    have M3:=aa ((M1.out.below (af w1 (.cells #[.int .i64 v] 3))).arg cB hown5 hgrow5 (hat5.imp (fun e=>e) (fun e=>e.trans (by simp))));go_roundw
    case rel=>exact⟨k+1,_,l2,by go_num,by omega,by(show _≤_+1;grind [addArg,eF,fi]),by(show _≤_+1;grind [addArg,eF,fi]),M3,HR2⟩
    case measure=>simp [intOf];omega
   ·obtain⟨v,l2,hv,hr2⟩:=ax (show G.andThen (G.number bL E 0 15 l') (fun v l''=>dk E (s.drop (k+1)) (fi x' v) l'')= .ok (y,lf) from hRR.out);have hb1:((bs s)[k].toNat:Int)=115:=(by rw [hb];rfl);obtain rfl:l2=l'.tail:=(dO hv).1;have HV:=aa hv;have HR2:=aa hr2;clear hb hv hr2 hRR;go_wp2_with fail
    refine(nR 0 15 v _ M.out.1 (dO HV.out).2.1 (dO HV.out).2.2.1 (dO HV.out).2.2.2).mono ?_;rintro e w1 ⟨rfl,a1⟩;have M1:=aa (M.out.ate a1);clear M a1;obtain⟨va,vt,HC,HZ4,o1,o2,o3⟩:=M1.out.2.1.cells;have cA:=HC 2 _ rfl;have zA:=HZ4 2;have M3:=aa (M1.out.put (M1.out.2.1.fi v));clear HC HZ4 o1 o2 o3;go_wp2_with fail
    go_roundw
    case rel=>exact⟨k+1,_,l'.tail,by go_num,by omega,by(show _≤_+1;grind [addArg,eF,fi]),by(show _≤_+1;grind [addArg,eF,fi]),M3,HR2⟩
    case measure=>simp [intOf];omega
   ·obtain⟨v,l2,hv,hr2⟩:=ax (show G.andThen (G.number bL E 0 1048576 l') (fun v l''=>dk E (s.drop (k+1)) (fi x' v) l'')= .ok (y,lf) from hRR.out);have hb1:((bs s)[k].toNat:Int)=110:=(by rw [hb];rfl);obtain rfl:l2=l'.tail:=(dO hv).1;have HV:=aa hv;have HR2:=aa hr2;clear hb hv hr2 hRR;go_wp2_with fail
    refine(nR 0 1048576 v _ M.out.1 (dO HV.out).2.1 (dO HV.out).2.2.1 (dO HV.out).2.2.2).mono ?_;rintro e w1 ⟨rfl,a1⟩;have M1:=aa (M.out.ate a1);clear M a1;obtain⟨va,vt,HC,HZ4,o1,o2,o3⟩:=M1.out.2.1.cells;have cA:=HC 2 _ rfl;have zA:=HZ4 2;have M3:=aa (M1.out.put (M1.out.2.1.fi v));clear HC HZ4 o1 o2 o3;go_wp2_with fail
    go_roundw
    case rel=>exact⟨k+1,_,l'.tail,by go_num,by omega,by(show _≤_+1;grind [addArg,eF,fi]),by(show _≤_+1;grind [addArg,eF,fi]),M3,HR2⟩
    case measure=>simp [intOf];omega
   ·obtain⟨v,l2,hv,hr2⟩:=ax (show G.andThen (G.label aF E l') (fun v l''=>dk E (s.drop (k+1)) (eF x' v) l'')= .ok (y,lf) from hRR.out);have hb1:((bs s)[k].toNat:Int)=108:=(by rw [hb];rfl);have HV:=aa hv;have HR2:=aa hr2;clear hb hv hr2 hRR;go_wp2_with fail
    refine(wa _ M.out.1 HV.out).mono ?_;rintro e w1 ⟨rfl,a1⟩;have M1:=aa (M.out.ate a1);clear M a1;obtain⟨va,vt,HC,HZ4,o1,o2,o3⟩:=M1.out.2.1.cells;have hcl5:=M1.out.lt;have cA:=HC 5 _ rfl;have zA:=HZ4 5;have hne:vt.ownBlock≠some c:=(o3 c (by obtain⟨ua,ut,q1,_⟩:=M1.out.2.1;exact⟨_,_,q1⟩)).2;obtain⟨ao5,cp5,rfl⟩:=aI o2;have O5:=aa o2;obtain⟨cB,zB⟩:=Cel.below (af w1 (.cells #[.int .i64 v] 3)) hcl5.2.2.2.1 cA zA;clear HC HZ4 o1 o2 o3;have t25:x'.2.2.2.2.2.1.length+1≤maxLen:=(by unfold maxLen;omega);have t35:(x'.2.2.2.2.2.1.length+1) * 8≤140737488355328:=(by omega);have t45:w.heap.size≤(w1.alloc (.cells #[.int .i64 v] 3)).heap.size:=(by simp;omega);have t55:c < (w1.alloc (.cells #[.int .i64 v] 3)).heap.size:=(by simp;omega);go_wp2_with (at_builtin;refine wpList_append_lies _ rfl (.tmp 46) (.tmp 48) 26 rfl w.heap.size 3 i0 _ 1 8 Tryz.underlying26 hi0 hz0 hz1 hz2 rfl (by decide) _ _ _ rfl (O5.out.alloc _) ⟨w1.heap.size,0,none⟩ 1 1 [.int .i64 v] rfl rfl one_cell one_one (by decide) t25 t35 t45 (w1.heap.size+1) (by simp) ?_;intro gg5 cap5 w5 hown5 hgrow5 hat5 hlt5;obtain⟨cC5,zC5⟩:=Cel.grown hgrow5 t55 hne cB zB)
    have M3:=aa ((M1.out.below (af w1 (.cells #[.int .i64 v] 3))).to cB hown5 hgrow5 (hat5.imp (fun e=>e) (fun e=>e.trans (by simp))));go_roundw
    case rel=>exact⟨k+1,_,l2,by go_num,by omega,by(show _≤_+1;grind [addArg,eF,fi]),by(show _≤_+1;grind [addArg,eF,fi]),M3,HR2⟩
    case measure=>simp [intOf];omega
  ·have hk2:k=s.length:=(by omega);have HE:Hid (dk E [] x' l'= .ok (y,lf)):=aa (by have:=HR'.out;rwa [hk2,List.drop_length] at this);obtain⟨rfl,rfl⟩:x'=y∧l'=lf:=(by have:=HE.out;cases this;exact⟨rfl,rfl⟩);have hkz':¬(k:Int) < ((bs s).size:Int):=(by have:=HZ.out;omega);have hkz2:decide ((k:Int) < ((bs s).size:Int))=false:=(by simpa using hkz');obtain⟨va',vt',HC,HZ4,o1,o2,o3⟩:=M.out.2.1.cells;obtain⟨aoA,mA,cA,rfl⟩:=aQ o1;obtain⟨aoT,mT,cT,rfl⟩:=aQ o2;have y0:=HC 0 _ rfl;have y1:=HC 1 _ rfl;have y2:=HC 2 _ rfl;have y3:=HC 3 _ rfl;have y4:=HC 4 _ rfl;have y5:=HC 5 _ rfl;have y6:=HC 6 _ rfl;have y7:=HC 7 _ rfl;have hS:=M.out.2.2.1;obtain⟨o3a,o3b⟩:=o3 g ⟨_,_,hS⟩;have hS:=aa hS;have o1:=aa o1;have o2:=aa o2;clear HC HZ4 o3;obtain⟨s0,s1,s2,s3,s4,s5,s6,s7,f0,f1,f2,f3,f4,f5,f6,f7⟩:=kH hS.out;have hcn:c≠g:=fun e=>M.out.2.2.2.2.2.2 e.symm;have FF:=aa (((((((((Far.refl g wr).set 0 (.int .i64 x'.1)).set 1 (.int .i64 x'.2.1)).set 2 (.int .i64 x'.2.2.1)).set 3 (.int .i64 x'.2.2.2.1)).set 4 (.slice aoA mA cA)).set 5 (.slice aoT mT cT)).set 6 (.string (bs x'.2.2.2.2.2.2.1))).set 7 (.int .i64 x'.2.2.2.2.2.2.2));have KK:=aa (FF.out.kr M.out.2.2.2.1 M.out.2.2.2.2.2.1);have QQ:=aa (FF.out.rr M.out.1 hS.out (by decide) (by have:=M.out.lt;omega));have OO:=aa (⟨FF.out.own o1.out o3a,FF.out.own o2.out o3b⟩:_∧_);go_wp2_with fail
   exact bodyPost_ret (v:= .agg (ak x' (.slice aoA mA cA) (.slice aoT mT cT)).toArray) (by simp [results,Tryz.results188,go_sem,ak,s0,s1,s2,s3,s4,s5,s6,s7]) rfl ⟨_,rfl,⟨_,_,rfl,OO.out.1,OO.out.2⟩,QQ.out,KK.out⟩
def ej (op:Int):List UInt8:=
 if op=11 then [118,115] else if op=12 then [118,115] else if op=15 then [118,115] else if op=13 then [118,115,118] else if op=14 then [118,115,118]
 else if op=23 then [110] else if op=24 then [118,110] else if op=26 then [108] else if op=27 then [118,108,108] else List.replicate (dZ op) 118
theorem Ep (op:Int):dZ op≤2:=by
 unfold dZ L5.takes;exact List.length_filter_le _ _
theorem JP (k:Nat):bs (List.replicate k 118) ++ ⟨#[118]⟩=bs (List.replicate (k+1) 118):=by
 rw [show(⟨#[118]⟩:ByteArray)=bs [118] from rfl,Fa,List.replicate_succ']
theorem uB (w:World):Calls Tryz.prog 189 #[.int .i64 11] w fun e w'=>e= .returned (.string (bs (ej 11)))∧Below w.heap.size w w':=by
 go_enter Tryz.func189,Tryz.ntmps189
 go_wp2_with fail
 go_ret;exact⟨rfl,Below.refl _ _⟩
theorem um (w:World):Calls Tryz.prog 189 #[.int .i64 12] w fun e w'=>e= .returned (.string (bs (ej 12)))∧Below w.heap.size w w':=by
 go_enter Tryz.func189,Tryz.ntmps189
 go_wp2_with fail
 go_ret;exact⟨rfl,Below.refl _ _⟩
theorem tg (w:World):Calls Tryz.prog 189 #[.int .i64 15] w fun e w'=>e= .returned (.string (bs (ej 15)))∧Below w.heap.size w w':=by
 go_enter Tryz.func189,Tryz.ntmps189
 go_wp2_with fail
 go_ret;exact⟨rfl,Below.refl _ _⟩
theorem tY (w:World):Calls Tryz.prog 189 #[.int .i64 13] w fun e w'=>e= .returned (.string (bs (ej 13)))∧Below w.heap.size w w':=by
 go_enter Tryz.func189,Tryz.ntmps189
 go_wp2_with fail
 go_ret;exact⟨rfl,Below.refl _ _⟩
theorem uS (w:World):Calls Tryz.prog 189 #[.int .i64 14] w fun e w'=>e= .returned (.string (bs (ej 14)))∧Below w.heap.size w w':=by
 go_enter Tryz.func189,Tryz.ntmps189
 go_wp2_with fail
 go_ret;exact⟨rfl,Below.refl _ _⟩
theorem tH (w:World):Calls Tryz.prog 189 #[.int .i64 23] w fun e w'=>e= .returned (.string (bs (ej 23)))∧Below w.heap.size w w':=by
 go_enter Tryz.func189,Tryz.ntmps189
 go_wp2_with fail
 go_ret;exact⟨rfl,Below.refl _ _⟩
theorem ve (w:World):Calls Tryz.prog 189 #[.int .i64 24] w fun e w'=>e= .returned (.string (bs (ej 24)))∧Below w.heap.size w w':=by
 go_enter Tryz.func189,Tryz.ntmps189
 go_wp2_with fail
 go_ret;exact⟨rfl,Below.refl _ _⟩
theorem sY (w:World):Calls Tryz.prog 189 #[.int .i64 26] w fun e w'=>e= .returned (.string (bs (ej 26)))∧Below w.heap.size w w':=by
 go_enter Tryz.func189,Tryz.ntmps189
 go_wp2_with fail
 go_ret;exact⟨rfl,Below.refl _ _⟩
theorem tB (w:World):Calls Tryz.prog 189 #[.int .i64 27] w fun e w'=>e= .returned (.string (bs (ej 27)))∧Below w.heap.size w w':=by
 go_enter Tryz.func189,Tryz.ntmps189
 go_wp2_with fail
 go_ret;exact⟨rfl,Below.refl _ _⟩
theorem pO (op:Int) (w:World) (h11:(op == 11)=false) (h12:(op == 12)=false) (h15:(op == 15)=false) (h13:(op == 13)=false) (h14:(op == 14)=false) (h23:(op == 23)=false) (h24:(op == 24)=false) (h26:(op == 26)=false) (h27:(op == 27)=false):Calls Tryz.prog 189 #[.int .i64 op] w fun e w'=>e= .returned (.string (bs (ej op)))∧Below w.heap.size w w':=by
 have HL:Hid (List.replicate (dZ op) 118=ej op):=aa (by
  simp only [beq_eq_false_iff_ne,ne_eq] at *;unfold ej;rw [if_neg h11,if_neg h12,if_neg h15,if_neg h13,if_neg h14,if_neg h23,if_neg h24,if_neg h26,if_neg h27])
 have hm:=Ep op;go_enter Tryz.func189,Tryz.ntmps189
 go_wp2_with fail
 clear h11 h12 h15 h13 h14 h23 h24 h26 h27;go_loopw [3,4] (fun sv i wr=>∃k:Nat,k≤dZ op∧sv= .string (bs (List.replicate k 118))∧i= .int .i64 k∧Hid (Below w.heap.size w wr)) (fun _ i _=>dZ op - (intOf i).toNat)
 case atStart=>exact⟨0,Nat.zero_le _,rfl,rfl,Below.refl _ _⟩
 case round=>
  obtain⟨k,hk,rfl,rfl,HB⟩:=hrel;go_wp2_with fail
  refine(L5.iz op _).mono ?_;rintro e w1 ⟨ao,cap,rfl,_,b1⟩;have HB1:=aa (ae HB.out b1);clear HB b1;change k≤(L5.takes (L5.num op)).length at hk;have hm':(L5.takes (L5.num op)).length≤2:=hm;by_cases hlt:k < (L5.takes (L5.num op)).length
  ·have hlt':(k:Int) < ((L5.takes (L5.num op)).length:Int):=(by omega);have hz:(bs (List.replicate k 118)).size≤2:=(by rw [bE,List.length_replicate];omega);have hv:=JP k;go_wp2_with fail
   go_roundw
   case rel=>exact⟨k+1,by show k+1≤(L5.takes (L5.num op)).length;omega,by first | rfl | rw [←hv],by go_num,HB1⟩
   case measure=>simp [intOf,dZ];omega
  ·have hk2:Hid (k=dZ op):=aa (by show k=(L5.takes (L5.num op)).length;omega);have hlt':¬(k:Int) < ((L5.takes (L5.num op)).length:Int):=(by omega);have HQ:Hid (bs (List.replicate k 118)=bs (ej op)):=aa (by rw [hk2.out,HL.out]);have hlt2:decide ((k:Int) < ((L5.takes (L5.num op)).length:Int))=false:=(by simpa using hlt');go_wp2_with fail
   go_ret;exact⟨L5.jW HQ.out,HB1.out⟩
theorem Ch (op:Int) (w:World):Calls Tryz.prog 189 #[.int .i64 op] w fun e w'=>e= .returned (.string (bs (ej op)))∧Below w.heap.size w w':=by
 by_cases h11:op=11
 ·subst h11;exact uB w
 by_cases h12:op=12
 ·subst h12;exact um w
 by_cases h15:op=15
 ·subst h15;exact tg w
 by_cases h13:op=13
 ·subst h13;exact tY w
 by_cases h14:op=14
 ·subst h14;exact uS w
 by_cases h23:op=23
 ·subst h23;exact tH w
 by_cases h24:op=24
 ·subst h24;exact ve w
 by_cases h26:op=26
 ·subst h26;exact sY w
 by_cases h27:op=27
 ·subst h27;exact tB w
 exact pO op w (by simpa using h11) (by simpa using h12) (by simpa using h15) (by simpa using h13) (by simpa using h14) (by simpa using h23) (by simpa using h24) (by simpa using h26) (by simpa using h27)
theorem mB {w:World} {a c g:Nat} {L:List Tok} {E:Int} {n:Nat} {x y:Ins} {l lf:List Tok} {W1 w2:World} {v:Value} (M:bN w a c g L E n x l W1) (h:sH W1.heap.size y v w2∧RR a L E n lf w2∧Kr a W1 w2):
  ∃aoA mA cA aoT mT cT,v= .agg (ak y (.slice aoA mA cA) (.slice aoT mT cT)).toArray∧w2.heap[g]? =some (.cells #[.int .i64 0,.int .i64 0,.int .i64 0,.int .i64 0,.slice none 0 0,.slice none 0 0,.string ⟨#[]⟩,.int .i64 0] 41 (0,0))∧
   ∀W,Far g w2 W→W.ownsRow w.heap.size 3 1 (.slice aoA mA cA) y.2.2.2.2.1.length (ints y.2.2.2.2.1)∧W.ownsRow w.heap.size 3 1 (.slice aoT mT cT) y.2.2.2.2.2.1.length (ints y.2.2.2.2.2.1)∧RR a L E n lf W∧Kr a w W:=by
 have hl:=M.lt;obtain⟨⟨va,vt,rfl,o1,o2⟩,r,k⟩:=h;obtain⟨h1,h2,h3,h4,h5,h6,h7⟩:=M;obtain⟨aoA,mA,cA,rfl⟩:=aQ o1;obtain⟨aoT,mT,cT,rfl⟩:=aQ o2;have hS:=(k.2.2.2.2 g hl.2.2.2.2.1 (by omega)).trans h3;refine⟨aoA,mA,cA,aoT,mT,cT,rfl,hS,fun W hW=>⟨aL (hW.own o1 (bp o1 hS (by decide))) hl.2.2.2.2.2.2,aL (hW.own o2 (bp o2 hS (by decide))) hl.2.2.2.2.2.2,hW.rr r hS (by decide) (by omega),hW.kr (h4.trans k) h6⟩⟩
theorem en (w:World) (op id nn ty:Int) (nm:ByteArray) (p:Int):(((w.alloc (.cells (al op id nn ty nm p) 41)).alloc (.cells (al 0 0 0 0 ⟨#[]⟩ 0) 41)).alloc (.cells (al op id nn ty nm p) 41)).heap[w.heap.size+1+1]? =some (.cells (al op id nn ty nm p) 41 (0,0)):=by
 have s2:((w.alloc (.cells (al op id nn ty nm p) 41)).alloc (.cells (al 0 0 0 0 ⟨#[]⟩ 0) 41)).heap.size=w.heap.size+1+1:=by simp
 rw [←s2];exact heap_alloc_new _ _
theorem bH {w:World} {c:Nat} {op id nn ty p:Int} {nm:ByteArray} (h:w.heap[c]? =some (.cells (al op id nn ty nm p) 41 (0,0))):
  w.cell? ⟨c,0,none⟩=some (.int .i64 op)∧w.cell? ⟨c,1,none⟩=some (.int .i64 id)∧w.cell? ⟨c,2,none⟩=some (.int .i64 nn)∧w.cell? ⟨c,3,none⟩=some (.int .i64 ty)∧w.cell? ⟨c,4,none⟩=some (.slice none 0 0)∧w.cell? ⟨c,5,none⟩=some (.slice none 0 0)∧w.cell? ⟨c,6,none⟩=some (.string nm)∧w.cell? ⟨c,7,none⟩=some (.int .i64 p)∧(∀i,w.frozen? ⟨c,i,none⟩=false)∧c < w.heap.size:=by
 refine⟨?_,?_,?_,?_,?_,?_,?_,?_,fun i=>by simp [World.frozen?,h],(Array.getElem?_eq_some_iff.1 h).1⟩ <;> simp [World.cell?,h]
theorem Bp {E:Int}:∀(k:Nat) (op id nn ty p:Int) (acc:List Int) (l:List Tok) (a:List Int) (lf:List Tok),G.aV aF E k acc l= .ok (a,lf)→dk E (List.replicate k 118) (op,id,nn,ty,acc,[],[],p) l= .ok ((op,id,nn,ty,a,[],[],p),lf):=by
 intro k;induction k with
 |zero=>intro op id nn ty p acc l a lf h;cases h;rfl
 |succ k ih=>
  intro op id nn ty p acc l a lf h;obtain⟨v,r,hv,h2⟩:=ax (show G.andThen (G.value aF E l) (fun v=>G.aV aF E k (acc ++ [v]))= .ok (a,lf) from h);show G.andThen (G.value aF E l) _=_;rw [hv];exact ih op id nn ty p (acc ++ [v]) r a lf h2
theorem ID (op:Int):(∀c∈ej op,c=118∨c=115∨c=110∨c=108)∧(ej op).length≤100:=by
 unfold ej;repeat' (first | split)
 all_goals first | exact⟨by decide,by decide⟩ | skip
 refine⟨fun c hc=> .inl (List.eq_of_mem_replicate hc),?_⟩;rw [List.length_replicate];have:=Ep op;omega
theorem F0 {E id ty p:Int} {l lf:List Tok} {y:G.Opd} (h:bu E 11 l= .ok (y,lf)):dk E (ej 11) (bare 11 id ty p) l= .ok (fill (bare 11 id ty p) y,lf):=by
 replace h:(fun r0=>G.andThen (G.value aF E r0) (fun v=>fun r1=>G.andThen (G.number bL E 0 15 r1) (fun x=>G.done (x,[v],[],[])))) l= .ok (y,lf):=h;obtain⟨v,q0,e0,h⟩:=ax (show G.andThen (G.value aF E l) (fun v=>fun r1=>G.andThen (G.number bL E 0 15 r1) (fun x=>G.done (x,[v],[],[])))= .ok (y,lf) from h);obtain⟨x,q1,e1,h⟩:=ax (show G.andThen (G.number bL E 0 15 q0) (fun x=>G.done (x,[v],[],[]))= .ok (y,lf) from h)
 cases h;refine(bU e0).trans ?_;refine(bU e1).trans ?_;rfl
theorem Ge {E id ty p:Int} {l lf:List Tok} {y:G.Opd} (h:bu E 12 l= .ok (y,lf)):dk E (ej 12) (bare 12 id ty p) l= .ok (fill (bare 12 id ty p) y,lf):=by
 replace h:(fun r0=>G.andThen (G.value aF E r0) (fun v=>fun r1=>G.andThen (G.number bL E 0 15 r1) (fun x=>G.done (x,[v],[],[])))) l= .ok (y,lf):=h;obtain⟨v,q0,e0,h⟩:=ax (show G.andThen (G.value aF E l) (fun v=>fun r1=>G.andThen (G.number bL E 0 15 r1) (fun x=>G.done (x,[v],[],[])))= .ok (y,lf) from h);obtain⟨x,q1,e1,h⟩:=ax (show G.andThen (G.number bL E 0 15 q0) (fun x=>G.done (x,[v],[],[]))= .ok (y,lf) from h)
 cases h;refine(bU e0).trans ?_;refine(bU e1).trans ?_;rfl
theorem FI {E id ty p:Int} {l lf:List Tok} {y:G.Opd} (h:bu E 15 l= .ok (y,lf)):dk E (ej 15) (bare 15 id ty p) l= .ok (fill (bare 15 id ty p) y,lf):=by
 replace h:(fun r0=>G.andThen (G.value aF E r0) (fun v=>fun r1=>G.andThen (G.number bL E 0 15 r1) (fun x=>G.done (x,[v],[],[])))) l= .ok (y,lf):=h;obtain⟨v,q0,e0,h⟩:=ax (show G.andThen (G.value aF E l) (fun v=>fun r1=>G.andThen (G.number bL E 0 15 r1) (fun x=>G.done (x,[v],[],[])))= .ok (y,lf) from h);obtain⟨x,q1,e1,h⟩:=ax (show G.andThen (G.number bL E 0 15 q0) (fun x=>G.done (x,[v],[],[]))= .ok (y,lf) from h)
 cases h;refine(bU e0).trans ?_;refine(bU e1).trans ?_;rfl
theorem Gq {E id ty p:Int} {l lf:List Tok} {y:G.Opd} (h:bu E 13 l= .ok (y,lf)):dk E (ej 13) (bare 13 id ty p) l= .ok (fill (bare 13 id ty p) y,lf):=by
 replace h:(fun r0=>G.andThen (G.value aF E r0) (fun v=>fun r1=>G.andThen (G.number bL E 0 15 r1) (fun x=>fun r2=>G.andThen (G.value aF E r2) (fun u=>G.done (x,[v,u],[],[]))))) l= .ok (y,lf):=h;obtain⟨v,q0,e0,h⟩:=ax (show G.andThen (G.value aF E l) (fun v=>fun r1=>G.andThen (G.number bL E 0 15 r1) (fun x=>fun r2=>G.andThen (G.value aF E r2) (fun u=>G.done (x,[v,u],[],[]))))= .ok (y,lf) from h);obtain⟨x,q1,e1,h⟩:=ax (show G.andThen (G.number bL E 0 15 q0) (fun x=>fun r2=>G.andThen (G.value aF E r2) (fun u=>G.done (x,[v,u],[],[])))= .ok (y,lf) from h);obtain⟨u,q2,e2,h⟩:=ax (show G.andThen (G.value aF E q1) (fun u=>G.done (x,[v,u],[],[]))= .ok (y,lf) from h)
 cases h;refine(bU e0).trans ?_;refine(bU e1).trans ?_;refine(bU e2).trans ?_;rfl
theorem GM {E id ty p:Int} {l lf:List Tok} {y:G.Opd} (h:bu E 14 l= .ok (y,lf)):dk E (ej 14) (bare 14 id ty p) l= .ok (fill (bare 14 id ty p) y,lf):=by
 replace h:(fun r0=>G.andThen (G.value aF E r0) (fun v=>fun r1=>G.andThen (G.number bL E 0 15 r1) (fun x=>fun r2=>G.andThen (G.value aF E r2) (fun u=>G.done (x,[v,u],[],[]))))) l= .ok (y,lf):=h;obtain⟨v,q0,e0,h⟩:=ax (show G.andThen (G.value aF E l) (fun v=>fun r1=>G.andThen (G.number bL E 0 15 r1) (fun x=>fun r2=>G.andThen (G.value aF E r2) (fun u=>G.done (x,[v,u],[],[]))))= .ok (y,lf) from h);obtain⟨x,q1,e1,h⟩:=ax (show G.andThen (G.number bL E 0 15 q0) (fun x=>fun r2=>G.andThen (G.value aF E r2) (fun u=>G.done (x,[v,u],[],[])))= .ok (y,lf) from h);obtain⟨u,q2,e2,h⟩:=ax (show G.andThen (G.value aF E q1) (fun u=>G.done (x,[v,u],[],[]))= .ok (y,lf) from h)
 cases h;refine(bU e0).trans ?_;refine(bU e1).trans ?_;refine(bU e2).trans ?_;rfl
theorem GN {E id ty p:Int} {l lf:List Tok} {y:G.Opd} (h:bu E 23 l= .ok (y,lf)):dk E (ej 23) (bare 23 id ty p) l= .ok (fill (bare 23 id ty p) y,lf):=by
 replace h:(fun r0=>G.andThen (G.number bL E 0 1048576 r0) (fun x=>G.done (x,[],[],[]))) l= .ok (y,lf):=h;obtain⟨x,q0,e0,h⟩:=ax (show G.andThen (G.number bL E 0 1048576 l) (fun x=>G.done (x,[],[],[]))= .ok (y,lf) from h)
 cases h;refine(bU e0).trans ?_;rfl
theorem GU {E id ty p:Int} {l lf:List Tok} {y:G.Opd} (h:bu E 24 l= .ok (y,lf)):dk E (ej 24) (bare 24 id ty p) l= .ok (fill (bare 24 id ty p) y,lf):=by
 replace h:(fun r0=>G.andThen (G.value aF E r0) (fun v=>fun r1=>G.andThen (G.number bL E 0 1048576 r1) (fun x=>G.done (x,[v],[],[])))) l= .ok (y,lf):=h;obtain⟨v,q0,e0,h⟩:=ax (show G.andThen (G.value aF E l) (fun v=>fun r1=>G.andThen (G.number bL E 0 1048576 r1) (fun x=>G.done (x,[v],[],[])))= .ok (y,lf) from h);obtain⟨x,q1,e1,h⟩:=ax (show G.andThen (G.number bL E 0 1048576 q0) (fun x=>G.done (x,[v],[],[]))= .ok (y,lf) from h)
 cases h;refine(bU e0).trans ?_;refine(bU e1).trans ?_;rfl
theorem H9 {E id ty p:Int} {l lf:List Tok} {y:G.Opd} (h:bu E 26 l= .ok (y,lf)):dk E (ej 26) (bare 26 id ty p) l= .ok (fill (bare 26 id ty p) y,lf):=by
 replace h:(fun r0=>G.andThen (G.label aF E r0) (fun b=>G.done (0,[],[b],[]))) l= .ok (y,lf):=h;obtain⟨b,q0,e0,h⟩:=ax (show G.andThen (G.label aF E l) (fun b=>G.done (0,[],[b],[]))= .ok (y,lf) from h)
 cases h;refine(bU e0).trans ?_;rfl
theorem FH {E id ty p:Int} {l lf:List Tok} {y:G.Opd} (h:bu E 27 l= .ok (y,lf)):dk E (ej 27) (bare 27 id ty p) l= .ok (fill (bare 27 id ty p) y,lf):=by
 replace h:(fun r0=>G.andThen (G.value aF E r0) (fun v=>fun r1=>G.andThen (G.label aF E r1) (fun b=>fun r2=>G.andThen (G.label aF E r2) (fun c=>G.done (0,[v],[b,c],[]))))) l= .ok (y,lf):=h;obtain⟨v,q0,e0,h⟩:=ax (show G.andThen (G.value aF E l) (fun v=>fun r1=>G.andThen (G.label aF E r1) (fun b=>fun r2=>G.andThen (G.label aF E r2) (fun c=>G.done (0,[v],[b,c],[]))))= .ok (y,lf) from h);obtain⟨b,q1,e1,h⟩:=ax (show G.andThen (G.label aF E q0) (fun b=>fun r2=>G.andThen (G.label aF E r2) (fun c=>G.done (0,[v],[b,c],[])))= .ok (y,lf) from h);obtain⟨c,q2,e2,h⟩:=ax (show G.andThen (G.label aF E q1) (fun c=>G.done (0,[v],[b,c],[]))= .ok (y,lf) from h)
 cases h;refine(bU e0).trans ?_;refine(bU e1).trans ?_;refine(bU e2).trans ?_;rfl
theorem EB {op E id ty p:Int} {l lf:List Tok} {y:G.Opd} (g1:¬op=1) (g29:¬op=29) (g10:¬op=10) (g20:¬op=20) (g21:¬op=21) (g28:¬op=28) (h:bu E op l= .ok (y,lf)):dk E (ej op) (bare op id ty p) l= .ok (fill (bare op id ty p) y,lf):=by
 by_cases h11:op=11
 ·subst h11;exact F0 h
 by_cases h12:op=12
 ·subst h12;exact Ge h
 by_cases h15:op=15
 ·subst h15;exact FI h
 by_cases h13:op=13
 ·subst h13;exact Gq h
 by_cases h14:op=14
 ·subst h14;exact GM h
 by_cases h23:op=23
 ·subst h23;exact GN h
 by_cases h24:op=24
 ·subst h24;exact GU h
 by_cases h26:op=26
 ·subst h26;exact H9 h
 by_cases h27:op=27
 ·subst h27;exact FH h
 have e:ej op=List.replicate (dZ op) 118:=by unfold ej;rw [if_neg h11,if_neg h12,if_neg h15,if_neg h13,if_neg h14,if_neg h23,if_neg h24,if_neg h26,if_neg h27]
 rw [e];unfold bu G.operands at h;simp only [if_neg g1,if_neg g29,if_neg g10,if_neg g20,if_neg g21,if_neg g28,h11,h12,h15,h13,h14,h23,h24,h26,h27,or_self,if_false] at h;obtain⟨a,r,hv,h2⟩:=ax h
 cases h2;exact Bp _ _ _ _ _ _ _ _ _ _ hv
theorem I2 (id ty p:Int) {a:Nat} {L:List Tok} {E:Int} {n:Nat} {l lf:List Tok} {y:G.Opd} (w:World) (h:RR a L E n l w) (hr:bu E 1 l= .ok (y,lf)):
  Calls Tryz.prog 180 #[.pointer (some ⟨a,0,none⟩),.agg (al 1 id 0 ty (bs []) p)] w (mH a L E n (fill (bare 1 id ty p) y) lf w):=by
 obtain⟨v,r,hv,h2⟩:=ax (show G.andThen (G.kN bL E l) (fun x=>G.done (x,[],[],[]))= .ok (y,lf) from hr)
 cases h2;obtain⟨rfl,hn⟩:=Ao hv;have hb:=L1.kC (ah l);rw [show L1.aK (ah l)=(v,0) from hn] at hb;have HN:=aa hn;have HB:=aa hb;clear hr hv hn hb;obtain⟨i0,hi0,hz0,hz1,hz2⟩:=info_parts Tryz.cU;have M0:Hid (bN w a (w.heap.size+1+1) (w.heap.size+1) L E n (1,id,0,ty,[],[],[],p) l (((w.alloc (.cells (al 1 id 0 ty (bs []) p) 41)).alloc (.cells (al 0 0 0 0 ⟨#[]⟩ 0) 41)).alloc (.cells (al 1 id 0 ty (bs []) p) 41))):=aa (bN.start h 1 id 0 ty [] p);have HC0:=aa (en w 1 id 0 ty (bs []) p);clear h;generalize hg:w.heap.size+1=g at *;generalize hc:g+1=c at *;go_enter Tryz.func180,Tryz.ntmps180
 go_upto_region 2 with fail
 show Code.wp _ _ _ _ (((w.alloc (.cells (al 1 id 0 ty (bs []) p) 41)).alloc (.cells (al 0 0 0 0 ⟨#[]⟩ 0) 41)).alloc (.cells (al 1 id 0 ty (bs []) p) 41));generalize ((w.alloc (.cells (al 1 id 0 ty (bs []) p) 41)).alloc (.cells (al 0 0 0 0 ⟨#[]⟩ 0) 41)).alloc (.cells (al 1 id 0 ty (bs []) p) 41)=W0 at *;clear hg hc;obtain⟨x0,x1,x2,x3,x4,x5,x6,x7,xz,xl⟩:=bH HC0.out;clear HC0;have z2:=xz 2;clear xz x0 x1 x2 x3 x4 x5 x6 x7 xl;obtain⟨x0,x2⟩:W0.cell? ⟨c,0,none⟩=some (.int .i64 1)∧True:=by obtain⟨va,vt,HC,_⟩:=M0.out.2.1.cells;exact⟨HC 0 _ rfl,trivial⟩
 clear z2 x2;go_wp2_with fail
 refine(nR (-9223372036854775808) 9223372036854775807 v _ M0.out.1 HN.out HB.out.1 HB.out.2).mono ?_;rintro e w1 ⟨rfl,a1⟩;have M1:=aa (M0.out.ate a1);clear M0 a1 x0;obtain⟨va,vt,HC,HZ4,o1,o2,o3⟩:=M1.out.2.1.cells;have cA:=HC 2 _ rfl;have zA:=HZ4 2;have M2:Hid (bN w a c g L E n (1,id,v,ty,[],[],[],p) l.tail (w1.setCell ⟨c,2,none⟩ (.int .i64 v))):=aa (M1.out.put (M1.out.2.1.fi v));clear HC HZ4 o1 o2 o3 M1;go_upto_region 23 with fail
 show Code.wp _ _ _ _ (w1.setCell ⟨c,2,none⟩ (.int .i64 v));clear cA zA;generalize w1.setCell ⟨c,2,none⟩ (.int .i64 v)=W1 at *;clear va vt;obtain⟨va',vt',HC,HZ4,o1,o2,o3⟩:=M2.out.2.1.cells;obtain⟨aoA,mA,cA,rfl⟩:=aQ o1;obtain⟨aoT,mT,cT,rfl⟩:=aQ o2;have y0:=HC 0 _ rfl;have y1:=HC 1 _ rfl;have y2:=HC 2 _ rfl;have y3:=HC 3 _ rfl;have y4:=HC 4 _ rfl;have y5:=HC 5 _ rfl;have y6:=HC 6 _ rfl;have y7:=HC 7 _ rfl;have hS:=M2.out.2.2.1;obtain⟨o3a,o3b⟩:=o3 g ⟨_,_,hS⟩;have hS:=aa hS;have o1:=aa o1;have o2:=aa o2;clear HC HZ4 o3;obtain⟨s0,s1,s2,s3,s4,s5,s6,s7,f0,f1,f2,f3,f4,f5,f6,f7⟩:=kH hS.out;have hcn:c≠g:=fun e=>M2.out.2.2.2.2.2.2 e.symm;have FF:=aa (((((((((Far.refl g W1).set 0 (.int .i64 1)).set 1 (.int .i64 id)).set 2 (.int .i64 v)).set 3 (.int .i64 ty)).set 4 (.slice aoA mA cA)).set 5 (.slice aoT mT cT)).set 6 (.string (bs []))).set 7 (.int .i64 p));have KK:=aa (FF.out.kr M2.out.2.2.2.1 M2.out.2.2.2.2.2.1);have QQ:=aa (FF.out.rr M2.out.1 hS.out (by decide) (by have:=M2.out.lt;omega));have OO:=aa (⟨FF.out.own o1.out o3a,FF.out.own o2.out o3b⟩:_∧_);go_wp2_with fail
 exact bodyPost_ret (v:= .agg (ak (1,id,v,ty,[],[],[],p) (.slice aoA mA cA) (.slice aoT mT cT)).toArray) (by simp [results,Tryz.results180,go_sem,ak,s0,s1,s2,s3,s4,s5,s6,s7]) rfl ⟨_,rfl,⟨_,_,rfl,OO.out.1,OO.out.2⟩,QQ.out,KK.out⟩
theorem GC (id ty p:Int) {a:Nat} {L:List Tok} {E:Int} {n:Nat} {l lf:List Tok} {y:G.Opd} (w:World) (h:RR a L E n l w) (hr:bu E 29 l= .ok (y,lf)):
  Calls Tryz.prog 180 #[.pointer (some ⟨a,0,none⟩),.agg (al 29 id 0 ty (bs []) p)] w (mH a L E n (fill (bare 29 id ty p) y) lf w):=by
 obtain⟨v,r,hv,h2⟩:=ax (show G.andThen (G.number bL E 0 255 l) (fun x=>G.done (x,[],[],[]))= .ok (y,lf) from hr)
 cases h2;obtain⟨rfl,hn,hb1,hb2⟩:=dO hv;have HN:=aa hn;have HB:=aa (And.intro hb1 hb2);clear hr hv hn hb1 hb2;obtain⟨i0,hi0,hz0,hz1,hz2⟩:=info_parts Tryz.cU;have M0:Hid (bN w a (w.heap.size+1+1) (w.heap.size+1) L E n (29,id,0,ty,[],[],[],p) l (((w.alloc (.cells (al 29 id 0 ty (bs []) p) 41)).alloc (.cells (al 0 0 0 0 ⟨#[]⟩ 0) 41)).alloc (.cells (al 29 id 0 ty (bs []) p) 41))):=aa (bN.start h 29 id 0 ty [] p);have HC0:=aa (en w 29 id 0 ty (bs []) p);clear h;generalize hg:w.heap.size+1=g at *;generalize hc:g+1=c at *;go_enter Tryz.func180,Tryz.ntmps180
 go_upto_region 2 with fail
 show Code.wp _ _ _ _ (((w.alloc (.cells (al 29 id 0 ty (bs []) p) 41)).alloc (.cells (al 0 0 0 0 ⟨#[]⟩ 0) 41)).alloc (.cells (al 29 id 0 ty (bs []) p) 41));generalize ((w.alloc (.cells (al 29 id 0 ty (bs []) p) 41)).alloc (.cells (al 0 0 0 0 ⟨#[]⟩ 0) 41)).alloc (.cells (al 29 id 0 ty (bs []) p) 41)=W0 at *;clear hg hc;obtain⟨x0,x1,x2,x3,x4,x5,x6,x7,xz,xl⟩:=bH HC0.out;clear HC0;have z2:=xz 2;clear xz x0 x1 x2 x3 x4 x5 x6 x7 xl;obtain⟨x0,x2⟩:W0.cell? ⟨c,0,none⟩=some (.int .i64 29)∧True:=by obtain⟨va,vt,HC,_⟩:=M0.out.2.1.cells;exact⟨HC 0 _ rfl,trivial⟩
 clear z2 x2;go_wp2_with fail
 refine(nR 0 255 v _ M0.out.1 HN.out HB.out.1 HB.out.2).mono ?_;rintro e w1 ⟨rfl,a1⟩;have M1:=aa (M0.out.ate a1);clear M0 a1 x0;obtain⟨va,vt,HC,HZ4,o1,o2,o3⟩:=M1.out.2.1.cells;have cA:=HC 2 _ rfl;have zA:=HZ4 2;have M2:Hid (bN w a c g L E n (29,id,v,ty,[],[],[],p) l.tail (w1.setCell ⟨c,2,none⟩ (.int .i64 v))):=aa (M1.out.put (M1.out.2.1.fi v));clear HC HZ4 o1 o2 o3 M1;go_upto_region 23 with fail
 show Code.wp _ _ _ _ (w1.setCell ⟨c,2,none⟩ (.int .i64 v));clear cA zA;generalize w1.setCell ⟨c,2,none⟩ (.int .i64 v)=W1 at *;clear va vt;obtain⟨va',vt',HC,HZ4,o1,o2,o3⟩:=M2.out.2.1.cells;obtain⟨aoA,mA,cA,rfl⟩:=aQ o1;obtain⟨aoT,mT,cT,rfl⟩:=aQ o2;have y0:=HC 0 _ rfl;have y1:=HC 1 _ rfl;have y2:=HC 2 _ rfl;have y3:=HC 3 _ rfl;have y4:=HC 4 _ rfl;have y5:=HC 5 _ rfl;have y6:=HC 6 _ rfl;have y7:=HC 7 _ rfl;have hS:=M2.out.2.2.1;obtain⟨o3a,o3b⟩:=o3 g ⟨_,_,hS⟩;have hS:=aa hS;have o1:=aa o1;have o2:=aa o2;clear HC HZ4 o3;obtain⟨s0,s1,s2,s3,s4,s5,s6,s7,f0,f1,f2,f3,f4,f5,f6,f7⟩:=kH hS.out;have hcn:c≠g:=fun e=>M2.out.2.2.2.2.2.2 e.symm;have FF:=aa (((((((((Far.refl g W1).set 0 (.int .i64 29)).set 1 (.int .i64 id)).set 2 (.int .i64 v)).set 3 (.int .i64 ty)).set 4 (.slice aoA mA cA)).set 5 (.slice aoT mT cT)).set 6 (.string (bs []))).set 7 (.int .i64 p));have KK:=aa (FF.out.kr M2.out.2.2.2.1 M2.out.2.2.2.2.2.1);have QQ:=aa (FF.out.rr M2.out.1 hS.out (by decide) (by have:=M2.out.lt;omega));have OO:=aa (⟨FF.out.own o1.out o3a,FF.out.own o2.out o3b⟩:_∧_);go_wp2_with fail
 exact bodyPost_ret (v:= .agg (ak (29,id,v,ty,[],[],[],p) (.slice aoA mA cA) (.slice aoT mT cT)).toArray) (by simp [results,Tryz.results180,go_sem,ak,s0,s1,s2,s3,s4,s5,s6,s7]) rfl ⟨_,rfl,⟨_,_,rfl,OO.out.1,OO.out.2⟩,QQ.out,KK.out⟩
theorem Hu (id ty p:Int) {a:Nat} {L:List Tok} {E:Int} {n:Nat} {l lf:List Tok} {y:G.Opd} (w:World) (h:RR a L E n l w) (hr:bu E 20 l= .ok (y,lf)):
  Calls Tryz.prog 180 #[.pointer (some ⟨a,0,none⟩),.agg (al 20 id 0 ty (bs []) p)] w (mH a L E n (fill (bare 20 id ty p) y) lf w):=by
 obtain⟨x,r,hv,h2⟩:=ax (show G.andThen (G.phi aF E l) (fun x=>G.done (0,x.2,x.1,[]))= .ok (y,lf) from hr)
 cases h2;have HV:=aa hv;clear hr hv;obtain⟨i0,hi0,hz0,hz1,hz2⟩:=info_parts Tryz.cU;have M0:Hid (bN w a (w.heap.size+1+1) (w.heap.size+1) L E n (20,id,0,ty,[],[],[],p) l (((w.alloc (.cells (al 20 id 0 ty (bs []) p) 41)).alloc (.cells (al 0 0 0 0 ⟨#[]⟩ 0) 41)).alloc (.cells (al 20 id 0 ty (bs []) p) 41))):=aa (bN.start h 20 id 0 ty [] p);have HC0:=aa (en w 20 id 0 ty (bs []) p);clear h;generalize hg:w.heap.size+1=g at *;generalize hc:g+1=c at *;go_enter Tryz.func180,Tryz.ntmps180
 go_upto_region 2 with fail
 show Code.wp _ _ _ _ (((w.alloc (.cells (al 20 id 0 ty (bs []) p) 41)).alloc (.cells (al 0 0 0 0 ⟨#[]⟩ 0) 41)).alloc (.cells (al 20 id 0 ty (bs []) p) 41));generalize ((w.alloc (.cells (al 20 id 0 ty (bs []) p) 41)).alloc (.cells (al 0 0 0 0 ⟨#[]⟩ 0) 41)).alloc (.cells (al 20 id 0 ty (bs []) p) 41)=W0 at *;clear hg hc;obtain⟨x0,x1,x2,x3,x4,x5,x6,x7,xz,xl⟩:=bH HC0.out;clear HC0;go_wp2_with fail
 refine(Ma 20 id 0 ty [] p _ M0.out.1 HV.out).mono ?_;rintro e w1 ⟨v,rfl,ho⟩;have ho:=aa ho;clear x0 x1 x2 x3 x4 x5 x6 x7 xz xl;obtain⟨aoA,mA,cA,aoT,mT,cT,rfl,hS,hfin⟩:=mB M0.out ho.out;obtain⟨s0,s1,s2,s3,s4,s5,s6,s7,f0,f1,f2,f3,f4,f5,f6,f7⟩:=kH hS;have FF:=aa (hfin _ (((((((((Far.refl g w1).set 0 (.int .i64 20)).set 1 (.int .i64 id)).set 2 (.int .i64 0)).set 3 (.int .i64 ty)).set 4 (.slice aoA mA cA)).set 5 (.slice aoT mT cT)).set 6 (.string (bs []))).set 7 (.int .i64 p)));clear hfin hS ho;simp only [ak] at *;go_wp2_with fail
 exact bodyPost_ret (v:= .agg (ak (20,id,0,ty,x.2,x.1,[],p) (.slice aoA mA cA) (.slice aoT mT cT)).toArray) (by simp [results,Tryz.results180,go_sem,ak,s0,s1,s2,s3,s4,s5,s6,s7]) rfl ⟨_,rfl,⟨_,_,rfl,FF.out.1,FF.out.2.1⟩,FF.out.2.2.1,FF.out.2.2.2⟩
theorem Hr (id ty p:Int) {a:Nat} {L:List Tok} {E:Int} {n:Nat} {l lf:List Tok} {y:G.Opd} (w:World) (h:RR a L E n l w) (hr:bu E 21 l= .ok (y,lf)):
  Calls Tryz.prog 180 #[.pointer (some ⟨a,0,none⟩),.agg (al 21 id 0 ty (bs []) p)] w (mH a L E n (fill (bare 21 id ty p) y) lf w):=by
 obtain⟨N,r1,hv1,h2⟩:=ax (show G.andThen (G.spot aF E l) (fun n r=>G.andThen (G.name gX E r) fun s r=>G.andThen (G.values aF E r) fun a=>G.done (n,a,[],s))= .ok (y,lf) from hr);obtain⟨s,r2,hv2,h2⟩:=ax h2;obtain⟨ar,r3,hv3,h2⟩:=ax h2
 cases h2;have HV1:=aa hv1;have HV2:=aa hv2;have HV3:=aa hv3;clear hr hv1 hv2 hv3;obtain⟨i0,hi0,hz0,hz1,hz2⟩:=info_parts Tryz.cU;have M0:Hid (bN w a (w.heap.size+1+1) (w.heap.size+1) L E n (21,id,0,ty,[],[],[],p) l (((w.alloc (.cells (al 21 id 0 ty (bs []) p) 41)).alloc (.cells (al 0 0 0 0 ⟨#[]⟩ 0) 41)).alloc (.cells (al 21 id 0 ty (bs []) p) 41))):=aa (bN.start h 21 id 0 ty [] p);have HC0:=aa (en w 21 id 0 ty (bs []) p);clear h;generalize hg:w.heap.size+1=g at *;generalize hc:g+1=c at *;go_enter Tryz.func180,Tryz.ntmps180
 go_upto_region 2 with fail
 show Code.wp _ _ _ _ (((w.alloc (.cells (al 21 id 0 ty (bs []) p) 41)).alloc (.cells (al 0 0 0 0 ⟨#[]⟩ 0) 41)).alloc (.cells (al 21 id 0 ty (bs []) p) 41));generalize ((w.alloc (.cells (al 21 id 0 ty (bs []) p) 41)).alloc (.cells (al 0 0 0 0 ⟨#[]⟩ 0) 41)).alloc (.cells (al 21 id 0 ty (bs []) p) 41)=W0 at *;clear hg hc;obtain⟨x0,x1,x2,x3,x4,x5,x6,x7,xz,xl⟩:=bH HC0.out;clear HC0;go_wp2_with fail
 refine(KA 21 id ty N s p _ M0.out.1 HV1.out HV2.out HV3.out).mono ?_;rintro e w1 ⟨v,rfl,ho⟩;have ho:=aa ho;clear x0 x1 x2 x3 x4 x5 x6 x7 xz xl;obtain⟨aoA,mA,cA,aoT,mT,cT,rfl,hS,hfin⟩:=mB M0.out ho.out;obtain⟨s0,s1,s2,s3,s4,s5,s6,s7,f0,f1,f2,f3,f4,f5,f6,f7⟩:=kH hS;have FF:=aa (hfin _ (((((((((Far.refl g w1).set 0 (.int .i64 21)).set 1 (.int .i64 id)).set 2 (.int .i64 N)).set 3 (.int .i64 ty)).set 4 (.slice aoA mA cA)).set 5 (.slice aoT mT cT)).set 6 (.string (bs s))).set 7 (.int .i64 p)));clear hfin hS ho;simp only [ak] at *;go_wp2_with fail
 exact bodyPost_ret (v:= .agg (ak (21,id,N,ty,ar,[],s,p) (.slice aoA mA cA) (.slice aoT mT cT)).toArray) (by simp [results,Tryz.results180,go_sem,ak,s0,s1,s2,s3,s4,s5,s6,s7]) rfl ⟨_,rfl,⟨_,_,rfl,FF.out.1,FF.out.2.1⟩,FF.out.2.2.1,FF.out.2.2.2⟩
open G (Tok Er Ins Fun)
theorem vJ (f:Fun) (v:Value) (w:World) (hv:bS w f v) (hF:Ful f) (hT:Tos f) (h0:0 < f.2.2.2.1.length):
  Calls Tryz.prog 133 #[v] w fun e w'=>∃u,e= .returned u∧w'.ownsRow w.heap.size 3 1 u (aE f).length (ints (aE f))∧Below w.heap.size w w':=by
 obtain⟨nm,ps,rt,bl,pl⟩:=f;have hv2:=hv;obtain⟨vp,vb,rfl,⟨ao,c,rfl,h1,_⟩,h2⟩:=hv;obtain⟨bo,cb,rfl,_⟩:=h2;exact vV nm ps rt pl bl ao bo c cb w hv2 hF hT h0
def xH (l:List (Int × Int)):List Value:=l.flatMap fun p=> [.int .i64 p.1,.int .i64 p.2]
def jP (w:World) (l:List (Int × Int)) (v:Value) (wr:World):Prop:=wr.ownsRow w.heap.size 143 2 v l.length (xH l)∧Below w.heap.size w wr
theorem jP.start (w:World):jP w [] (.slice none 0 0) w:=⟨World.ownsRow_nil _ _ _ _,Below.refl _ _⟩
theorem jP.step {w wr w2:World} {l:List (Int × Int)} {v v':Value} {x y:Int} {o:Obj} (h:jP w l v wr) (own:w2.ownsRow w.heap.size 143 2 v' (l.length+1) (xH l ++ [.int .i64 x,.int .i64 y])) (hg:(wr.alloc o).grownBy w2 v.ownBlock):jP w (l ++ [(x,y)]) v' w2:=by
 refine⟨by simpa [xH] using own,?_⟩;refine Below.grown (h.2.alloc h.2.size o) hg (by simp;have:=h.2.size;omega) ?_;intro k hk;exact(h.1.lt k hk).1
theorem jP.below {w wr w2:World} {l:List (Int × Int)} {v:Value} (h:jP w l v wr) (b:Below wr.heap.size wr w2):jP w l v w2:=⟨az b _ _ _ _ _ _ h.1,ae h.2 b⟩
def jL (w:World) (ao:Option Addr) (ll:List (List Int)):Prop:=ll= []∨∃b o,ao=some ⟨b,o,none⟩∧b < w.heap.size∧∀(i:Nat) (l:List Int),ll[i]? =some l→∃u,w.cell? ⟨b,o+i,none⟩=some u∧bT w l u
def jx (w:World) (ll:List (List Int)) (v:Value):Prop:=∃ao c,v= .slice ao ll.length c∧jL w ao ll∧ll.length≤c∧c≤maxLen
theorem jL.below {w w':World} {ao:Option Addr} {ll:List (List Int)} (h:jL w ao ll) (hb:Below w.heap.size w w'):jL w' ao ll:=by
 rcases h with h | ⟨b,o,e,hl,hc⟩
 ·exact .inl h
 ·refine .inr ⟨b,o,e,Nat.lt_of_lt_of_le hl hb.size,fun i l hi=> ?_⟩;obtain⟨u,h1,h2⟩:=hc i l hi;exact⟨u,(hb.cell (p:=⟨b,o+i,none⟩) hl).trans h1,h2.below hb⟩
theorem jx.below {w w':World} {ll:List (List Int)} {v:Value} (h:jx w ll v) (hb:Below w.heap.size w w'):jx w' ll v:=by
 obtain⟨ao,c,e,h1,h2⟩:=h;exact⟨ao,c,e,h1.below hb,h2⟩
theorem bf.read {B:Nat} {w:World} {ll:List (List Int)} {v:Value} (h:bf B w ll v):jx w ll v:=by
 obtain⟨us,h1,h2,h3⟩:=h;rcases bY h1 with ⟨rfl,hn⟩ | ⟨g,cap,rfl,k1,k2,k3,k4,k5,k6⟩
 ·have e:ll= []:=List.length_eq_zero_iff.1 hn;subst e;exact⟨none,0,rfl,.inl rfl,Nat.le_refl _,Nat.zero_le _⟩
 ·refine⟨some ⟨g,0,none⟩,cap,rfl,.inr ⟨g,0,rfl,k4,fun i l hi=> ?_⟩,k1,k2⟩;obtain⟨u,m1,m2⟩:=h3 i l hi;exact⟨u,by rw [Nat.zero_add];exact k5 i u m1,fe m2⟩
def js (but:Int) (met:List Int) (m:Int):List Int:=if m=but then met else iB met m
theorem oE {but m:Int} {met:List Int} (h:m=but):js but met m=met:=if_pos h
theorem pB {but m:Int} {met:List Int} (h:m≠but) (hh:ay met m=true):js but met m=met:=(if_neg h).trans (jO hh)
theorem oX {but m:Int} {met:List Int} (h:m≠but) (hh:ay met m=false):js but met m=met ++ [m]:=(if_neg h).trans (lZ hh)
def eB (n:Nat) (l:List Int):Prop:=l.Nodup∧Num n l
theorem eB.nil (n:Nat):eB n []:=⟨List.nodup_nil,fun m hm=>by simp at hm⟩
theorem eB.js {n:Nat} {met:List Int} (h:eB n met) (but:Int) {m:Int} (hm:0≤m∧m < n):eB n (js but met m):=by
 by_cases h1:m=but
 ·rw [oE h1];exact h
 ·cases h2:ay met m with
  |true=>rw [pB h1 h2];exact h
  |false=>
   rw [oX h1 h2];refine⟨List.nodup_append.2 ⟨h.1,by simp,?_⟩,?_⟩
   ·rintro x hx y hy rfl;simp at hy;subst hy;exact eE.1 h2 hx
   ·intro x hx;rcases List.mem_append.1 hx with hx | hx
    ·exact h.2 x hx
    ·simp at hx;subst hx;exact hm
def aO (but:Int) (met l:List Int):List Int:=l.foldl (js but) met
theorem oK {but m:Int} {met l:List Int} {i:Nat} (h:l[i]? =some m):aO but met (l.take (i+1))=js but (aO but met (l.take i)) m:=by
 unfold aO;rw [aR h,List.foldl_append];rfl
theorem eB.aO {n:Nat} (but:Int):∀(l met:List Int),eB n met→Num n l→eB n (aO but met l):=by
 intro l;induction l with
 |nil=>intro met h _;exact h
 |cons m l ih=>intro met h hl;exact ih _ (h.js but (hl m (by simp))) (fun x hx=>hl x (by simp [hx]))
theorem FD (met:List Int) (m:Int):met.length≤(iB met m).length:=by
 unfold iB;split
 ·omega
 ·simp
theorem Fw (but:Int) (met:List Int) (m:Int):met.length≤(js but met m).length:=by
 unfold js;split
 ·omega
 ·exact FD _ _
theorem mE (but:Int):∀(l met:List Int),met.length≤(aO but met l).length:=by
 intro l;induction l with
 |nil=>intro met;exact Nat.le_refl _
 |cons m l ih=>intro met;exact Nat.le_trans (Fw but met m) (ih _)
theorem Num.take {n:Nat} {l:List Int} (h:Num n l) (k:Nat):Num n (l.take k):=fun x hx=>h x (List.mem_of_mem_take hx)
def fy (ll:List (List Int)) (but:Int):Nat→Nat→List Int→List Int
 |0,_,met=>met
 |N+1,i,met=>match met[i]? with
  |none=>met
  |some m=>fy ll but N (i+1) (aO but met (ll.getD m.toNat []))
def gH (ll:List (List Int)) (frm:List Int) (but:Int):List Int:=fy ll but (ll.length+1) 0 (aO but [] frm)
theorem mR {ll:List (List Int)} {but:Int} {N i:Nat} {met:List Int} (h:met.length≤i):fy ll but N i met=met:=by
 cases N with
 |zero=>rfl
 |succ N=>rw [fy,List.getElem?_eq_none h]
theorem kM {ll:List (List Int)} {but m:Int} {N i:Nat} {met:List Int} (h:met[i]? =some m):fy ll but (N+1) i met=fy ll but N (i+1) (aO but met (ll.getD m.toNat [])):=by
 rw [fy,h]
end Go.Proofs.YtaiaakklokahjaaGreatDoor
