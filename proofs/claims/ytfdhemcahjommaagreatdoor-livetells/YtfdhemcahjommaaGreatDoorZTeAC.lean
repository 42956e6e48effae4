/- Texts of one chain, joined. -/
import Derived.Test.YtfdhemcahjommaaGreatDoorZABB
import Derived.Test.YtfdhemcahjommaaGreatDoorZTeAB
set_option maxHeartbeats 4000000
set_option maxRecDepth 20000
namespace Go.Proofs.YtfdhemcahjommaaGreatDoor
open Go Go.RowKit
open G (Tok Er Ins Fun)
theorem nt {l:List Int} {p:Int→Bool} {x:Int} (hx:x∈l):aA (l.filter p) x=p x:=by
 cases h:p x with
 |true=>exact aZ.2 (List.mem_filter.2 ⟨hx,h⟩)
 |false=>
  cases q:aA (l.filter p) x with
  |false=>rfl
  |true=>
   have:=(List.mem_filter.1 (aZ.1 q)).2;rw [h] at this;cases this
theorem AD {l:List Int} {p:Int→Bool} {J:Nat} {x:Int} (h:l[J]? =some x) (hp:p x=true):(l.filter p)[(l.take J).countP p]? =some x:=by
 obtain⟨hl,he⟩:=List.getElem?_eq_some_iff.1 h;have e:l.filter p=(l.take J).filter p ++ (l.drop J).filter p:=by rw [←List.filter_append,List.take_append_drop]
 have ed:l.drop J=x :: l.drop (J+1):=by rw [List.drop_eq_getElem_cons hl,he]
 rw [e,List.countP_eq_length_filter,List.getElem?_append_right (Nat.le_refl _),Nat.sub_self,ed,List.filter_cons,if_pos hp];rfl
theorem uH {l:List Int} {p:Int→Bool} {J:Nat} {x:Int} (h:l[J]? =some x):(l.take (J+1)).countP p=(l.take J).countP p+if p x then 1 else 0:=by
 rw [aV h,List.countP_append];simp [List.countP_cons]
theorem uQ (f:Fun) (k:Nat):∀i,gW f k i≤(cL f).length
 |0=>List.length_filter_le _ _
 |i+1=>Nat.max_le.2 ⟨uQ f k i,List.length_filter_le _ _⟩
def Ji (LV:Nat→World→Prop) (l:List Int) (b:Nat) (w:World) (e:Ending) (w':World):Prop:=ky w l (LV b) e w'
theorem sO (p:List Fun) (wh:Int) (po:Option Addr) (pc:Nat) (w:World) (LV:Nat→World→Prop) (f:Fun)
  (C6:∀w',Below w.heap.size w w'→Calls Tryz.prog 6 #[.agg #[.slice po p.length pc],.int .u8 wh] w' (An p wh w'))
  (C7:∀w',Below w.heap.size w w'→Calls Tryz.prog 7 #[] w' fun e w''=>e= .returned (.bool true)∧Below w'.heap.size w' w'')
  (hf:bh p (wh % (p.length:Int)).toNat=f)
  (hLV:∀b w w',LV b w→Below w.heap.size w w'→LV b w')
  (hS:lgQ p=true→f.2.2.2.1.length≤1000000∧(∀k,k < f.2.2.2.1.length→(ah f k).length≤1000000)∧(cL f).length≤1000000)
  (C8:lgQ p=true→∀w' v,Below w.heap.size w w'→bG w' f v→Calls Tryz.prog 8 #[v] w' fun e w''=>∃b,e= .returned (.pointer (some ⟨b,0,none⟩))∧LV b w''∧Below w'.heap.size w' w'')
  (C9:lgQ p=true→∀w' v,Below w.heap.size w w'→bG w' f v→Calls Tryz.prog 9 #[v] w' fun e w''=>∃u,e= .returned u∧bT w'' (cL f) u∧Below w'.heap.size w' w'')
  (C10:lgQ p=true→∀w' b k,Below w.heap.size w w'→LV b w'→k < f.2.2.2.1.length→Calls Tryz.prog 10 #[.pointer (some ⟨b,0,none⟩),.int .i64 k] w' (Ji LV (inL f k) b w'))
  (C11:lgQ p=true→∀w' b k,Below w.heap.size w w'→LV b w'→k < f.2.2.2.1.length→Calls Tryz.prog 11 #[.pointer (some ⟨b,0,none⟩),.int .i64 k] w' (Ji LV (sG f k) b w'))
  (C12:lgQ p=true→∀w' v k id,Below w.heap.size w w'→bG w' f v→k < f.2.2.2.1.length→Calls Tryz.prog 12 #[v,.int .i64 k,.int .i64 0,.int .i64 id] w' fun e w''=>e= .returned (.bool (bf f k 0 id))∧Below w'.heap.size w' w'')
  (C14:lgQ p=true→∀w' v k id,Below w.heap.size w w'→bG w' f v→k < f.2.2.2.1.length→Calls Tryz.prog 14 #[v,.int .i64 k,.int .i64 id] w' fun e w''=>e= .returned (.bool (eS f k id))∧Below w'.heap.size w' w'')
  (C15:lgQ p=true→∀w' b k i,Below w.heap.size w w'→LV b w'→k < f.2.2.2.1.length→i < (ah f k).length→Calls Tryz.prog 15 #[.pointer (some ⟨b,0,none⟩),.int .i64 k,.int .i64 i] w' (Ji LV (lX f k i) b w'))
  (C16:lgQ p=true→∀w' v k i id,Below w.heap.size w w'→bG w' f v→k < f.2.2.2.1.length→i < (ah f k).length→Calls Tryz.prog 16 #[v,.int .i64 k,.int .i64 i,.int .i64 id] w' fun e w''=>e= .returned (.bool (bf f k (gz f k i) id))∧Below w'.heap.size w' w'')
  (C17:lgQ p=true→∀w' b,Below w.heap.size w w'→LV b w'→Calls Tryz.prog 17 #[.pointer (some ⟨b,0,none⟩)] w' fun e w''=>e= .returned (.int .i64 (oO f))∧LV b w''∧Below w'.heap.size w' w''):
  Calls Tryz.prog 3 #[.agg #[.slice po p.length pc],.int .u8 wh] w fun e w'=>e= .returned (.bool true)∧Below w.heap.size w w':=by
 replace C6:=ae C6;replace C7:=ae C7;replace C8:=ae C8;replace C9:=ae C9;replace C10:=ae C10;replace C11:=ae C11;replace C12:=ae C12;replace C14:=ae C14;replace C15:=ae C15;replace C16:=ae C16;replace C17:=ae C17;replace hLV:=ae hLV;replace hS:=ae hS;have HO:Hid (∀w1 e w',An p wh w1 e w'→(∃lp cp lb cb lps lbs nm rt pl,e= .returned (.tuple #[.agg #[.string nm,.slice lp lps cp,.int .i64 rt,.slice lb lbs cb,.int .i64 pl],.bool (lgQ p)])∧(lgQ p=true→bG w' f (.agg #[.string nm,.slice lp lps cp,.int .i64 rt,.slice lb lbs cb,.int .i64 pl])))∧Below w1.heap.size w1 w'):=ae (fun w1 e w' h=>by rw [←hf];exact h);obtain⟨n,hn⟩:∃n,p.length=n:=⟨_,rfl⟩;obtain⟨Q,hQ⟩:∃q,lgQ p=q:=⟨_,rfl⟩;rw [hQ] at C8 C9 C10 C11 C12 C14 C15 C16 C17 hS HO;rw [hn] at C6 ⊢;clear hf hn hQ;have b0:=ag w (.cells #[.slice po n pc] 24);have H0:=ae (heap_alloc_new w (.cells #[.slice po n pc] 24));have B0:=ae b0;clear b0;go_enter Tryz.func3,Tryz.ntmps3
 go_upto_region 1 with fail
 show Code.wp _ _ _ _ (w.alloc (.cells #[.slice po n pc] 24));generalize w.alloc (.cells #[.slice po n pc] 24)=W at *;have x0:=(bF H0.out).1;have C1:=ae (C6.out W B0.out);go_wp2_with fail
 refine C1.out.mono ?_;intro e w1 h;obtain⟨⟨lp,cp,lb,cb,lps,lbs,nm,rt,pl,rfl,hv⟩,b1⟩:=HO.out _ _ _ h;have B1:=ae (af B0.out b1);have HV:=ae hv;clear h b1 hv x0 C1 HO;have b2:=ag w1 (.cells #[.string nm,.slice lp lps cp,.int .i64 rt,.slice lb lbs cb,.int .i64 pl] 28);have H2:=ae (heap_alloc_new w1 (.cells #[.string nm,.slice lp lps cp,.int .i64 rt,.slice lb lbs cb,.int .i64 pl] 28));have B2:=ae (af B1.out b2);have HV2:Hid (Q=true→bG (w1.alloc (.cells #[.string nm,.slice lp lps cp,.int .i64 rt,.slice lb lbs cb,.int .i64 pl] 28)) f (.agg #[.string nm,.slice lp lps cp,.int .i64 rt,.slice lb lbs cb,.int .i64 pl])):=ae (fun q=>(HV.out q).below b2);clear b2 HV;have hfl:∀(a b:Value) (w:World),(Instr.field 55 (.agg #[a,b]) 0).run Tryz.prog w= .ok a w:=fun _ _ _=>rfl;go_upto_region 2 with fail
 show Code.wp _ _ _ _ (w1.alloc (.cells #[.string nm,.slice lp lps cp,.int .i64 rt,.slice lb lbs cb,.int .i64 pl] 28));generalize w1.alloc (.cells #[.string nm,.slice lp lps cp,.int .i64 rt,.slice lb lbs cb,.int .i64 pl] 28)=w2 at *;generalize w1.heap.size=q1 at *
 cases Q with
 |false=>
  have C2:=ae (C7.out w2 B2.out);clear C8 C9 C10 C11 C12 C14 C15 C16 C17 hS HV2;go_wp2_with fail
  refine C2.out.mono ?_;rintro e w3 ⟨rfl,b3⟩;have B3:=ae (af B2.out b3);clear b3;go_wp2_with fail
  go_ret;exact⟨rfl,B3.out⟩
 |true=>
  have hl3:=(yR (HV2.out rfl)).2;obtain⟨hnb,hbl,hvl⟩:=hS.out rfl;replace HV2:=ae (HV2.out rfl);replace C8:=ae (C8.out rfl);replace C9:=ae (C9.out rfl);replace C10:=ae (C10.out rfl);replace C11:=ae (C11.out rfl);replace C12:=ae (C12.out rfl);replace C14:=ae (C14.out rfl);replace C15:=ae (C15.out rfl);replace C16:=ae (C16.out rfl);replace C17:=ae (C17.out rfl);have HBl:=ae hbl;have HRw:Hid (∀k,k < f.2.2.2.1.length→∃g o ao c,lb=some ⟨g,o,none⟩∧g < w2.heap.size∧w2.cell? ⟨g,o+k,none⟩=some (.slice ao (ah f k).length c)∧gR w2 (ah f k) (.slice ao (ah f k).length c)):=ae (fun k hk=>by
   have h:=dF HV2.out;exact df h hk)
  have Hl3:=ae hl3;have HMf:Hid (oO f=fI f f.2.2.2.1.length):=ae rfl;rw [←hl3] at hnb HBl HRw C10 C11 C12 C14 C15 C16 HMf;clear hl3 hS hbl;obtain⟨vl,hvle⟩:∃n,(cL f).length=n:=⟨_,rfl⟩;have Hvl:=ae hvle;rw [hvle] at hvl;clear hvle;have HFv:Hid (∀w',Below w2.heap.size w2 w'→bG w' f (.agg #[.string nm,.slice lp lps cp,.int .i64 rt,.slice lb lbs cb,.int .i64 pl])):=ae (fun w' b=>HV2.out.below b);have xs:=ae (fun(w':World) (b:Below w2.heap.size w2 w')=>(bW ((b.block _ (Array.getElem?_eq_some_iff.1 H2.out).1).trans H2.out)).1);have x0:=xs.out _ (Below.refl _ _);obtain⟨x0,x1,x2,x3,x4⟩:=x0;have C2:=ae (C8.out w2 _ B2.out HV2.out);clear H2 HV2 C8;go_wp2_with fail
  refine C2.out.mono ?_;rintro e w3 ⟨lv,rfl,h3,b3⟩;have D3:=ae b3;have L3:=ae h3;clear b3 h3 x0 x1 x2 x3 x4 C2;obtain⟨x0,x1,x2,x3,x4⟩:=xs.out _ D3.out;have C3:=ae (C9.out w3 _ (af B2.out D3.out) (HFv.out _ D3.out));clear C9;go_wp2_with fail
  refine C3.out.mono ?_;rintro e w4 ⟨u,rfl,hu,b4⟩;obtain⟨vo,vc,rfl,hsv,_,_⟩:=hu;have D4:=ae (af D3.out b4);have L4:=ae (hLV.out _ _ _ L3.out b4);have HSv:=ae hsv;clear b4 hsv x0 x1 x2 x3 x4 C3 L3 D3;rw [Hvl.out];go_wp2_with fail
  go_loopw [9,10] (fun mv kv wr=>∃K:Nat,K≤lbs∧kv= .int .i64 K∧mv= .int .i64 (fI f K:Nat)∧Hid (fI f K≤1000000)∧Hid (Below w4.heap.size w4 wr)) (fun _ kv _=>lbs - (intOf kv).toNat)
  case atStart=>exact⟨0,Nat.zero_le _,rfl,rfl,ae (Nat.zero_le _),ae (Below.refl _ _)⟩
  case round=>
   obtain⟨K,hK,rfl,rfl,Hm,HW⟩:=hrel;have D5:=ae (af D4.out HW.out);obtain⟨x0,x1,x2,x3,x4⟩:=xs.out _ D5.out;obtain⟨mo,hmo⟩:∃n,fI f K=n:=⟨_,rfl⟩;have Hmo:=ae hmo;rw [hmo] at Hm ⊢;clear hmo;by_cases hkt:K < lbs
   ·have hkI:(K:Int) < lbs:=(by omega);have CI:=ae (C10.out wr lv K (af B2.out D5.out) (hLV.out _ _ _ L4.out HW.out) hkt);go_wp2_with fail
    refine CI.out.mono ?_;rintro e w6 ⟨u1,rfl,⟨ai,ci,rfl,hsi,_,_⟩,h6,b6⟩;have D6:=ae (af D5.out b6);have HW6:=ae (af HW.out b6);have HSi:=ae hsi;have CO:=ae (C11.out w6 lv K (af B2.out D6.out) h6 hkt);clear h6 b6 hsi CI x0 x1 x2 x3 x4;go_wp2_with fail
    refine CO.out.mono ?_;rintro e w7 ⟨u2,rfl,⟨aq,cq,rfl,hsq,_,_⟩,h7,b7⟩;have D7:=ae (af D6.out b7);have HW7:=ae (af HW6.out b7);have HSq:=ae hsq;replace HSi:=ae (HSi.out.below b7);have L7:=ae h7;have HSv7:=ae (HSv.out.below HW7.out);clear h7 b7 hsq CO D6 HW6 D5 HW;obtain⟨li,hli⟩:∃n,(inL f K).length=n:=⟨_,rfl⟩;obtain⟨lq,hlq⟩:∃n,(sG f K).length=n:=⟨_,rfl⟩;have hlil:li≤1000000:=by
     have:=List.length_filter_le (fun id=>bf f K 0 id) (cL f);rw [Hvl.out] at this;rw [←hli];exact Nat.le_trans this hvl
    have hlql:lq≤1000000:=by
     have:=List.length_filter_le (fun id=>eS f K id) (cL f);rw [Hvl.out] at this;rw [←hlq];exact Nat.le_trans this hvl
    have Hli:=ae hli;have Hlq:=ae hlq;rw [hli,hlq];clear hli hlq;go_wp2_with fail
    go_loopw [13,14] (fun nv iv wr=>∃I:Nat,I≤vl∧iv= .int .i64 I∧nv= .int .i64 ((((cL f).take I).countP fun id=>bf f K 0 id:Nat))∧Hid (Below w7.heap.size w7 wr)) (fun _ iv _=>vl - (intOf iv).toNat)
    case atStart=>exact⟨0,Nat.zero_le _,rfl,by simp,ae (Below.refl _ _)⟩
    case round=>
     obtain⟨I,hI,rfl,rfl,HW⟩:=hrel;obtain⟨cn,hcn⟩:∃n,((cL f).take I).countP (fun id=>bf f K 0 id)=n:=⟨_,rfl⟩;have hcl:cn≤I:=(by rw [←hcn];exact Nat.le_trans List.countP_le_length (by rw [List.length_take];exact Nat.min_le_left _ _));have Hcn:=ae hcn;rw [hcn];clear hcn;by_cases hit:I < vl
     ·have hiI:(I:Int) < vl:=(by omega);obtain⟨id,hid⟩:∃v,(cL f)[I]? =some v:=⟨_,List.getElem?_eq_getElem (by rw [Hvl.out];exact hit)⟩;have Him:=ae (List.mem_of_getElem? hid);obtain⟨g3,o3,rfl,cI⟩:=cX HSv7.out (i:=I) (by rw [Hvl.out];exact hit);have hgI:=World.block_lt_of_cell? w7 _ cI;rw [List.getD_eq_getElem?_getD,hid,Option.getD_some] at cI;have hB2:=fun z=>af HW.out (L5.aE wr z);have DB:=fun z=>af D7.out (hB2 z);have c1:=fun z=>((hB2 z).cell (p:=⟨g3,o3+I,none⟩) hgI).trans cI;have x0:=fun z=>(xs.out _ (DB z)).1;have x1:=fun z=>(xs.out _ (DB z)).2.1;have x2:=fun z=>(xs.out _ (DB z)).2.2.1;have x3:=fun z=>(xs.out _ (DB z)).2.2.2.1;have x4:=fun z=>(xs.out _ (DB z)).2.2.2.2;have CF:=ae (fun z=>C12.out (L5.bz wr z) _ K id (af B2.out (DB z)) (HFv.out _ (DB z)) hkt);have HMo:=ae (uH (p:=fun id=>bf f K 0 id) hid);rw [Hcn.out] at HMo;have HH1:=ae (fun w' (b:Below w7.heap.size w7 w')=>cE (inL f K) id ai ci w' (HSi.out.below b) (by rw [Hli.out];unfold maxLen;omega));have HH2:=ae (fun w' (b:Below w7.heap.size w7 w')=>cE (sG f K) id aq cq w' (HSq.out.below b) (by rw [Hlq.out];unfold maxLen;omega));have e1:aA (inL f K) id=bf f K 0 id:=nt (p:=fun id=>bf f K 0 id) Him.out;have e2:aA (sG f K) id=eS f K id:=nt (p:=fun id=>eS f K id) Him.out;rw [e1,Hli.out] at HH1;rw [e2,Hlq.out] at HH2;obtain⟨av,hav⟩:∃b,bf f K 0 id=b:=⟨_,rfl⟩;obtain⟨ev,hev⟩:∃b,eS f K id=b:=⟨_,rfl⟩;rw [hav] at CF HMo HH1;rw [hev] at HH2;replace hB2:=ae hB2;replace DB:=ae DB;have HcI:=ae cI;have Hev:=ae hev;clear hid hav hev e1 e2 cI;go_wp2_with fail
      refine L5.aM (by kernel_rfl) (by kernel_rfl) ?_;repeat (go_big_quiet_step ((go_at_call 12;exact L5.cY (CF.out _))))
      refine wpQuiet_nil ?_;rintro _ ⟨z,rfl⟩;have DC:=ae (DB.out z);have HWC:=ae (hB2.out z);clear x0 x1 x2 x3 x4 c1 CF DB hB2 HW;generalize L5.bz wr z=wc at *;have hB3:=fun z=>af HWC.out (L5.aE wc z);have DB3:=fun z=>af D7.out (hB3 z);have c1:=fun z=>((hB3 z).cell (p:=⟨g3,o3+I,none⟩) hgI).trans HcI.out;have x0:=fun z=>(xs.out _ (DB3 z)).1;have x1:=fun z=>(xs.out _ (DB3 z)).2.1;have x2:=fun z=>(xs.out _ (DB3 z)).2.2.1;have x3:=fun z=>(xs.out _ (DB3 z)).2.2.2.1;have x4:=fun z=>(xs.out _ (DB3 z)).2.2.2.2;have CE:=ae (fun z=>C14.out (L5.bz wc z) _ K id (af B2.out (DB3 z)) (HFv.out _ (DB3 z)) hkt);rw [Hev.out] at CE;replace HH1:=ae (fun z=>HH1.out (L5.bz wc z) (hB3 z));replace HH2:=ae (fun z=>HH2.out (L5.bz wc z) (hB3 z));replace hB3:=ae hB3;clear DB3 Hev;have kev:(ev != ev)=false:=(by simp);obtain⟨cn2,hcn2⟩:∃n,(((cL f).take (I+1)).countP fun id=>bf f K 0 id)=n:=⟨_,rfl⟩;have HE:=ae hcn2;rw [hcn2] at HMo;clear hcn2
      cases av with
      |false=>
       obtain rfl:cn2=cn:=(by have:=HMo.out;simpa using this);go_wp2_with fail
       refine L5.aM (by kernel_rfl) (by kernel_rfl) ?_;repeat (go_big_quiet_step (first | (go_at_call 13;first | with_reducible exact L5.bp (HH1.out _) | with_reducible exact L5.bp (HH2.out _)) | (go_at_call 14;exact L5.cY (CE.out _))))
       refine wpQuiet_nil ?_;rintro _ ⟨z2,rfl⟩;go_wp2_with fail
       go_roundw
       case rel=>exact⟨I+1,by omega,by go_num,by rw [HE.out],ae (hB3.out z2)⟩
       case measure=>simp [intOf];omega
      |true=>
       obtain rfl:cn2=cn+1:=(by have:=HMo.out;simpa using this);go_wp2_with fail
       refine L5.aM (by kernel_rfl) (by kernel_rfl) ?_;repeat (go_big_quiet_step (first | (go_at_call 13;first | with_reducible exact L5.bp (HH1.out _) | with_reducible exact L5.bp (HH2.out _)) | (go_at_call 14;exact L5.cY (CE.out _))))
       refine wpQuiet_nil ?_;rintro _ ⟨z2,rfl⟩;go_wp2_with fail
       go_roundw
       case rel=>exact⟨I+1,by omega,by go_num,by rw [HE.out];go_num,ae (hB3.out z2)⟩
       case measure=>simp [intOf];omega
     ·obtain rfl:vl=I:=(by omega);have hcli:cn=li:=(by rw [←Hcn.out,←Hvl.out,List.take_length,←Hli.out];unfold inL;rw [List.countP_eq_length_filter]);subst hcli;have hmol:mo≤1000000:=Hm.out;obtain⟨gb,ob,ao,c,rfl,hgl,cb0,_⟩:=HRw.out K hkt;obtain⟨bn,hbn⟩:∃n,(ah f K).length=n:=⟨_,rfl⟩;have hbnl:bn≤1000000:=(by rw [←hbn];exact HBl.out K hkt);have Hbn:=ae hbn;rw [hbn] at cb0;have cbs:=ae (fun(w':World) (k:Below w2.heap.size w2 w')=>(k.cell (p:=⟨gb,ob+K,none⟩) hgl).trans cb0);clear hbn cb0;by_cases hgt:mo < cn
      case' pos=>
       have hgI:(mo:Int) < cn:=(by omega);have HM0:Hid (max mo (gW f K 0)=cn):=ae (by
        show max mo (inL f K).length=cn;rw [Hli.out];omega)
      case' neg=>
       have hgI:¬(mo:Int) < cn:=(by omega);have HM0:Hid (max mo (gW f K 0)=mo):=ae (by
        show max mo (inL f K).length=mo;rw [Hli.out];omega)
      all_goals
       clear hgt;go_wp2_with fail
       go_loopw [9,16] (fun mv jv wr=>∃J:Nat,J≤bn∧jv= .int .i64 J∧mv= .int .i64 (max mo (gW f K J):Nat)∧Hid (Below w7.heap.size w7 wr)) (fun _ jv _=>bn - (intOf jv).toNat)
       case atStart=>exact⟨0,Nat.zero_le _,rfl,by rw [HM0.out],HW⟩
       case round=>
        clear HW;obtain⟨J,hJ,rfl,rfl,HW⟩:=hrel;have D9:=ae (af D7.out HW.out);obtain⟨x0,x1,x2,x3,x4⟩:=xs.out _ D9.out;have cb1:=cbs.out _ D9.out;obtain⟨mj,hmj⟩:∃n,max mo (gW f K J)=n:=⟨_,rfl⟩;have hmjl:mj≤1000000:=by
         have:=uQ f K J;rw [Hvl.out] at this;rw [←hmj];exact Nat.max_le.2 ⟨Hm.out,Nat.le_trans this hvl⟩
        have Hmj:=ae hmj;rw [hmj];clear hmj;by_cases hjt:J < bn
        ·have hjI:(J:Int) < bn:=(by omega);have CA:=ae (C15.out wr lv K J (af B2.out D9.out) (hLV.out _ _ _ L7.out HW.out) hkt (by rw [Hbn.out];exact hjt));go_wp2_with fail
         refine CA.out.mono ?_;rintro e wa ⟨u3,rfl,⟨aa,ca,rfl,hsa,_,_⟩,ha,ba⟩;have Da:=ae (af D9.out ba);have HWa:=ae (af HW.out ba);have HSa:=ae hsa;have HSva:=ae (HSv7.out.below HWa.out);clear ha ba hsa CA x0 x1 x2 x3 x4 cb1 D9 HW;obtain⟨la,hla⟩:∃n,(lX f K J).length=n:=⟨_,rfl⟩;have hlal:la≤1000000:=by
          have:=List.length_filter_le (fun id=>bf f K (gz f K J) id) (cL f);rw [Hvl.out] at this;rw [←hla];exact Nat.le_trans this hvl
         have Hla:=ae hla;rw [hla];clear hla;go_wp2_with fail
         go_loopw [18,19] (fun nv iv wr=>∃I:Nat,I≤vl∧iv= .int .i64 I∧nv= .int .i64 ((((cL f).take I).countP fun id=>bf f K (gz f K J) id:Nat))∧Hid (Below wa.heap.size wa wr)) (fun _ iv _=>vl - (intOf iv).toNat)
         case atStart=>exact⟨0,Nat.zero_le _,rfl,by simp,ae (Below.refl _ _)⟩
         case round=>
          obtain⟨I,hI,rfl,rfl,HW⟩:=hrel;obtain⟨cm,hcm⟩:∃n,((cL f).take I).countP (fun id=>bf f K (gz f K J) id)=n:=⟨_,rfl⟩;have hcl:cm≤I:=(by rw [←hcm];exact Nat.le_trans List.countP_le_length (by rw [List.length_take];exact Nat.min_le_left _ _));have Hcm:=ae hcm;rw [hcm];clear hcm;by_cases hit:I < vl
          ·have hiI:(I:Int) < vl:=(by omega);obtain⟨id,hid⟩:∃v,(cL f)[I]? =some v:=⟨_,List.getElem?_eq_getElem (by rw [Hvl.out];exact hit)⟩;obtain⟨g3,o3,rfl,cI⟩:=cX HSva.out (i:=I) (by rw [Hvl.out];exact hit);have hgI:=World.block_lt_of_cell? wa _ cI;rw [List.getD_eq_getElem?_getD,hid,Option.getD_some] at cI;have hB2:=fun z=>af HW.out (L5.aE wr z);have DB:=fun z=>af Da.out (hB2 z);have c1:=fun z=>((hB2 z).cell (p:=⟨g3,o3+I,none⟩) hgI).trans cI;have x0:=fun z=>(xs.out _ (DB z)).1;have x1:=fun z=>(xs.out _ (DB z)).2.1;have x2:=fun z=>(xs.out _ (DB z)).2.2.1;have x3:=fun z=>(xs.out _ (DB z)).2.2.2.1;have x4:=fun z=>(xs.out _ (DB z)).2.2.2.2;have CF:=ae (fun z=>C16.out (L5.bz wr z) _ K J id (af B2.out (DB z)) (HFv.out _ (DB z)) hkt (by rw [Hbn.out];exact hjt));have HMo:=ae (uH (p:=fun id=>bf f K (gz f K J) id) hid);have HFa:=ae (fun h=>AD (p:=fun id=>bf f K (gz f K J) id) hid h);rw [Hcm.out] at HMo HFa;obtain⟨av,hav⟩:∃b,bf f K (gz f K J) id=b:=⟨_,rfl⟩;rw [hav] at CF HMo HFa;replace hB2:=ae hB2;replace DB:=ae DB;have HcI:=ae cI;clear hid hav cI;go_wp2_with fail
           refine L5.aM (by kernel_rfl) (by kernel_rfl) ?_;repeat (go_big_quiet_step ((go_at_call 16;exact L5.cY (CF.out _))))
           refine wpQuiet_nil ?_;rintro _ ⟨z,rfl⟩;have DC:=ae (DB.out z);have HWC:=ae (hB2.out z);clear x0 x1 x2 x3 x4 c1 CF DB hB2 HW;generalize L5.bz wr z=wc at *
           cases av with
           |false=>
            have HE:Hid ((((cL f).take (I+1)).countP fun id=>bf f K (gz f K J) id)=cm):=ae (by rw [HMo.out];simp);go_wp2_with fail
            go_roundw
            case rel=>exact⟨I+1,by omega,by go_num,by rw [HE.out],HWC⟩
            case measure=>simp [intOf];omega
           |true=>
            have HE:Hid ((((cL f).take (I+1)).countP fun id=>bf f K (gz f K J) id)=cm+1):=ae (by rw [HMo.out];simp);have hca:=HFa.out rfl;obtain⟨hcal,_⟩:=List.getElem?_eq_some_iff.1 hca;replace hcal:cm < la:=(by rw [←Hla.out];exact hcal);obtain⟨g4,o4,rfl,cA⟩:=cX HSa.out (i:=cm) (by rw [Hla.out];exact hcal);have hgA:=World.block_lt_of_cell? wa _ cA;have e4:(lX f K J).getD cm 0=id:=(by rw [List.getD_eq_getElem?_getD];unfold lX;rw [hca];rfl);rw [e4] at cA;replace cA:=(HWC.out.cell (p:=⟨g4,o4+cm,none⟩) hgA).trans cA;have cI:=(HWC.out.cell (p:=⟨g3,o3+I,none⟩) hgI).trans HcI.out;have hd:decide ((la:Int)≤(cm:Int))=false:=decide_eq_false (by omega);have hcaI:(cm:Int) < la:=(by omega);clear hca e4 HFa;go_wp2_with fail
            go_quiet (fail)
            go_wp2_with fail
            go_roundw
            case rel=>exact⟨I+1,by omega,by go_num,by rw [HE.out];go_num,ae (below_drewN HWC.out _)⟩
            case measure=>simp [intOf];omega
          ·obtain rfl:vl=I:=(by omega);have hcla:cm=la:=(by rw [←Hcm.out,←Hvl.out,List.take_length,←Hla.out];unfold lX;rw [List.countP_eq_length_filter]);subst hcla;have HWr:=ae (af HWa.out HW.out);have HMJ:Hid (max mo (gW f K (J+1))=max mj cm):=ae (by
            show max mo (max (gW f K J) (lX f K J).length)=_;rw [Hla.out,←Nat.max_assoc,Hmj.out])
           by_cases hgt:mj < cm
           ·have hgI:(mj:Int) < cm:=(by omega);have HE:Hid (max mo (gW f K (J+1))=cm):=ae (by rw [HMJ.out];omega);go_wp2_with fail
            go_roundw
            case rel=>exact⟨J+1,by omega,by go_num,by rw [HE.out],HWr⟩
            case measure=>simp [intOf];omega
           ·have hgI:¬(mj:Int) < cm:=(by omega);have HE:Hid (max mo (gW f K (J+1))=mj):=ae (by rw [HMJ.out];omega);go_wp2_with fail
            go_roundw
            case rel=>exact⟨J+1,by omega,by go_num,by rw [HE.out],HWr⟩
            case measure=>simp [intOf];omega
        ·obtain rfl:J=bn:=(by omega);have HWr:=ae (af HW7.out HW.out);have HE:Hid (fI f (K+1)=mj):=ae (by
          show max (fI f K) (gW f K (ah f K).length)=mj;rw [Hbn.out,Hmo.out,Hmj.out])
         go_wp2_with fail
         go_roundw
         case rel=>exact⟨K+1,by omega,by go_num,by rw [HE.out],ae (by rw [HE.out];exact hmjl),HWr⟩
         case measure=>simp [intOf];omega
   ·obtain rfl:K=lbs:=(by omega);have hmm:oO f=mo:=(by rw [HMf.out,Hmo.out]);have CM:=ae (C17.out wr lv (af B2.out D5.out) (hLV.out _ _ _ L4.out HW.out));rw [hmm] at CM;clear hmm;go_wp2_with fail
    refine CM.out.mono ?_;rintro e w6 ⟨rfl,h6,b6⟩;have B6:=ae (af (af B2.out D5.out) b6);have C7b:=ae (C7.out w6 B6.out);clear h6 b6 CM x0 x1 x2 x3 x4;go_wp2_with fail
    refine C7b.out.mono ?_;rintro e w7 ⟨rfl,b7⟩;have HE:=ae (af B6.out b7);clear b7;go_wp2_with fail
    go_ret;exact⟨rfl,HE.out⟩
end Go.Proofs.YtfdhemcahjommaaGreatDoor
