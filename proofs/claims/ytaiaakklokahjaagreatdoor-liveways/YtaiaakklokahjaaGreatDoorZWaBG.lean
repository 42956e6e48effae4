/- Texts of one chain, joined. -/
import Derived.Test.YtaiaakklokahjaaGreatDoorZWaBC
import Derived.Test.YtaiaakklokahjaaGreatDoorZWaBD
import Derived.Deep.CutRange
import Derived.Deep.CutBlock
import Derived.WalkHide
set_option maxHeartbeats 4000000
set_option maxRecDepth 20000
namespace Go.Proofs.YtaiaakklokahjaaGreatDoor
open Go Go.RowKit
open G (Tok Er Ins Fun)
theorem zE (b:List Ins) (j:Nat):eL (b.drop j)≤eL b:=by
 have e:eL b=eL (b.take j)+eL (b.drop j):=by
  unfold eL;rw [←List.sum_append,←List.map_append,List.take_append_drop]
 omega
theorem BP {P:Program} {c:Code} {Q:Exit→Act→World→Prop} {a:Act} {w:World} {A:Value→Act} (R:Value→World→Prop) (hr:∀(K:Act→World→Prop),(∀x W,R x W→K (A x) W)→c.wp P (Exit.then K (fun _ _ _=>False)) a w) (h:∀x W,R x W→Q .normal (A x) W):c.wp P Q a w:=
 Code.wp_mono (fun e a w q=>by
  unfold Exit.then at q;split at q
  ·obtain⟨x,rfl,q⟩:=q;exact h _ _ q
  ·exact q.elim) (hr (fun a' w'=>∃x,a'=A x∧R x w') fun x _ h=>⟨x,rfl,h⟩)
theorem Fq {ops:Array Oper} {o:Oper} {a:Act} {w:World} {K:Act→World→Prop} {Q:Exit→Act→World→Prop} {E:Prop} (hgd:o.guard=none) (x y z:Operand) (t:Array TypeId)
  (ho:o.op= .call {callee:= .value (.func 9),args:= #[x,y,z],argTypes:=t}) (vx vy vz:Value) (R:Value→World→Prop) (hx:a.eval x=vx) (hy:a.eval y=vy) (hz:a.eval z=vz) (h:Calls Tryz.prog 9 #[vx,vy,vz] w fun e w'=>∃u,e= .returned u∧R u w') (hk:∀u w',R u w'→K (a.put o.dst u) w'):if Region.wanted o (yielded ops a.tmps)=true then Oper.wp Tryz.prog o a w K Q else E:=by
 have hw:Region.wanted o (yielded ops a.tmps)=true:=by simp [Region.wanted,hgd]
 rw [if_pos hw];have hr:(execOp a.eval o).run Tryz.prog w= .ok (.enter 9 #[vx,vy,vz]) w:=by
  subst hx hy hz;simp [execOp,ho,go_sem]
 unfold Oper.wp;rw [hr];exact h.mono fun e w' ⟨u,he,hk2⟩=>by subst he;exact hk _ _ hk2
theorem uU (p:List Fun) (wh:Int) (tu:List Int) (v1:Value) (po:Option Addr) (pc:Nat) (w:World) (LV:Nat→World→Prop) (f:Fun)
  (hbv:mQ w tu v1) (gb:∀x∈tu,0≤x∧x < 256)
  (C6:∀w',Below w.heap.size w w'→Calls Tryz.prog 5 #[.agg #[.slice po p.length pc],.int .u8 wh] w' (Fx p wh w'))
  (C7:∀w',Below w.heap.size w w'→Calls Tryz.prog 6 #[] w' fun e w''=>e= .returned (.bool true)∧Below w'.heap.size w' w'')
  (hf:bh p (wh % (p.length:Int)).toNat=f)
  (hLV:∀b w w',LV b w→Below w.heap.size w w'→LV b w')
  (hS:lgQ p=true→f.2.2.2.1.length≤1000000∧(∀k,k < f.2.2.2.1.length→(ag f k).length≤100∧eL (ag f k)≤400)∧(jf f).length≤1000000)
  (hG:lgQ p=true→LvF f∧Gr (aC f)∧TkA p f∧0 < f.2.2.2.1.length)
  (C8:lgQ p=true→∀w' v,Below w.heap.size w w'→bS w' f v→Calls Tryz.prog 7 #[v] w' fun e w''=>∃b,e= .returned (.pointer (some ⟨b,0,none⟩))∧LV b w''∧Below w'.heap.size w' w'')
  (C10:lgQ p=true→∀w' b k,Below w.heap.size w w'→LV b w'→k < f.2.2.2.1.length→Calls Tryz.prog 15 #[.pointer (some ⟨b,0,none⟩),.int .i64 k] w' (Ju LV (inL f k) b w'))
  (C11:lgQ p=true→∀w' b k,Below w.heap.size w w'→LV b w'→k < f.2.2.2.1.length→Calls Tryz.prog 11 #[.pointer (some ⟨b,0,none⟩),.int .i64 k] w' (Ju LV (rn f k) b w'))
  (C15:lgQ p=true→∀w' b k i,Below w.heap.size w w'→LV b w'→k < f.2.2.2.1.length→i < (ag f k).length→Calls Tryz.prog 12 #[.pointer (some ⟨b,0,none⟩),.int .i64 k,.int .i64 i] w' (Ju LV (mV f k i) b w')):
  Calls Tryz.prog 3 #[.agg #[.slice po p.length pc],.int .u8 wh,v1] w fun e w'=>e= .returned (.bool true)∧Below w.heap.size w w':=by
 replace C6:=aa C6;replace C7:=aa C7;replace C8:=aa C8;replace C10:=aa C10;replace C11:=aa C11;replace C15:=aa C15;replace hLV:=aa hLV;replace hS:=aa hS;replace hG:=aa hG;have HO:Hid (∀w1 e w',Fx p wh w1 e w'→(∃lp cp lb cb lps lbs nm rt pl,e= .returned (.tuple #[.agg #[.string nm,.slice lp lps cp,.int .i64 rt,.slice lb lbs cb,.int .i64 pl],.bool (lgQ p)])∧(lgQ p=true→bS w' f (.agg #[.string nm,.slice lp lps cp,.int .i64 rt,.slice lb lbs cb,.int .i64 pl])))∧Below w1.heap.size w1 w'):=aa (fun w1 e w' h=>by rw [←hf];exact h);obtain⟨n,hn⟩:∃n,p.length=n:=⟨_,rfl⟩;obtain⟨Q,hQ⟩:∃q,lgQ p=q:=⟨_,rfl⟩;rw [hQ] at C8 C10 C11 C15 hS hG HO;rw [hn] at C6 ⊢;clear hf hn hQ;have b0:=af w (.cells #[.slice po n pc] 24);have H0:=aa (heap_alloc_new w (.cells #[.slice po n pc] 24));have B0:=aa b0;clear b0;have HBy:=aa hbv;obtain⟨ko,kc,rfl,_,hkm⟩:=hbv;unfold maxLen at hkm;replace gb:=aa gb;obtain⟨i0,hi0,hz0,hz1,hz2⟩:=info_parts Tryz.cU;go_enter Tryz.func3,Tryz.ntmps3
 go_upto_region 1 with fail
 show Code.wp _ _ _ _ (w.alloc (.cells #[.slice po n pc] 24));generalize w.alloc (.cells #[.slice po n pc] 24)=W at *;have x0:=(bC H0.out).1;have C1:=aa (C6.out W B0.out);go_wp2_with fail
 refine C1.out.mono ?_;intro e w1 h;obtain⟨⟨lp,cp,lb,cb,lps,lbs,nm,rt,pl,rfl,hv⟩,b1⟩:=HO.out _ _ _ h;have B1:=aa (ae B0.out b1);have HV:=aa hv;clear h b1 hv x0 C1 HO;have b2:=af w1 (.cells #[.string nm,.slice lp lps cp,.int .i64 rt,.slice lb lbs cb,.int .i64 pl] 29);have H2:=aa (heap_alloc_new w1 (.cells #[.string nm,.slice lp lps cp,.int .i64 rt,.slice lb lbs cb,.int .i64 pl] 29));have B2:=aa (ae B1.out b2);have HV2:Hid (Q=true→bS (w1.alloc (.cells #[.string nm,.slice lp lps cp,.int .i64 rt,.slice lb lbs cb,.int .i64 pl] 29)) f (.agg #[.string nm,.slice lp lps cp,.int .i64 rt,.slice lb lbs cb,.int .i64 pl])):=aa (fun q=>(HV.out q).below b2);clear b2 HV;have hfl:∀(a b:Value) (w:World),(Instr.field 59 (.agg #[a,b]) 0).run Tryz.prog w= .ok a w:=fun _ _ _=>rfl;go_upto_region 2 with fail
 show Code.wp _ _ _ _ (w1.alloc (.cells #[.string nm,.slice lp lps cp,.int .i64 rt,.slice lb lbs cb,.int .i64 pl] 29));generalize w1.alloc (.cells #[.string nm,.slice lp lps cp,.int .i64 rt,.slice lb lbs cb,.int .i64 pl] 29)=w2 at *;generalize w1.heap.size=q1 at *
 cases Q with
 |false=>
  have C2:=aa (C7.out w2 B2.out);clear C8 C10 C11 C15 hS hG HV2;go_wp2_with fail
  refine C2.out.mono ?_;rintro e w3 ⟨rfl,b3⟩;have B3:=aa (ae B2.out b3);clear b3;go_wp2_with fail
  go_ret;exact⟨rfl,B3.out⟩
 |true=>
  have hl3:=(Gf (HV2.out rfl)).2;obtain⟨hnb,hbl,hvl⟩:=hS.out rfl;obtain⟨hF,hGr,hA,h0⟩:=hG.out rfl;replace HV2:=aa (HV2.out rfl);replace C8:=aa (C8.out rfl);replace C10:=aa (C10.out rfl);replace C11:=aa (C11.out rfl);replace C15:=aa (C15.out rfl);have HBl:=aa hbl;have HF:=aa hF;have HGr:=aa hGr;have HA:=aa hA;have HRw:Hid (∀k,k < f.2.2.2.1.length→∃g o ao c,lb=some ⟨g,o,none⟩∧g < w2.heap.size∧w2.cell? ⟨g,o+k,none⟩=some (.slice ao (ag f k).length c)∧iR w2 (ag f k) (.slice ao (ag f k).length c)):=aa (fun k hk=>by
   have h:=ff HV2.out;exact eD h hk)
  have HW0:=aa (WyF.one h0);rw [←hl3] at hnb HBl HRw C10 C11 C15;have Hl3:=aa hl3;clear hl3 hS hbl hG hF hGr hA h0;have Hvl:=aa hvl;clear hvl;have HFv:Hid (∀w',Below w2.heap.size w2 w'→bS w' f (.agg #[.string nm,.slice lp lps cp,.int .i64 rt,.slice lb lbs cb,.int .i64 pl])):=aa (fun w' b=>HV2.out.below b);have xs:=aa (fun(w':World) (b:Below w2.heap.size w2 w')=>(eW ((b.block _ (Array.getElem?_eq_some_iff.1 H2.out).1).trans H2.out)).1);by_cases htl:(12:Int) < tu.length
  ·have C2:=aa (C7.out w2 B2.out);clear C8 C10 C11 C15 HV2;go_wp2_with fail
   refine C2.out.mono ?_;rintro e w3 ⟨rfl,b3⟩;have B3:=aa (ae B2.out b3);clear b3;go_wp2_with fail
   go_ret;exact⟨rfl,B3.out⟩
  ·obtain⟨x0,x1,x2,x3,x4⟩:=xs.out _ (Below.refl _ _);have C2:=aa (C8.out w2 _ B2.out HV2.out);clear H2 HV2 C8;go_wp2_with fail
   refine C2.out.mono ?_;rintro e w3 ⟨lv,rfl,h3,b3⟩;have D3:=aa b3;have L3:=aa h3;have HG0:=aa (Grw.lit w3 0);have HBy3:=aa (HBy.out.below (ae B2.out D3.out));clear b3 h3 x0 x1 x2 x3 x4 C2 HBy;have HNx:Hid (∀k,k < f.2.2.2.1.length→∀w',Below w2.heap.size w2 w'→Calls Tryz.prog 8 #[.agg #[.string nm,.slice lp lps cp,.int .i64 rt,.slice lb lbs cb,.int .i64 pl],.int .i64 k] w' fun e w''=>∃u,e= .returned u∧w''.ownsRow w'.heap.size 3 1 u (aB f k).length (ints (aB f k))∧Below w'.heap.size w' w''):=aa (fun k hk w' b=>mg f k _ w' (HFv.out _ b) HF.out.1 hk);obtain⟨tl,htle⟩:∃n,tu.length=n:=⟨_,rfl⟩;have Htl:=aa htle;rw [htle] at htl ⊢;clear htle;have htl2:tl≤12:=(by omega);go_upto_block 0 with fail
   go_cut [10] from 20 to 67 (fun wv wx=>∃(wy:List Int) (K:Nat),wy.length≤13∧Hid (WyF f wy K)∧Hid (Grw w3 wy wv wx))
   case first=>
    go_wp2_with fail
    go_loopw [10,11,12] (fun wv kv iv wr=>∃(wy:List Int) (K I:Nat),I≤tl∧iv= .int .i64 I∧kv= .int .i64 K∧wy.length≤I+1∧Hid (WyF f wy K)∧Hid (Grw w3 wy wv wr)) (fun _ _ iv _=>tl - (intOf iv).toNat)
    case atStart=>exact⟨[0],0,0,Nat.zero_le _,rfl,rfl,Nat.le_refl _,HW0,HG0⟩
    case round=>
     clear HG0 HW0;obtain⟨wy,K,I,hI,rfl,rfl,hwl,HY,HG⟩:=hrel;obtain⟨wo,wc,rfl,hws,_⟩:=HG.out.slice;obtain⟨wl,hwle⟩:∃n,wy.length=n:=⟨_,rfl⟩;have Hwl:=aa hwle;rw [hwle] at hwl HG ⊢;clear hwle hws;by_cases hit:I < tl
     ·skip
      have hiI:(I:Int) < tl:=(by omega);have D4:=ae D3.out HG.out.2;obtain⟨x0,x1,x2,x3,x4⟩:=xs.out _ D4;have CN:=aa (HNx.out K HY.out.2.1 wr D4);clear D4;go_wp2_with fail
      refine CN.out.mono ?_;rintro e wr ⟨u,rfl,hlo,b4⟩;replace HG:=aa (HG.out.below b4);obtain⟨lo,lc,rfl,hsl,_⟩:=fe hlo;obtain⟨ll,hll⟩:∃n,(aB f K).length=n:=⟨_,rfl⟩;have Hll:=aa hll;have HSl:=aa hsl;rw [hll];clear hll hsl hlo b4 CN x0 x1 x2 x3 x4;by_cases hl0:ll=0
      rotate_left
      ·skip
       have hnz:¬(ll:Int)=0:=(by omega);have hbe:((ll:Int) == 0)=false:=beq_eq_false_iff_ne.2 hnz;obtain⟨y,hy⟩:∃y,tu[I]? =some y:=⟨_,List.getElem?_eq_getElem (by rw [Htl.out];exact hit)⟩;obtain⟨hy0,hy1⟩:=gb.out y (List.mem_of_getElem? hy);have hr0:0≤y % (ll:Int):=Int.emod_nonneg _ hnz;have hr1:y % (ll:Int) < ll:=Int.emod_lt_of_pos _ (by omega);obtain⟨S,hS⟩:∃S:Nat,y % (ll:Int)=(S:Int):=⟨(y % (ll:Int)).toNat,by omega⟩;have hwy:IntKind.i64.wrap y=y:=IntWalk.i64_in _ ⟨by omega,by omega⟩;have hrem:Int.tmod y ll=(S:Int):=(by rw [←hS];exact Int.tmod_eq_emod_of_nonneg hy0);have hSl:S < ll:=(by omega);have hSI:(S:Int) < ll:=(by omega);obtain⟨gl,ol,rfl,cS⟩:=dP HSl.out (i:=S) (by rw [Hll.out];exact hSl);have hmem:(aB f K).getD S 0∈aB f K:=(by rw [List.getD_eq_getElem?_getD,List.getElem?_eq_getElem (by rw [Hll.out];exact hSl)];exact List.getElem_mem _);obtain⟨m,hm⟩:∃m,(aB f K).getD S 0=m:=⟨_,rfl⟩;rw [hm] at cS hmem;have HYn:=aa (HY.out.step HF.out.2.1 hmem);have hm0:=(ei HF.out.2.1 hmem).2;obtain⟨mN,rfl⟩:∃mN:Nat,m=(mN:Int):=⟨m.toNat,by omega⟩;rw [Int.toNat_natCast] at HYn;obtain⟨ko2,kc2,ke,hkr,_⟩:=HBy3.out;injection ke with ke1 ke2 ke3;subst ke1 ke3;clear ke2;rcases hkr with e0 | ⟨kb,kof,rfl,kl,kcell⟩
       ·subst e0;simp at hy
       have c1:=(HG.out.2.cell (p:=⟨kb,kof+I,none⟩) kl).trans (kcell I y hy);have hws:=HG.out.2.size;clear kcell hy hm hr0 hr1 hmem hm0 hS hl0;have hwl2:wy.length≤13:=(by rw [Hwl.out];omega);go_wp2_with (at_builtin;refine wpList_append_own _ rfl (.tmp 61) (.tmp 63) 26 rfl w3.heap.size 3 i0 _ 1 8 Tryz.underlying26 hi0 hz0 hz1 hz2 rfl (by decide) _ _ _ rfl (HG.out.1.alloc _) ⟨wr.heap.size,0,none⟩ 1 1 [.int .i64 mN] rfl rfl one_cell one_one (by unfold maxLen;omega) (by omega) (by simp;omega) ?_;intro v2 w4 own2 grow2 _)
       have HE:Hid (Grw w3 (wy ++ [(mN:Int)]) v2 w4):=aa (HG.out.step own2 grow2);clear own2 grow2;go_wp2_with fail
       go_roundw
       case rel=>exact⟨wy ++ [(mN:Int)],mN,I+1,by omega,by go_num,rfl,by rw [List.length_append,Hwl.out];simp only [List.length_cons,List.length_nil];omega,HYn,HE⟩
       case measure=>simp [intOf];omega
      have hbe:((ll:Int) == 0)=true:=(by rw [hl0];rfl);clear Hll HSl;go_wp2_with fail
      go_meet
      case rel=>exact⟨wy,K,by rw [Hwl.out];omega,HY,HG⟩
     ·go_wp2_with fail
      go_meet
      case rel=>exact⟨wy,K,by rw [Hwl.out];omega,HY,HG⟩
   case rest=>
    clear HG0 HW0 HNx HBy3 gb;obtain⟨wy,K,hwl13,HY,HG⟩:=hcut;obtain⟨wb,hwb⟩:∃x,x=wc:=⟨_,rfl⟩;subst hwb;obtain⟨wl,hwle⟩:∃n,wy.length=n:=⟨_,rfl⟩;have Hwl:=aa hwle;rw [hwle] at hwl13;clear hwle;have hwp:0 < wl:=(by rw [←Hwl.out];exact HY.out.1);have Dr:=aa (ae D3.out HG.out.2);obtain⟨wo2,wc2,rfl,hsw,_⟩:=HG.out.slice;rw [Hwl.out] at HG ⊢;have HSw:=aa hsw;clear hsw;have HGT:=aa (Grw.start wb);go_wp2_with fail
    go_loopw [14,15] (fun tv nv wr=>∃(T:List Int) (N:Nat),N≤wl∧nv= .int .i64 ((N:Int) - 1)∧T.length≤(wl - N) * 800∧Hid (N < wl→∀id∈T,bw f (wy.getD N 0).toNat 0 id=true)∧Hid (N=wl→T= [])∧Hid (Grw wb T tv wr)) (fun _ nv _=>(intOf nv+1).toNat)
    case atStart=>exact⟨[],wl,Nat.le_refl _,by go_num,Nat.zero_le _,aa (fun h=>absurd h (Nat.lt_irrefl _)),aa (fun _=>rfl),HGT⟩
    case round=>
     clear HGT;obtain⟨T,N,hN,rfl,hTl,HTl,HTe,HGT⟩:=hrel;by_cases hN0:0 < N
     ·obtain⟨M,rfl⟩:∃M,N=M+1:=⟨N - 1,by omega⟩;have eM:(((M+1:Nat):Int) - 1)=(M:Int):=(by omega);rw [eM];have hM0:(0:Int)≤(M:Int):=(by omega);have hMl:M < wl:=(by omega);have hMI:(M:Int) < wl:=(by omega);obtain⟨hk0,hk1⟩:=HY.out.2.2.2.1 M (by rw [Hwl.out];exact hMl);obtain⟨k1,hk⟩:∃k:Nat,wy.getD M 0=(k:Int):=⟨(wy.getD M 0).toNat,by omega⟩;have hk1l:k1 < lbs:=(by rw [Hl3.out];omega);have hk1I:(k1:Int) < lbs:=(by omega);have Hk:=aa hk;obtain⟨gw,ow,rfl,cwM⟩:=dP HSw.out (i:=M) (by rw [Hwl.out];exact hMl);have hgw:=World.block_lt_of_cell? wb _ cwM;rw [hk] at cwM;obtain⟨gb,ob,ap,c2,rfl,hgb,cbk,hrow⟩:=HRw.out k1 hk1l;have HBk:=aa hrow;have cw:=aa (fun w' (b:Below wb.heap.size wb w')=>(b.cell (p:=⟨gw,ow+M,none⟩) hgw).trans cwM);have cbs:=aa (fun w' (b:Below wb.heap.size wb w')=>((ae Dr.out b).cell (p:=⟨gb,ob+k1,none⟩) hgb).trans cbk);have xr:=aa (fun w' (b:Below wb.heap.size wb w')=>xs.out w' (ae Dr.out b));obtain⟨x0,x1,x2,x3,x4⟩:=xr.out _ HGT.out.2;have c1:=cw.out _ HGT.out.2;have c2':=cbs.out _ HGT.out.2;clear hk hk0 hk1 cwM cbk hrow hN hN0 eM;go_wp2_with fail
      go_quiet (fail)
      replace HGT:=aa (HGT.out.below (below_drewN (Below.refl _ _) nq));clear x0 x1 x2 x3 x4 c1 c2';generalize wr.drewN nq=wz at *;go_upto_if 84 with fail
      go_cut [14] from 68 to 157 (fun tv wx=>∃TT:List Int,TT.length≤(wl - (M+1)) * 800+400∧Hid (∀id∈TT,fN f k1 id=true)∧Hid (Grw wb TT tv wx))
      case first=>
       by_cases hM:M+1 < wl
       ·have hMI2:(M:Int)+1 < wl:=(by omega);obtain⟨hm0,hm1⟩:=HY.out.2.2.2.1 (M+1) (by rw [Hwl.out];exact hM);obtain⟨m1,hm⟩:∃m1:Nat,wy.getD (M+1) 0=(m1:Int):=⟨(wy.getD (M+1) 0).toNat,by omega⟩;have hm1l:m1 < lbs:=(by rw [Hl3.out];omega);have hm1I:(m1:Int) < lbs:=(by omega);have hnx:(m1:Int)∈aB f k1:=by
         have q:=HY.out.2.2.2.2 M (by rw [Hwl.out];exact hM);rwa [hm,Hk.out,Int.toNat_natCast] at q
        obtain⟨gw',ow',ew,cwN⟩:=dP HSw.out (i:=M+1) (by rw [Hwl.out];exact hM);obtain⟨rfl,rfl⟩:gw=gw'∧ow=ow':=(by simpa using ew);have hgw':=World.block_lt_of_cell? wb _ cwN;rw [hm] at cwN;obtain⟨gb',ob',ap',c3,eb,hgb',cbk',hrow'⟩:=HRw.out m1 hm1l;obtain⟨rfl,rfl⟩:gb=gb'∧ob=ob':=(by simpa using eb);have bz:=HGT.out.2;obtain⟨N1,hN1⟩:∃N1,M+1=N1:=⟨_,rfl⟩;have hM2:IntKind.i64.wrap ((M:Int)+1)=(N1:Int):=(by rw [IntWalk.i64_in _ ⟨by omega,by omega⟩];omega);have hM3:(N1:Int) < wl:=(by omega);have hM4:(0:Int)≤(N1:Int):=(by omega);have cN:=(bz.cell (p:=⟨gw,ow+(M+1),none⟩) hgw').trans cwN;rw [hN1] at cN;clear hN1;have cB:=((ae Dr.out bz).cell (p:=⟨gb,ob+m1,none⟩) hgb').trans cbk';obtain⟨x0,x1,x2,x3,x4⟩:=xr.out _ bz;have c1:=cw.out _ bz;have hl2:=HBl.out m1 hm1l;have hmb:ag f m1∈f.2.2.2.1:=gY (by rw [←Hl3.out];exact hm1l);have HC:=aa (A7 (ag f m1) k1 T 400 wb.heap.size u14 ap' c3 wz.drew (hrow'.below (ae (ae Dr.out bz) (L5.aW wz))) (by omega) (fun x hx h20=>⟨((HF.out.2.2.2 _ hmb x hx).2 h20).1,Nat.le_trans (lE (fun x:Ins=>x.2.2.2.2.1.length) hx) hl2.2⟩) (az (L5.aW wz) _ _ _ _ _ _ HGT.out.1) (by omega) (by omega));have HB7:=aa (ae bz (L5.aW wz));have HTT:Hid (∀id∈fg k1 (ag f m1) T (phN (ag f m1)),fN f k1 id=true):=aa (DR (b:=(m1:Int)) HF.out.2.1 (by rw [←Hl3.out];exact hk1l) hnx (by have q:=HTl.out hM;rw [hm] at q;exact q));have hTL:=Gs k1 (ag f m1) T (phN (ag f m1));have hTM:(fg k1 (ag f m1) T (phN (ag f m1))).length≤(wl - (M+1)) * 800+400:=(by omega);clear hTL hl2 hmb hrow' cbk' eb ew cwN hm hm0 hm1 hnx bz hTl HTl HTe HGT;generalize fg k1 (ag f m1) T (phN (ag f m1))=TT at *;obtain⟨bl3,hbl3⟩:∃n,(ag f m1).length=n:=⟨_,rfl⟩;rw [hbl3] at cB HC;clear hbl3;go_upto_region 22 with fail
        apply BP (R:=fun u w'=>Grw wz.drew TT u w')
        ·intro K0 HK0;go_region_law ((refine Fq rfl (.tmp 93) (.tmp 97) (.tmp 98) _ rfl (.slice ap' bl3 c3) (.int .i64 (k1:Int)) u14 _ rfl rfl rfl HC.out ?_);intro u9 w9 hR9)
         all_goals exact HK0 u9 w9 hR9
        intro tv w5 hg5;have HZ:Hid (Grw wb TT tv w5):=aa ⟨aL hg5.1 HB7.out.size,ae HB7.out hg5.2⟩;clear hg5 HB7 HC;go_wp2_with fail
        go_meet
        case rel=>exact⟨TT,hTM,HTT,HZ⟩
       ·have hMI2:¬(M:Int)+1 < wl:=(by omega);go_wp2_with fail
        go_meet
        case rel=>exact⟨T,by omega,aa (fun id hid=>by rw [HTe.out (by omega)] at hid;exact absurd hid List.not_mem_nil),HGT⟩
      case rest=>
       clear hTl HTl HTe HGT T;obtain⟨TT,hTM,HTe2,HTg⟩:=hcut;obtain⟨w5,hw5⟩:∃x,x=wc:=⟨_,rfl⟩;subst hw5;obtain⟨tp,tc,rfl,hts,_⟩:=HTg.out.slice;have c1:=cw.out _ HTg.out.2;have C11':=aa (C11.out w5 lv k1 (ae (ae B2.out Dr.out) HTg.out.2) (hLV.out lv w3 w5 L3.out (ae HG.out.2 HTg.out.2)) hk1l);have HTs:=aa hts;have hTt:TT.length≤1000000:=(by omega);clear hts;obtain⟨tn,htn⟩:∃n,TT.length=n:=⟨_,rfl⟩;have Htn:=aa htn;rw [htn] at hTM ⊢;go_wp2_with fail
       refine C11'.out.mono ?_;rintro e w6 ⟨u6x,rfl,hi6,hl6,b6⟩;obtain⟨bo,bc,rfl,hbs,hb1,hb2⟩:=hi6;have hw:tU TT (rn f k1)=true:=List.all_eq_true.2 fun id hid=>aZ.2 (FY HGr.out HF.out.2.1 HA.out (HTe2.out id hid));have C20:=aa (iK TT (rn f k1) tp bo tc bc w6 (HTs.out.below b6) hbs hTt (by omega));rw [hw,htn] at C20;have HG6:=aa (HTg.out.below b6);rw [htn] at HG6;clear hw hbs hb1 hb2 b6 hl6 htn C11' c1 HTg HTs;go_wp2_with fail
       refine C20.out.mono ?_;rintro e w7 ⟨rfl,rfl⟩;clear C20;have HE3:Hid (∀id∈TT,bw f k1 (ag f k1).length id=true):=aa (fun id hid=>D0 (HTe2.out id hid));obtain⟨bl,hble⟩:∃n,(ag f k1).length=n:=⟨_,rfl⟩;have Hble:=aa hble;have hbl:=HBl.out k1 hk1l;rw [hble] at hbl HE3 HBk cbs ⊢;obtain⟨hbl1,hbl2⟩:=hbl;obtain⟨w6,hw6⟩:∃x,x=w7:=⟨_,rfl⟩;subst hw6;have htn1:tn≤11000:=(by omega);clear hble;go_upto_block 4 with fail
       go_cut [14] from 68 to 157 (fun tv wx=>∃T:List Int,T.length≤(wl - M) * 800∧Hid (∀id∈T,bw f k1 0 id=true)∧Hid (Grw wb T tv wx))
       case first=>
        go_wp2_with fail
        go_loopw [14,17] (fun tv jv wr=>∃(T:List Int) (J:Nat),J≤bl∧jv= .int .i64 ((J:Int) - 1)∧T.length≤tn+eL ((ag f k1).drop J)∧Hid (∀id∈T,bw f k1 J id=true)∧Hid (Grw wb T tv wr)) (fun _ jv _=>(intOf jv+1).toNat)
        case atStart=>exact⟨TT,bl,Nat.le_refl _,by go_num,by rw [Htn.out];omega,HE3,HG6⟩
        case round=>
         clear HE3 HG6;obtain⟨T,J,hJ,rfl,hTJ,HTJ,HGJ⟩:=hrel;by_cases hJ0:0 < J
         ·obtain⟨i,rfl⟩:∃i,J=i+1:=⟨J - 1,by omega⟩;have eI:(((i+1:Nat):Int) - 1)=(i:Int):=(by omega);rw [eI];have hi0:(0:Int)≤(i:Int):=(by omega);have hil:i < (ag f k1).length:=(by rw [Hble.out];omega);have hiI:(i:Int) < bl:=(by omega);have HBk2:Hid (iR w2 (ag f k1) (.slice ap (ag f k1).length c2)):=aa (by rw [Hble.out];exact HBk.out);obtain⟨ga,oa,rfl,hins⟩:=dy HBk2.out hil;have hga:=hins.1;obtain⟨xo,zo,xc,zc,hiv,e0,e1,e2,e3,e4,e5,e6,e7⟩:=hins.val;have bJ:=ae Dr.out HGJ.out.2;replace e0:=(bJ.cell (p:=⟨ga,oa+i * 8,none⟩) hga).trans e0;replace e1:=(bJ.cell (p:=⟨ga,oa+i * 8+1,none⟩) hga).trans e1;replace e2:=(bJ.cell (p:=⟨ga,oa+i * 8+2,none⟩) hga).trans e2;replace e3:=(bJ.cell (p:=⟨ga,oa+i * 8+3,none⟩) hga).trans e3;replace e4:=(bJ.cell (p:=⟨ga,oa+i * 8+4,none⟩) hga).trans e4;replace e5:=(bJ.cell (p:=⟨ga,oa+i * 8+5,none⟩) hga).trans e5;replace e6:=(bJ.cell (p:=⟨ga,oa+i * 8+6,none⟩) hga).trans e6;replace e7:=(bJ.cell (p:=⟨ga,oa+i * 8+7,none⟩) hga).trans e7;have hmo:=AY hil;have hst:=FP (f:=f) (k:=k1) (i:=i) (T:=T) hil HTJ.out;have hdr:eL ((ag f k1).drop i)≤eL (ag f k1):=zE (ag f k1) i;have hwt:=fun(h20:(au f k1 i).1≠20)=>(show tU T (mV f k1 i)=true from List.all_eq_true.2 fun id hid=>aZ.2 (Gj HGr.out HF.out.2.1 HA.out (by rw [←Hl3.out];exact hk1l) h20 (HTJ.out id hid)));obtain⟨x,hxe⟩:∃x,au f k1 i=x:=⟨_,rfl⟩;rw [hxe] at hiv e0 e1 e2 e3 e4 e5 e6 e7 hst hwt;rw [show gI (ag f k1) i=x from hxe] at hmo;have hTt2:T.length≤1000000:=(by omega);have htk:=Ga T x;have hxl:x.2.2.2.2.1.length≤1000000:=(by omega);have hTk:(tkS T x).length≤tn+eL ((ag f k1).drop i):=(by omega);have HTk:=aa hTk;have HStep:=aa hst;have HWt:=aa hwt;clear hxe hins hst hwt HBk2 htk hdr HTJ hmo hTk hTJ;have HSx:Hid (∀w',Below wb.heap.size wb w'→Sl w' xo x.2.2.2.2.1):=aa (fun w' b=>(nj hiv).1.below (ae Dr.out b));have b3:=af wr (.cells (iC x xo zo x.2.2.2.2.1.length x.2.2.2.2.2.1.length xc zc) 41);have Y0:=aa (heap_alloc_new wr (.cells (iC x xo zo x.2.2.2.2.1.length x.2.2.2.2.2.1.length xc zc) 41));have HG7:=aa (HGJ.out.below b3);have b4:=ae HGJ.out.2 b3;have C15':=aa (C15.out _ lv k1 i (ae (ae B2.out Dr.out) b4) (hLV.out lv w3 _ L3.out (ae HG.out.2 b4)) hk1l hil);have c1:=cw.out _ b4;clear hiv b3 b4 HGJ bJ;obtain⟨to2,tc2,rfl,hts,_⟩:=HG7.out.slice;have HTs2:=aa hts;clear hts;go_upto_region 29 with fail
          show Code.wp _ _ _ _ (wr.alloc (.cells (iC x xo zo x.2.2.2.2.1.length x.2.2.2.2.2.1.length xc zc) 41));clear e0 e1 e2 e3 e4 e5 e6 e7;generalize wr.alloc (.cells (iC x xo zo x.2.2.2.2.1.length x.2.2.2.2.2.1.length xc zc) 41)=w7 at *;generalize wr.heap.size=q3 at *;obtain⟨tn2,htn2⟩:∃n,T.length=n:=⟨_,rfl⟩;rw [htn2];go_cut [134] from 112 to 148 (fun s wx=>s= .bool false∧Hid (Grw wb T (.slice to2 tn2 tc2) wx)∧Hid (wx.heap[q3]? =some (.cells (iC x xo zo x.2.2.2.2.1.length x.2.2.2.2.2.1.length xc zc) 41)))
          case first=>
           go_wp2_with fail
           refine C15'.out.mono ?_;rintro e w8 ⟨u8x,rfl,hi8,hl8,b8⟩;obtain⟨bo2,bc2,rfl,hbs2,hb12,hb22⟩:=hi8;have C20:=aa (iK T (mV f k1 i) to2 bo2 tc2 bc2 w8 (HTs2.out.below b8) hbs2 hTt2 (by omega));have HG8:=aa (HG7.out.below b8);have HY8:=aa ((b8.block _ (Array.getElem?_eq_some_iff.1 Y0.out).1).trans Y0.out);rw [htn2] at C20 HG8;clear hbs2 hb12 hb22 b8 hl8 C15' c1 HTs2 HG7 Y0;go_wp2_with fail
           refine C20.out.mono ?_;rintro e w9 ⟨rfl,rfl⟩;clear C20;obtain⟨z0,z1,z2,z3,z4,z5,z6,z7⟩:=jK HY8.out;by_cases h20:x.1=20
           ·have h20b:(x.1 == 20)=true:=beq_iff_eq.2 h20;generalize tU T (mV f k1 i)=wi
            cases wi <;> (go_wp2_with fail;go_meet;exact⟨rfl,HG8,HY8⟩)
           ·rw [HWt.out h20];go_wp2_with fail
            go_meet
            case rel=>exact⟨rfl,HG8,HY8⟩
          case rest=>
           obtain⟨rfl,HG8,HY8⟩:=hcut;obtain⟨w8,hw8⟩:∃x,x=wc:=⟨_,rfl⟩;subst hw8;clear C15' c1 HTs2 HG7 Y0;have CK:=aa (fun w'=>L5.db x.1 x.2.2.2.1 (.int .i64 x.2.1) (.int .i64 x.2.2.1) (.slice xo x.2.2.2.2.1.length xc) (.slice zo x.2.2.2.2.2.1.length zc) (.string (bs x.2.2.2.2.2.2.1)) (.int .i64 x.2.2.2.2.2.2.2) w');obtain⟨z0,z1,z2,z3,z4,z5,z6,z7⟩:=jK HY8.out;go_wp2_with fail
           refine(CK.out _).mono ?_;rintro e wK ⟨rfl,bK⟩;have HG8':=aa (HG8.out.below bK);have HY8':=aa ((bK.block _ (Array.getElem?_eq_some_iff.1 HY8.out).1).trans HY8.out);clear bK z0 z1 z2 z3 z4 z5 z6 z7 HG8 HY8 CK;have hmx:L5.cn x.1 x.2.2.2.1=mkX x:=rfl;rw [hmx];clear hmx;go_upto_if 137 with fail
           go_cut [14] from 112 to 148 (fun tv wx=>Hid (Grw wb (if mkX x=0 then T else gS T x.2.1) tv wx)∧Hid (wx.heap[q3]? =some (.cells (iC x xo zo x.2.2.2.2.1.length x.2.2.2.2.2.1.length xc zc) 41)))
           case first=>
            by_cases hmk:mkX x=0
            ·have hmb:(mkX x == 0)=true:=beq_iff_eq.2 hmk;go_wp2_with fail
             go_meet
             case rel=>exact⟨aa (by rw [if_pos hmk];exact HG8'.out),HY8'⟩
            ·have hmb:(mkX x == 0)=false:=beq_eq_false_iff_ne.2 hmk;obtain⟨to3,tc3,te,hts,_⟩:=HG8'.out.slice;injection te with te1 te2 te3;subst te1 te3;have CM:=aa (tN T x.2.1 to2 tc2 wK hts hTt2);rw [htn2] at CM;clear hts te2;obtain⟨z0,z1,z2,z3,z4,z5,z6,z7⟩:=jK HY8'.out;go_wp2_with fail
             refine CM.out.mono ?_;rintro e w9 ⟨u9x,rfl,hg9⟩;have HG9:=aa (show Grw wb (gS T x.2.1) u9x w9 from ⟨aL hg9.1 HG8'.out.2.size,ae HG8'.out.2 hg9.2⟩);have HY9:=aa ((hg9.2.block _ (Array.getElem?_eq_some_iff.1 HY8'.out).1).trans HY8'.out);clear hg9 CM z0 z1 z2 z3 z4 z5 z6 z7;go_wp2_with fail
             go_meet
             case rel=>exact⟨aa (by rw [if_neg hmk];exact HG9.out),HY9⟩
           case rest=>
            clear HG8' HY8';obtain⟨HG9,HY9⟩:=hcut;obtain⟨w9,hw9⟩:∃x,x=wc:=⟨_,rfl⟩;subst hw9;have hT2l:(if mkX x=0 then T else gS T x.2.1).length≤T.length:=by
             split
             ·exact Nat.le_refl _
             ·exact sj _ _
            have HE2:Hid (tkS T x=(if mkX x=0 then T else gS T x.2.1) ++ (if x.1=20 then [] else x.2.2.2.2.1)):=aa rfl;generalize (if mkX x=0 then T else gS T x.2.1)=T2 at *;obtain⟨z0,z1,z2,z3,z4,z5,z6,z7⟩:=jK HY9.out;by_cases h20:x.1=20
            ·have h20b:(x.1 == 20)=true:=beq_iff_eq.2 h20;go_wp2_with fail
             clear z0 z1 z2 z3 z4 z5 z6 z7;go_roundw
             case rel=>exact⟨tkS T x,i,by omega,rfl,HTk.out,HStep,aa (by rw [HE2.out,if_pos h20,List.append_nil];exact HG9.out)⟩
             case measure=>simp [intOf]
            ·have h20b:(x.1 == 20)=false:=beq_eq_false_iff_ne.2 h20;obtain⟨to3,tc3,rfl,hts,_⟩:=HG9.out.slice;have hsl9:=(HSx.out w9 HG9.out.2);have hown9:=HG9.out.1;have hkl9:T2.length+x.2.2.2.2.1.length≤4000000:=(by omega);have hws9:=HG9.out.2.size;clear hts;go_wp2_with (at_builtin;refine qM rfl (.tmp 145) (.tmp 147) rfl wb.heap.size (.slice to3 T2.length tc3) _ xc _ x.2.2.2.2.1 xo rfl hown9 rfl hsl9 hkl9 hws9 ?_;intro v3 wE own3 grow3;refine Hid.out ?_)
             have HGE:=aa (show Grw wb (T2 ++ x.2.2.2.2.1) v3 wE from ⟨by rw [List.length_append];unfold ints at own3 ⊢;rw [List.map_append];exact own3,Below.grown HG9.out.2 grow3 hws9 fun k hk=>(World.ownsRow.lt hown9 k hk).1⟩);clear own3 grow3 hown9 hsl9 hkl9 hws9 z0 z1 z2 z3 z4 z5 z6 z7;refine aa ?_;go_wp2_with fail
             go_roundw
             case rel=>exact⟨tkS T x,i,by omega,rfl,HTk.out,HStep,aa (by rw [HE2.out,if_neg h20];exact HGE.out)⟩
             case measure=>simp [intOf]
         ·obtain rfl:J=0:=(by omega);rw [List.drop_zero] at hTJ;go_wp2_with fail
          go_meet
          case rel=>exact⟨T,by omega,HTJ,HGJ⟩
       case rest=>
        clear HE3 HG6 HTe2;obtain⟨T,hTl,HT0,HGT⟩:=hcut;obtain⟨w8,hw8⟩:∃x,x=wc:=⟨_,rfl⟩;subst hw8;obtain⟨to2,tc2,rfl,hts,_⟩:=HGT.out.slice;have HTs:=aa hts;have c1:=cw.out _ HGT.out.2;have C10':=aa (C10.out w8 lv k1 (ae (ae B2.out Dr.out) HGT.out.2) (hLV.out lv w3 w8 L3.out (ae HG.out.2 HGT.out.2)) hk1l);have hTt2:T.length≤1000000:=(by omega);clear hts;obtain⟨tn2,htn2⟩:∃n,T.length=n:=⟨_,rfl⟩;have Htn2:=aa htn2;rw [htn2];go_wp2_with fail
        refine C10'.out.mono ?_;rintro e w9 ⟨u9x,rfl,hi9,hl9,b9⟩;obtain⟨bo2,bc2,rfl,hbs2,hb12,hb22⟩:=hi9;have hw2:tU T (inL f k1)=true:=List.all_eq_true.2 fun id hid=>aZ.2 (I5 HGr.out HF.out.2.1 HA.out (by rw [←Hl3.out];exact hk1l) (HT0.out id hid));have C20:=aa (iK T (inL f k1) to2 bo2 tc2 bc2 w9 (HTs.out.below b9) hbs2 hTt2 (by omega));rw [hw2,htn2] at C20;have HG9:=aa (HGT.out.below b9);clear hw2 hbs2 hb12 hb22 b9 hl9 C10' c1 HTs HGT;go_wp2_with fail
        refine C20.out.mono ?_;rintro e w10 ⟨rfl,rfl⟩;clear C20;rw [htn2] at HG9;go_wp2_with fail
        go_roundw
        case rel=>exact⟨T,M,by omega,rfl,hTl,aa (fun _=>by rw [Hk.out,Int.toNat_natCast];exact HT0.out),aa (fun h=>absurd h (by omega)),HG9⟩
        case measure=>simp [intOf]
     ·obtain rfl:N=0:=(by omega);have C2:=aa (C7.out wr (ae (ae B2.out Dr.out) HGT.out.2));have Bz:=aa (ae (ae B2.out Dr.out) HGT.out.2);clear C10 C11 C15;go_wp2_with fail
      refine C2.out.mono ?_;rintro e w9 ⟨rfl,b9⟩;have B9:=aa (ae Bz.out b9);clear b9;go_wp2_with fail
      go_ret;exact⟨rfl,B9.out⟩
end Go.Proofs.YtaiaakklokahjaaGreatDoor
