/- Texts of one chain, joined. -/
import Derived.Test.YtfdhemcahjommaaGreatDoorZTeAA
set_option maxHeartbeats 4000000
set_option maxRecDepth 20000
namespace Go.Proofs.YtfdhemcahjommaaGreatDoor
open Go Go.RowKit
open G (Tok Er Ins Fun)
abbrev fC5 (nm:ByteArray) (lp:Option Addr) (lps cp nb cb:Nat) (lb:Option Addr) (rt pl:Int):Array Value:= #[.string nm,.slice lp lps cp,.int .i64 rt,.slice lb nb cb,.int .i64 pl]
theorem rG (f:Fun) (v:Value) (w:World) (hv:bG w f v) (hM:Mod f) (hW:wid f≤1000000):
  Calls Tryz.prog 9 #[v] w fun e w'=>∃v,e= .returned v∧Grw w (cL f) v w':=by
 obtain⟨lp,cp,lb,cb,rfl,_,_⟩:=cG hv;have HV:=ae hv;have hlp:f.2.1.length≤1000000:=by unfold wid at hW;omega
 have hnb:=hM.1;have HMd:=ae hM;have HWi:=ae hW;have HRw:Hid (∀k,k < f.2.2.2.1.length→∃g o ao c,lb=some ⟨g,o,none⟩∧g < w.heap.size∧w.cell? ⟨g,o+k,none⟩=some (.slice ao (ah f k).length c)∧gR w (ah f k) (.slice ao (ah f k).length c)):=ae (fun k hk=>df (dF hv) hk);clear hv hM hW;obtain⟨nb,hnbe⟩:∃n,f.2.2.2.1.length=n:=⟨_,rfl⟩;obtain⟨lps,hlps⟩:∃n,f.2.1.length=n:=⟨_,rfl⟩;obtain⟨nm,hnm⟩:∃n,bs f.1=n:=⟨_,rfl⟩;obtain⟨rt,hrt⟩:∃n,f.2.2.1=n:=⟨_,rfl⟩;obtain⟨pl,hpe⟩:∃n,f.2.2.2.2=n:=⟨_,rfl⟩;rw [hnbe] at hnb HRw;rw [hlps] at hlp;rw [hnbe,hlps,hnm,hrt,hpe] at HV ⊢;replace hnbe:=ae hnbe;replace hlps:=ae hlps;clear hnm hrt hpe HV;have b1:=ag w (.cells (fC5 nm lp lps cp nb cb lb rt pl) 28);have HX0:=ae (heap_alloc_new w (.cells (fC5 nm lp lps cp nb cb lb rt pl) 28));have B1:=ae b1;clear b1;obtain⟨i0,hi0,hz0,hz1,hz2⟩:=info_parts Tryz.dj;go_enter Tryz.func9,Tryz.ntmps9
 go_upto_region 1 with fail
 show Code.wp _ _ _ _ (w.alloc (.cells (fC5 nm lp lps cp nb cb lb rt pl) 28));generalize w.alloc (.cells (fC5 nm lp lps cp nb cb lb rt pl) 28)=W at *;obtain⟨q0,hq0⟩:∃q,w.heap.size=q:=⟨_,rfl⟩;rw [hq0] at HX0 ⊢;have hq0l:=(Array.getElem?_eq_some_iff.1 HX0.out).1;replace hq0:=ae hq0;have xs:=ae (fun(w':World) (b:Below W.heap.size W w')=>(bW ((b.block _ hq0l).trans HX0.out)).1);clear HX0 hq0l;go_wp2_with fail
 go_loopw [3,4] (fun ov iv wr=>∃I:Nat,I≤lps∧iv= .int .i64 I∧Hid (Grw W (fX I) ov wr)) (fun _ iv _=>lps - (intOf iv).toNat)
 case atStart=>exact⟨0,Nat.zero_le _,rfl,ae (Grw.start _)⟩
 case round=>
  obtain⟨I,hI,rfl,HG⟩:=hrel;obtain⟨x0,x1,x2,x3,x4⟩:=xs.out _ HG.out.2;by_cases hit:I < lps
  ·have hiI:(I:Int) < lps:=(by omega);have hws:=HG.out.2.size;have hle:=pD I;go_wp2_with (at_builtin;refine wpList_append_own _ rfl (.tmp 17) (.tmp 19) 25 rfl W.heap.size 3 i0 _ 1 8 Tryz.underlying25 hi0 hz0 hz1 hz2 rfl (by decide) _ _ _ rfl (HG.out.1.alloc _) ⟨wr.heap.size,0,none⟩ 1 1 [.int .i64 I] rfl rfl one_cell one_one (by unfold maxLen;omega) (by omega) (by simp;omega) ?_;intro v2 w2 own2 grow2 _)
   have HE:Hid (Grw W (fX (I+1)) v2 w2):=ae (by rw [zK];exact HG.out.step own2 grow2);clear own2 grow2;go_wp2_with fail
   go_roundw
   case rel=>exact⟨I+1,by omega,by go_num,HE⟩
   case measure=>simp [intOf];omega
  ·obtain rfl:I=lps:=(by omega);clear hit hI;have HG0:Hid (Grw W (im (fX I) (f.2.2.2.1.take 0)) _ wr):=HG;clear HG;go_wp2_with fail
   clear x0 x1 x2 x3 x4;go_loopw [3,5] (fun ov iv wr=>∃K:Nat,K≤nb∧iv= .int .i64 K∧Hid (Grw W (im (fX I) (f.2.2.2.1.take K)) ov wr)) (fun _ iv _=>nb - (intOf iv).toNat)
   case atStart=>exact⟨0,Nat.zero_le _,rfl,HG0⟩
   case round=>
    clear HG0;obtain⟨K,hK,rfl,HG⟩:=hrel;obtain⟨x0,x1,x2,x3,x4⟩:=xs.out _ HG.out.2;by_cases hkt:K < nb
    ·have hkI:(K:Int) < nb:=(by omega);have HMo:=ae (qI (l:=fX I) (f:=f) (K:=K) (by rw [hnbe.out];exact hkt));have HLe:=ae (fun(J:Nat) (hJ:J≤(ah f K).length)=>Nat.le_trans (Jd (f:=f) (by rw [hnbe.out];exact hkt) hJ) HWi.out);rw [hlps.out] at HLe;obtain⟨L,hL⟩:∃L,im (fX I) (f.2.2.2.1.take K)=L:=⟨_,rfl⟩;rw [hL] at HMo HLe HG;obtain⟨b,hb⟩:∃b,ah f K=b:=⟨_,rfl⟩;obtain⟨g,o,ao,c,rfl,hgl,cb0,hrow⟩:=HRw.out K hkt;have hbl:=HMd.out.2 _ (fq (f:=f) (k:=K) (by rw [hnbe.out];exact hkt));rw [hb] at HMo HLe hbl cb0 hrow;obtain⟨bn,hbn⟩:∃n,b.length=n:=⟨_,rfl⟩;rw [hbn] at HLe hbl cb0 hrow;have HB:=ae hrow;have Hbn:=ae hbn;have cbs:=ae (fun(w':World) (k:Below W.heap.size W w')=>((af B1.out k).cell (p:=⟨g,o+K,none⟩) hgl).trans cb0);have HG0:Hid (Grw W (eV L (b.take 0)) _ wr):=HG;clear HG hL hb hrow cb0 hbn hgl;go_wp2_with fail
     clear x0 x1 x2 x3 x4;go_loopw [3,6] (fun ov jv wr=>∃J:Nat,J≤bn∧jv= .int .i64 J∧Hid (Grw W (eV L (b.take J)) ov wr)) (fun _ jv _=>bn - (intOf jv).toNat)
     case atStart=>exact⟨0,Nat.zero_le _,rfl,HG0⟩
     case round=>
      clear HG0;obtain⟨J,hJ,rfl,HG⟩:=hrel;obtain⟨x0,x1,x2,x3,x4⟩:=xs.out _ HG.out.2;have cb1:=cbs.out _ HG.out.2;by_cases hjt:J < bn
      ·have hjI:(J:Int) < bn:=(by omega);have hjl:J < b.length:=(by rw [Hbn.out];exact hjt);have HMi:=ae (qk (l:=L) hjl);have HL1:=ae (HLe.out J (by omega));obtain⟨M,hMe⟩:∃M,eV L (b.take J)=M:=⟨_,rfl⟩;rw [hMe] at HMi HL1 HG;obtain⟨g2,o2,rfl,hins⟩:=mW HB.out hjl;obtain⟨x,hxe⟩:∃x,b.getD J o8=x:=⟨_,rfl⟩;have HMi2:Hid (eV L (b.take (J+1))=if mkX x=0 then M else gY M x.2.1):=ae (by rw [←hxe];exact HMi.out);rw [hxe] at hins;clear HMi hxe hMe;obtain⟨xo,zo,xc,zc,_,e0,e1,e2,e3,e4,e5,e6,e7⟩:=(hins.below (af B1.out HG.out.2)).val;clear hins;obtain⟨xl,hxl1⟩:∃n,x.2.2.2.2.1.length=n:=⟨_,rfl⟩;obtain⟨zl,hzl1⟩:∃n,x.2.2.2.2.2.1.length=n:=⟨_,rfl⟩;rw [hxl1] at e4;rw [hzl1] at e5;have b3:=ag wr (.cells (iC x xo zo xl zl xc zc) 48);have Y0:=ae (heap_alloc_new wr (.cells (iC x xo zo xl zl xc zc) 48));have HG3:=ae (HG.out.below b3);clear b3 hxl1 hzl1;go_upto_region 13 with fail
       show Code.wp _ _ _ _ (wr.alloc (.cells (iC x xo zo xl zl xc zc) 48));clear e0 e1 e2 e3 e4 e5 e6 e7 x0 x1 x2 x3 x4 cb1 HG;generalize wr.alloc (.cells (iC x xo zo xl zl xc zc) 48)=w3 at *;generalize wr.heap.size=q3 at *;obtain⟨y0,y1,y2,y3,y4,y5,y6,y7⟩:=iq Y0.out;have HM:=ae (L5.cO x.1 x.2.2.2.1 (.int .i64 x.2.1) (.int .i64 x.2.2.1) (.slice xo xl xc) (.slice zo zl zc) (.string (bs x.2.2.2.2.2.2.1)) (.int .i64 x.2.2.2.2.2.2.2) w3);have HMk:Hid (mkX x=L5.cd x.1 x.2.2.2.1):=ae rfl;rw [←HMk.out] at HM;by_cases hm:mkX x=0
       ·have k4:(mkX x == 0)=true:=(by simpa using hm);have HMi3:Hid (eV L (b.take (J+1))=M):=ae (by rw [HMi2.out,if_pos hm]);clear hm HMi2 hJ hjl;go_wp2_with fail
        refine HM.out.mono ?_;rintro e w5 ⟨rfl,b5⟩;have HE:Hid (Grw W (eV L (b.take (J+1))) _ w5):=ae (by rw [HMi3.out];exact HG3.out.below (b5.mono (Nat.le_refl _)));clear b5;go_wp2_with fail
        go_roundw
        case rel=>exact⟨J+1,by omega,by go_num,HE⟩
        case measure=>simp [intOf];omega
       ·have k4:(mkX x == 0)=false:=(by simpa using hm);have HMi3:Hid (eV L (b.take (J+1))=gY M x.2.1):=ae (by rw [HMi2.out,if_neg hm]);clear hm HMi2 hjl;go_wp2_with fail
        refine HM.out.mono ?_;rintro e w5 ⟨rfl,b5⟩;have Y5:=ae ((b5.block _ (Array.getElem?_eq_some_iff.1 Y0.out).1).trans Y0.out);have HG5:=ae (HG3.out.below b5);clear b5 y0 y1 y2 y3 y4 y5 y6 y7 HG3 HM;obtain⟨y0,y1,y2,y3,y4,y5,y6,y7⟩:=iq Y5.out;obtain⟨ao,c,rfl,hsl,hml⟩:=HG5.out.slice;have HSl:=ae hsl;obtain⟨ml,hmle⟩:∃n,M.length=n:=⟨_,rfl⟩;rw [hmle] at hml HL1 HG5 ⊢;have Hml:=ae hmle;clear hsl hmle;go_wp2_with fail
        have hml2:ml≤1000000:=HL1.out;go_loopw [8] (fun av wr=>∃A:Nat,A≤ml∧av= .int .i64 A∧Hid (∀j,j < A→j < M.length∧M.getD j 0 < x.2.1)∧Hid (Below w5.heap.size w5 wr)) (fun av _=>ml - (intOf av).toNat)
        case atStart=>exact⟨0,Nat.zero_le _,rfl,ae (fun j h=>absurd h (Nat.not_lt_zero _)),ae (Below.refl _ _)⟩
        case round=>
         clear y0 y1 y2 y3 y4 y5 y6 y7;obtain⟨A,hA,rfl,HA,HW6⟩:=hrel;obtain⟨_,y1,_⟩:=iq ((HW6.out.block _ (Array.getElem?_eq_some_iff.1 Y5.out).1).trans Y5.out);have hs6:=HSl.out.below HW6.out;by_cases hgo:A < ml∧M.getD A 0 < x.2.1
         ·obtain⟨hat,hlt⟩:=hgo;have haI:(A:Int) < ml:=(by omega);obtain⟨g3,o3,rfl,cA⟩:=cX hs6 (i:=A) (by rw [Hml.out];exact hat);obtain⟨mv,hmv⟩:∃v,M.getD A 0=v:=⟨_,rfl⟩;rw [hmv] at cA hlt;have HE:Hid (∀j,j < A+1→j < M.length∧M.getD j 0 < x.2.1):=ae (fun j hj=>by
           by_cases e:j=A
           ·rw [e,hmv,Hml.out];exact⟨hat,hlt⟩
           ·exact HA.out j (by omega))
          have hd:decide ((A:Int) < (ml:Int))=true:=decide_eq_true haI;have hd2:decide (mv < x.2.1)=true:=decide_eq_true hlt;clear hmv hs6;go_wp2_with fail
          go_quiet (fail)
          go_wp2_with fail
          go_roundw
          case rel=>exact⟨A+1,by omega,by go_num,HE,ae (below_drewN HW6.out _)⟩
          case measure=>simp [intOf];omega
         ·have HLow:Hid (pQ x.2.1 M=A):=ae (xX HA.out (by
           rw [Hml.out];by_cases e:A=ml
           ·exact .inl e
           ·exact .inr fun q=>hgo ⟨by omega,q⟩))
          have hAM:A≤M.length:=(by rw [Hml.out];exact hA);have hle:(M.take A).length=A:=(by rw [List.length_take,Nat.min_eq_left hAM]);have hld:(M.drop A).length=ml - A:=(by rw [List.length_drop,Hml.out]);clear HA;rcases bV HG5.out.1 with ⟨e,hn⟩ | ⟨g4,cap,e,h1,_,_,h4,h5,_⟩
          ·injection e with e1 e2 e3;subst e1 e2 e3;obtain rfl:A=0:=(by omega);have hd:decide (((0:Nat):Int) < ((0:Nat):Int))=false:=(by decide);have hMn:M= []:=List.length_eq_zero_iff.1 hn;have HMA:Hid (M.take 0= []):=ae rfl;have HMD:Hid (M.drop 0= []):=ae (by rw [hMn];rfl);clear hMn hn hgo hs6;go_wp2_with fail
           go_quiet (fail)
           have B6:=ae (below_drewN HW6.out nq);have HG6:=ae (HG5.out.below B6.out);have y1:=ae (iq ((B6.out.block _ (Array.getElem?_eq_some_iff.1 Y5.out).1).trans Y5.out)).2.1;clear HW6 Y5 HG5 HSl;generalize wr.drewN nq=w6 at *;go_wp2_with (at_builtin;refine iK rfl (.tmp 64) (.tmp 67) rfl w6.heap.size (.slice none 0 0) _ 0 [] (M.take 0) rfl (World.ownsRow_nil _ _ _ _) rfl (.inl ⟨rfl,HMA.out⟩) (by omega) (Nat.le_refl _) ?_;intro v1 w1 own1 grow1;refine Hid.out ?_)
           have HN1:Hid (Grw w6 (M.take 0) v1 w1):=ae (by
            refine⟨?_,Below.grown (Below.refl _ _) grow1 (Nat.le_refl _) (by intro b hb;simp [Value.ownBlock] at hb)⟩;simpa using own1)
           clear own1 grow1;have y2:=(HN1.out.2.cell (p:=⟨q3,1,none⟩) (World.block_lt_of_cell? w6 _ y1.out)).trans y1.out;have hws:=HN1.out.2.size;refine ae ?_;go_wp2_with (at_builtin;refine wpList_append_own _ rfl (.tmp 69) (.tmp 72) 25 rfl w6.heap.size 3 i0 _ 1 8 Tryz.underlying25 hi0 hz0 hz1 hz2 rfl (by decide) _ _ _ rfl (HN1.out.1.alloc _) ⟨w1.heap.size,0,none⟩ 1 1 [.int .i64 x.2.1] rfl rfl one_cell one_one (by unfold maxLen;omega) (by omega) (by simp;omega) ?_;intro v2 w2 own2 grow2 _;refine Hid.out ?_)
           have HN2:Hid (Grw w6 (M.take 0 ++ [x.2.1]) v2 w2):=ae (HN1.out.step own2 grow2);clear own2 grow2 y2 hws HN1;have hws:=HN2.out.2.size;have hl2:(M.take 0 ++ [x.2.1]).length≤1000001:=(by rw [List.length_append];simp only [List.length_cons,List.length_nil];omega);refine ae ?_;go_wp2_with (at_builtin;refine iK rfl (.tmp 74) (.tmp 77) rfl w6.heap.size v2 _ _ _ (M.drop 0) rfl HN2.out.1 rfl (.inl ⟨rfl,HMD.out⟩) (by omega) hws ?_;intro v3 w3 own3 grow3;refine Hid.out ?_)
           have HE:Hid (Grw W (eV L (b.take (J+1))) v3 w3):=ae (by
            have h3:Grw w6 (gY M x.2.1) v3 w3:=(by unfold gY;rw [HLow.out];exact HN2.out.join own3 grow3);rw [HMi3.out];exact⟨aO h3.1 HG6.out.2.size,af HG6.out.2 h3.2⟩)
           clear own3 grow3;refine ae ?_;go_wp2_with fail
           go_roundw
           case rel=>exact⟨J+1,by omega,by go_num,HE⟩
           case measure=>simp [intOf];omega
          ·injection e with e1 e2 e3;subst e3;clear e2;by_cases hat:A < ml
           case' pos=>
            have haI:(A:Int) < ml:=(by omega);obtain⟨g3,o3,rfl,cA⟩:=cX hs6 (i:=A) (by rw [Hml.out];exact hat);injection e1 with e1;injection e1 with e1 e0 e9;replace e1:=e1.symm;subst e1 e0;rw [Nat.zero_add] at cA;clear e9;obtain⟨mv,hmv⟩:∃v,M.getD A 0=v:=⟨_,rfl⟩;rw [hmv] at cA hgo;have hd2:decide (mv < x.2.1)=false:=decide_eq_false fun q=>hgo ⟨hat,q⟩;have hd:decide ((A:Int) < (ml:Int))=true:=decide_eq_true haI;clear hmv hgo hs6
           case' neg=>
            subst e1;have hd:decide ((A:Int) < (ml:Int))=false:=decide_eq_false (by omega);clear hgo hs6
           all_goals
            go_wp2_with fail
            go_quiet (fail)
            have hAc:(A:Int)≤(c:Int):=(by rw [Hml.out] at h1;omega);have hAl:(A:Int)≤(ml:Int):=(by omega);rw [Hml.out] at h1;have B6:=ae (below_drewN HW6.out nq);have HG6:=ae (HG5.out.below B6.out);have y1:=ae (iq ((B6.out.block _ (Array.getElem?_eq_some_iff.1 Y5.out).1).trans Y5.out)).2.1;have hc4:=ae (fun j u hj=>(B6.out.cell (p:=⟨g4,j,none⟩) h4).trans (h5 j u hj));have hg4:=ae (Nat.lt_of_lt_of_le h4 B6.out.size);clear h4 h5 HW6 Y5 HG5 HSl;generalize wr.drewN nq=w6 at *;go_wp2_with (at_builtin;refine iK rfl (.tmp 64) (.tmp 67) rfl w6.heap.size (.slice none 0 0) _ 0 [] (M.take A) rfl (World.ownsRow_nil _ _ _ _) rfl (IB hg4.out hc4.out hAM) (by omega) (Nat.le_refl _) ?_;intro v1 w1 own1 grow1;refine Hid.out ?_)
            have HN1:Hid (Grw w6 (M.take A) v1 w1):=ae (by
             refine⟨?_,Below.grown (Below.refl _ _) grow1 (Nat.le_refl _) (by intro b hb;simp [Value.ownBlock] at hb)⟩;simpa using own1)
            clear own1 grow1;have y2:=(HN1.out.2.cell (p:=⟨q3,1,none⟩) (World.block_lt_of_cell? w6 _ y1.out)).trans y1.out;have hws:=HN1.out.2.size;refine ae ?_;go_wp2_with (at_builtin;refine wpList_append_own _ rfl (.tmp 69) (.tmp 72) 25 rfl w6.heap.size 3 i0 _ 1 8 Tryz.underlying25 hi0 hz0 hz1 hz2 rfl (by decide) _ _ _ rfl (HN1.out.1.alloc _) ⟨w1.heap.size,0,none⟩ 1 1 [.int .i64 x.2.1] rfl rfl one_cell one_one (by unfold maxLen;omega) (by omega) (by simp;omega) ?_;intro v2 w2 own2 grow2 _;refine Hid.out ?_)
            have HN2:Hid (Grw w6 (M.take A ++ [x.2.1]) v2 w2):=ae (HN1.out.step own2 grow2);clear own2 grow2 y2 hws HN1;have hws:=HN2.out.2.size;have hl2:(M.take A ++ [x.2.1]).length≤1000001:=(by rw [List.length_append];simp only [List.length_cons,List.length_nil];omega);refine ae ?_;by_cases hcA:c=A
            all_goals
             have hc5:=ae (fun j u hj=>(HN2.out.2.cell (p:=⟨g4,j,none⟩) hg4.out).trans (hc4.out j u hj));have hg5:=ae (Nat.lt_of_lt_of_le hg4.out hws);go_wp2_with (at_builtin;refine iK rfl (.tmp 74) (.tmp 77) rfl w6.heap.size v2 _ _ _ (M.drop A) rfl HN2.out.1 rfl (JO hg5.out hc5.out (by rw [Hml.out];exact h1) (by rw [Hml.out]) (by omega)) (by omega) hws ?_;intro v3 w3 own3 grow3;refine Hid.out ?_)
             have HE:Hid (Grw W (eV L (b.take (J+1))) v3 w3):=ae (by
              have h3:Grw w6 (gY M x.2.1) v3 w3:=(by unfold gY;rw [HLow.out];exact HN2.out.join own3 grow3);rw [HMi3.out];exact⟨aO h3.1 HG6.out.2.size,af HG6.out.2 h3.2⟩)
             clear own3 grow3;refine ae ?_;go_wp2_with fail
             go_roundw
             case rel=>exact⟨J+1,by omega,by go_num,HE⟩
             case measure=>simp [intOf];omega
      ·obtain rfl:J=bn:=(by omega);have HE:Hid (Grw W (im (fX I) (f.2.2.2.1.take (K+1))) _ wr):=ae (by
        have h:=HG.out;rw [←Hbn.out,List.take_length,←HMo.out] at h;exact h)
       clear HG;go_wp2_with fail
       go_roundw
       case rel=>exact⟨K+1,by omega,by go_num,HE⟩
       case measure=>simp [intOf];omega
    ·obtain rfl:K=nb:=(by omega);have HE:Hid (Grw w (cL f) _ wr):=ae (by
      have h:=HG.out;rw [←hnbe.out,List.take_length,←hlps.out] at h;exact⟨aO h.1 B1.out.size,af B1.out h.2⟩)
     go_wp2_with fail
     go_ret;exact⟨_,rfl,HE.out⟩
theorem oF (f:Fun) (k i:Nat) (id:Int) (v:Value) (w:World) (hv:bG w f v) (hF:LvF f) (hk:k < f.2.2.2.1.length) (hi:i≤(ah f k).length):
  Calls Tryz.prog 12 #[v,.int .i64 k,.int .i64 i,.int .i64 id] w fun e w'=>e= .returned (.bool (bf f k i id))∧Below w.heap.size w w':=by
 obtain⟨lp,cp,lb,cb,rfl,_,_⟩:=cG hv;obtain⟨gb,ob,ab,bc,rfl,hgb,cb1,hblk⟩:=df (dF hv) hk;have hmem:=fq (f:=f) (k:=k) hk;have hbl:=hF.2.2.1.2 _ hmem;have CB:=ae (fun w' (b:Below w.heap.size w w')=>oX (ah f k) i id ab bc w' (hblk.below b) hbl hi (fun x hx=>(hF.2.2.2 _ hmem x hx).1));have CE:=ae (fun w' (b:Below w.heap.size w w')=>nT f k id _ w' (hv.below b) hF hk);obtain⟨bl,hble⟩:∃n,(ah f k).length=n:=⟨_,rfl⟩;obtain⟨bv,hbv⟩:∃n,j4 id ((ah f k).drop i)=n:=⟨_,rfl⟩;obtain⟨ev,hev⟩:∃e,eS f k id=e:=⟨_,rfl⟩;have HFr:Hid (bf f k i id=(decide (bv=1) || (decide (bv=0) && ev))):=ae (by unfold bf eA;rw [hbv,hev]);rw [hble,hbv] at CB;rw [hev] at CE;rw [hble] at cb1;have hkI:(k:Int) < (f.2.2.2.1.length:Int):=by omega
 clear hv hmem hbl hF hi hble hbv hev hk hblk;obtain⟨nb,hnbe⟩:∃n,f.2.2.2.1.length=n:=⟨_,rfl⟩;obtain⟨lps,hlps⟩:∃n,f.2.1.length=n:=⟨_,rfl⟩;obtain⟨nm,hnm⟩:∃n,bs f.1=n:=⟨_,rfl⟩;obtain⟨rt,hrt⟩:∃n,f.2.2.1=n:=⟨_,rfl⟩;obtain⟨pl,hpe⟩:∃n,f.2.2.2.2=n:=⟨_,rfl⟩;rw [hnbe] at hkI;rw [hnbe,hlps,hnm,hrt,hpe] at CE ⊢;clear hnbe hlps hnm hrt hpe;obtain⟨r,hr⟩:∃r,bf f k i id=r:=⟨_,rfl⟩;rw [hr] at HFr ⊢;clear hr;have b1:=ag w (.cells (fC nm lp (some ⟨gb,ob,none⟩) lps cp nb cb rt pl) 28);have HX0:=ae (heap_alloc_new w (.cells (fC nm lp (some ⟨gb,ob,none⟩) lps cp nb cb rt pl) 28));have c1:=(b1.cell (p:=⟨gb,ob+k,none⟩) hgb).trans cb1;have B1:=ae b1;clear b1 cb1;go_enter Tryz.func12,Tryz.ntmps12
 go_upto_region 1 with fail
 show Code.wp _ _ _ _ (w.alloc (.cells (fC nm lp (some ⟨gb,ob,none⟩) lps cp nb cb rt pl) 28));generalize w.alloc (.cells (fC nm lp (some ⟨gb,ob,none⟩) lps cp nb cb rt pl) 28)=W at *;obtain⟨⟨x0,x1,x2,x3,x4⟩,_,_⟩:=bW HX0.out;have C1:=ae (CB.out W B1.out);go_wp2_with fail
 refine C1.out.mono ?_;rintro e w1 ⟨rfl,b1⟩;have B2:=ae (af B1.out b1);have X1:=ae ((b1.block _ (Array.getElem?_eq_some_iff.1 HX0.out).1).trans HX0.out);clear b1 c1 x0 x1 x2 x3 x4 C1 CB HX0;obtain⟨⟨x0,x1,x2,x3,x4⟩,_,_⟩:=bW X1.out;by_cases h1:bv=1
 ·have k1:((bv:Int) == 1)=true:=by simpa using (show(bv:Int)=1 by omega)
  have HE:Hid (r=true):=ae (by rw [HFr.out,h1];rfl);clear h1;go_wp2_with fail
  go_ret;exact⟨L5.ax HE.out.symm,B2.out⟩
 ·have k1:((bv:Int) == 1)=false:=beq_eq_false_iff_ne.2 (by omega);by_cases h0:bv=0
  ·have k0:((bv:Int) == 0)=true:=(by simpa using (show(bv:Int)=0 by omega));have HE:Hid (r=ev):=ae (by rw [HFr.out,h0];simp);have C2:=ae (CE.out w1 B2.out);clear h1 h0 CE;go_wp2_with fail
   refine C2.out.mono ?_;rintro e w2 ⟨rfl,b2⟩;have B3:=ae (af B2.out b2);clear b2;go_wp2_with fail
   go_ret;exact⟨L5.ax HE.out.symm,B3.out⟩
  ·have k0:((bv:Int) == 0)=false:=beq_eq_false_iff_ne.2 (by omega);have HE:Hid (r=false):=ae (by rw [HFr.out];simp [h1,h0]);clear h1 h0;go_wp2_with fail
   go_ret;exact⟨L5.ax HE.out.symm,B2.out⟩
theorem uI (f:Fun) (k i:Nat) (id:Int) (v:Value) (w:World) (hv:bG w f v) (hF:LvF f) (hk:k < f.2.2.2.1.length) (hi:i < (ah f k).length):
  Calls Tryz.prog 16 #[v,.int .i64 k,.int .i64 i,.int .i64 id] w fun e w'=>e= .returned (.bool (bf f k (gz f k i) id))∧Below w.heap.size w w':=by
 obtain⟨lp,cp,lb,cb,rfl,_,_⟩:=cG hv;obtain⟨gb,ob,ab,bc,rfl,hgb,cb1,hblk⟩:=df (dF hv) hk;have hmem:=fq (f:=f) (k:=k) hk;have hbl:=hF.2.2.1.2 _ hmem;have CP:=ae (fun w' (b:Below w.heap.size w w')=>xj (ah f k) ab bc w' (hblk.below b) hbl);have hpl:=kW (ah f k);have CF:=ae (fun w' (b:Below w.heap.size w w')=>oF f k (gz f k i) id _ w' (hv.below b) hF hk (by unfold gz;omega));have hi2:i≤1000000:=by omega
 obtain⟨bl,hble⟩:∃n,(ah f k).length=n:=⟨_,rfl⟩;obtain⟨pn,hpn⟩:∃n,phN (ah f k)=n:=⟨_,rfl⟩;obtain⟨an,han⟩:∃n,gz f k i=n:=⟨_,rfl⟩;have HAn:Hid (an=max (i+1) pn):=ae (by rw [←han,←hpn];rfl);rw [hble,hpn] at CP;rw [hble] at cb1;rw [han] at CF ⊢;have hkI:(k:Int) < (f.2.2.2.1.length:Int):=by omega
 clear hv hmem hbl hF hi hble hpn han hk hblk hpl;obtain⟨nb,hnbe⟩:∃n,f.2.2.2.1.length=n:=⟨_,rfl⟩;obtain⟨lps,hlps⟩:∃n,f.2.1.length=n:=⟨_,rfl⟩;obtain⟨nm,hnm⟩:∃n,bs f.1=n:=⟨_,rfl⟩;obtain⟨rt,hrt⟩:∃n,f.2.2.1=n:=⟨_,rfl⟩;obtain⟨pl,hpe⟩:∃n,f.2.2.2.2=n:=⟨_,rfl⟩;rw [hnbe] at hkI;rw [hnbe,hlps,hnm,hrt,hpe] at CF ⊢;clear hnbe hlps hnm hrt hpe;have b1:=ag w (.cells (fC nm lp (some ⟨gb,ob,none⟩) lps cp nb cb rt pl) 28);have HX0:=ae (heap_alloc_new w (.cells (fC nm lp (some ⟨gb,ob,none⟩) lps cp nb cb rt pl) 28));have c1:=(b1.cell (p:=⟨gb,ob+k,none⟩) hgb).trans cb1;have HgW:Hid (gb < w.heap.size):=ae hgb;have B1:=ae b1;clear b1 cb1;go_enter Tryz.func16,Tryz.ntmps16
 go_upto_region 1 with fail
 show Code.wp _ _ _ _ (w.alloc (.cells (fC nm lp (some ⟨gb,ob,none⟩) lps cp nb cb rt pl) 28));generalize w.alloc (.cells (fC nm lp (some ⟨gb,ob,none⟩) lps cp nb cb rt pl) 28)=W at *;obtain⟨⟨x0,x1,x2,x3,x4⟩,_,_⟩:=bW HX0.out;have C1:=ae (CP.out W B1.out);go_wp2_with fail
 refine C1.out.mono ?_;rintro e w1 ⟨rfl,b1⟩;have B2:=ae (af B1.out b1);have X1:=ae ((b1.block _ (Array.getElem?_eq_some_iff.1 HX0.out).1).trans HX0.out);replace c1:=(b1.cell (p:=⟨gb,ob+k,none⟩) (Nat.lt_of_lt_of_le hgb B1.out.size)).trans c1;clear b1 x0 x1 x2 x3 x4 C1 HX0;obtain⟨⟨x0,x1,x2,x3,x4⟩,_,_⟩:=bW X1.out;by_cases hlt:i+1 < pn
 ·have k1:((i:Int)+1) < (pn:Int):=by omega
  have HE:Hid (an=pn):=ae (by rw [HAn.out];omega);have C2:=ae (CP.out w1 B2.out);clear hlt;go_wp2_with fail
  refine C2.out.mono ?_;rintro e w2 ⟨rfl,b2⟩;have B3:=ae (af B2.out b2);have X2:=ae ((b2.block _ (Array.getElem?_eq_some_iff.1 X1.out).1).trans X1.out);have C3:=ae (CF.out w2 B3.out);rw [HE.out] at C3;clear b2 c1 x0 x1 x2 x3 x4;obtain⟨⟨x0,x1,x2,x3,x4⟩,_,_⟩:=bW X2.out;go_wp2_with fail
  refine C3.out.mono ?_;rintro e w3 ⟨rfl,b3⟩;have B4:=ae (af B3.out b3);clear b3;go_wp2_with fail
  go_ret;exact⟨by rw [HE.out];rfl,B4.out⟩
 ·have k1:¬((i:Int)+1) < (pn:Int):=by omega
  have HE:Hid (an=i+1):=ae (by rw [HAn.out];omega);have C3:=ae (CF.out w1 B2.out);rw [HE.out] at C3;have he:(((i+1:Nat)):Int)=(i:Int)+1:=by omega
  rw [he] at C3;clear hlt he;go_wp2_with fail
  refine C3.out.mono ?_;rintro e w3 ⟨rfl,b3⟩;have B4:=ae (af B2.out b3);clear b3;go_wp2_with fail
  go_ret;exact⟨by rw [HE.out];rfl,B4.out⟩
end Go.Proofs.YtfdhemcahjommaaGreatDoor
