/- Texts of one chain, joined. -/
import Derived.Test.YtljkgcfnoegibaaGreatDoorZCAC
import Derived.Test.YtljkgcfnoegibaaGreatDoorZAAR
set_option maxHeartbeats 8000000
set_option maxRecDepth 20000
namespace Go.Proofs.YtljkgcfnoegibaaGreatDoor
open Go Go.RowKit
open G (Tok Er Ins Fun)
def bitsOf (n:Nat) (met:List Int):List Bool:=(List.range n).map fun(b:Nat)=>az met b
theorem Bt {n b:Nat} {met:List Int} (h:b < n):(bitsOf n met)[b]? =some (az met b):=by
 unfold bitsOf;rw [List.getElem?_map,List.getElem?_range h];rfl
theorem ou (n:Nat) (met:List Int):bitsOf (n+1) met=bitsOf n met ++ [az met n]:=by
 unfold bitsOf;rw [List.range_succ,List.map_append];rfl
theorem ik {a:Bool}:∀u∈ [Value.bool a],u.oneCell'=true:=by
 intro u hu;simp at hu;subst hu;rfl
theorem vD (s:ByteArray) (rt pl but:Int) (ll:List (List Int)) (ao bo eo:Option Addr) (pn c cb ec:Nat) (w:World) (he:lW w eo ll) (hel:ll.length≤1000000) (hgr:Gr ll) (hell:∀l∈ll,l.length≤1000000):
  Calls Tryz.prog 82 #[.agg #[.string s,.slice ao pn c,.int .i64 rt,.slice bo ll.length cb,.int .i64 pl],.slice eo ll.length ec,.int .i64 but] w fun e w'=>∃v,e= .returned v∧w'.ownsRow w.heap.size 4 1 v ll.length (fi (bitsOf ll.length (iJ ll [0] but)))∧Below w.heap.size w w':=by
 obtain⟨i0,hi0,hz0,hz1,hz2⟩:=info_parts Tryz.cr;obtain⟨i4,hi4,hy0,hy1,hy2⟩:=info_parts Tryz.DG;have b0:=ah w (.cells #[.string s,.slice ao pn c,.int .i64 rt,.slice bo ll.length cb,.int .i64 pl] 36);have X0:=ae (L5.Box.new w [.string s,.slice ao pn c,.int .i64 rt,.slice bo ll.length cb,.int .i64 pl] 36);have B0:=ae b0;have HEd:=ae (he.below b0);have HEn:=ae hgr.1;have HFr:=ae hgr.frm;have HEl:=ae hell;have hpos:=hgr.2;clear b0 he hgr hell;go_enter Tryz.func82,Tryz.ntmps82
 go_upto_region 1 with fail
 show Code.wp _ _ _ _ (w.alloc (.cells #[.string s,.slice ao pn c,.int .i64 rt,.slice bo ll.length cb,.int .i64 pl] 36));replace X0:Hid (L5.Box (w.alloc (.cells #[.string s,.slice ao pn c,.int .i64 rt,.slice bo ll.length cb,.int .i64 pl] 36)) w.heap.size [.string s,.slice ao pn c,.int .i64 rt,.slice bo ll.length cb,.int .i64 pl]):=X0;generalize w.alloc (.cells #[.string s,.slice ao pn c,.int .i64 rt,.slice bo ll.length cb,.int .i64 pl] 36)=W at *;have HN0:Hid (fO ll.length (aX but [] [0])):=ae (fO.aX but _ _ (fO.nil _) HFr.out);have HM:Hid (growE ll but (ll.length+1 - 0) 0 (aX but [] [0])=iJ ll [0] but):=ae rfl;by_cases hb0:but=0
 ·have hbn:(but != 0)=false:=by simpa using hb0
  have HG0:Hid (Grw W (aX but [] [0]) (.slice none 0 0) W):=ae (by
   have e:aX but [] [0]= []:=(by simp [aX,ku,hb0]);rw [e];exact Grw.start W)
  replace hb0:=ae hb0;go_wp2_with fail
  go_loopw [7,8] (fun v i wr=>∃(I:Nat) (met:List Int),I≤met.length∧i= .int .i64 I∧Hid (Grw W met v wr)∧Hid (fO ll.length met)∧Hid (growE ll but (ll.length+1 - I) I met=iJ ll [0] but)) (fun _ i _=>ll.length+1 - (intOf i).toNat)
  case atStart=>exact⟨0,_,Nat.zero_le _,rfl,HG0,HN0,HM⟩
  case round=>
   clear HG0 HN0 HM;obtain⟨I,met,hI,rfl,HG,HN,HM⟩:=hrel;have hml:met.length≤ll.length:=dU _ _ HN.out.1 HN.out.2;obtain⟨mo,mc,rfl,s1,s2⟩:=HG.out.slice;by_cases hit:I < met.length
   ·have hiI:(I:Int) < met.length:=(by omega);obtain⟨m,hm⟩:∃m,met[I]? =some m:=⟨met[I],List.getElem?_eq_getElem hit⟩;obtain⟨hm0,hm1⟩:=HN.out.2 m (List.mem_of_getElem? hm);obtain⟨M,rfl⟩:∃M:Nat,m=(M:Int):=⟨m.toNat,by omega⟩;have hMl:M < ll.length:=(by omega);obtain⟨l,hl⟩:∃l,ll[M]? =some l:=⟨ll[M],List.getElem?_eq_getElem hMl⟩;have HMs:Hid (growE ll but (ll.length+1 - (I+1)) (I+1) (aX but met l)=iJ ll [0] but):=ae (by
     have e:=HM.out;rw [show ll.length+1 - I=(ll.length+1 - (I+1))+1 by omega,mC hm] at e;rw [←e,Int.toNat_natCast,List.getD_eq_getElem?_getD,hl];rfl)
    have HLn:=ae (HEn.out l (List.mem_of_getElem? hl));have hll:=HEl.out l (List.mem_of_getElem? hl);rcases HEd.out with e0 | ⟨eb,eo2,rfl,d1,d2⟩
    ·subst e0;simp at hMl
    obtain⟨_,k1,⟨lo,lc,rfl,k2,k3,k4⟩⟩:=d2 M l hl;have HK1:=ae k1;have hlw:Hid (Sl W lo l):=ae k2;have HMm:=ae hm;have HG0:Hid (Grw W (aX but met (l.take 0)) _ wr):=HG;clear d2 k1 k2 hm hl s1 s2 HG;go_wp2_with fail
    go_loopw [7,9] (fun v i wq=>∃K:Nat,K≤l.length∧i= .int .i64 K∧Hid (Grw W (aX but met (l.take K)) v wq)) (fun _ i _=>l.length - (intOf i).toNat)
    case atStart=>exact⟨0,Nat.zero_le _,rfl,HG0⟩
    case round=>
     clear HG0;obtain⟨K,hK,rfl,HG⟩:=hrel;have HPx:Hid ((aX but met (l.take K))[I]? =some (M:Int)):=ae (gM but _ _ _ _ HMm.out);have HNm:Hid (fO ll.length (aX but met (l.take K))):=ae (fO.aX but _ _ HN.out (HLn.out.take K));have HTk:=fun n hn=>ae (qO (but:=but) (met:=met) (l:=l) (i:=K) (m:=n) hn);have HEnd:Hid (K=l.length→aX but met (l.take K)=aX but met l):=ae (fun e=>by rw [e,List.take_length]);generalize aX but met (l.take K)=me2 at *;have hml2:me2.length≤ll.length:=dU _ _ HNm.out.1 HNm.out.2;have hit2:I < me2.length:=(List.getElem?_eq_some_iff.1 HPx.out).1;have hit3:(I:Int) < me2.length:=(by omega);obtain⟨mo3,mc3,rfl,s1,s2⟩:=HG.out.slice;have HS:=ae s1;rcases s1 with e0 | ⟨mb,mo2,rfl,g1,g2⟩
     ·exfalso;rw [e0] at hit2;simp at hit2
     have c1:=g2 I _ HPx.out;have c2:=(HG.out.2.cell (p:=⟨eb,eo2+M,none⟩) d1).trans HK1.out;have hWs:=HG.out.2.size;clear g2;by_cases hkt:K < l.length
     ·obtain⟨n,hn⟩:∃n,l[K]? =some n:=⟨l[K],List.getElem?_eq_getElem hkt⟩;have hkI:(K:Int) < l.length:=(by omega);have HTk:=HTk n hn;rcases hlw.out with e0 | ⟨fb,fo2,rfl,f1,f2⟩
      ·subst e0;simp at hkt
      have c3:=(HG.out.2.cell (p:=⟨fb,fo2+K,none⟩) f1).trans (f2 K n hn);have HH:=ae (eC me2 n _ mc3 wr HS.out s2);clear f2 s2 hn;by_cases hmb:n=but
      ·have HE:Hid (Grw W (aX but met (l.take (K+1))) _ wr):=ae (by rw [HTk.out,qG hmb];exact HG.out);have hmn:(n != but)=false:=(by simpa using hmb);go_wp2_with fail
       go_roundw
       case rel=>exact⟨K+1,by omega,by go_num,HE⟩
       case measure=>simp [intOf];omega
      ·have hmn:(n != but)=true:=(by simpa using hmb);go_wp2_with fail
       refine HH.out.mono ?_;rintro e w8 ⟨rfl,rfl⟩
       cases hh:az me2 n with
       |true=>
        have HE:Hid (Grw W (aX but met (l.take (K+1))) _ w8):=ae (by rw [HTk.out,pT hmb hh];exact HG.out);replace hh:=ae hh;go_wp2_with fail
        go_roundw
        case rel=>exact⟨K+1,by omega,by go_num,HE⟩
        case measure=>simp [intOf];omega
       |false=>
        have HA:=ae (HTk.out.trans (qJ hmb hh));replace hh:=ae hh;go_wp2_with (at_builtin;refine wpList_append_own _ rfl (.tmp 55) (.tmp 57) 33 rfl W.heap.size 3 i0 _ 1 8 Tryz.underlying33 hi0 hz0 hz1 hz2 rfl (by decide) _ _ _ rfl (HG.out.1.alloc _) ⟨w8.heap.size,0,none⟩ 1 1 [.int .i64 n] rfl rfl aM bt (by unfold maxLen;omega) (by omega) (by simp;omega) ?_;intro v2 w2 own2 grow2 _;refine Hid.out ?_)
        have HE:Hid (Grw W (aX but met (l.take (K+1))) v2 w2):=ae (by rw [HA.out];exact HG.out.step own2 grow2);clear own2 grow2;refine ae ?_;go_wp2_with fail
        go_roundw
        case rel=>exact⟨K+1,by omega,by go_num,HE⟩
        case measure=>simp [intOf];omega
     ·obtain rfl:K=l.length:=(by omega);obtain rfl:me2=aX but met l:=HEnd.out rfl;have HG2:Hid (Grw W (aX but met l) _ wr):=HG;have HN2:Hid (fO ll.length (aX but met l)):=ae (fO.aX but _ _ HN.out HLn.out);have hge:met.length≤(aX but met l).length:=nM _ _ _;go_wp2_with fail
      go_roundw
      case rel=>exact⟨I+1,_,by omega,by go_num,HG2,HN2,HMs⟩
      case measure=>simp [intOf];omega
   ·have HE:Hid (met=iJ ll [0] but):=ae ((nR (by omega)).symm.trans HM.out);have HS:=ae s1;have HWB:=ae HG.out.2;clear s1 HG HM;go_wp2_with fail
    generalize wr=W3 at *;go_loopw [11,12] (fun v i wq=>∃K:Nat,K≤ll.length∧i= .int .i64 K∧Hid (GrB W3 (bitsOf K met) v wq)) (fun _ i _=>ll.length - (intOf i).toNat)
    case atStart=>exact⟨0,Nat.zero_le _,rfl,ae (GrB.start _)⟩
    case round=>
     obtain⟨K,hK,rfl,HB⟩:=hrel;have HWq:=ae (af HWB.out HB.out.2);have x3:=(X0.out.below HWq.out).2 3 _ rfl;have HBL:Hid ((bitsOf K met).length=K):=ae (by simp [bitsOf]);by_cases hkt:K < ll.length
     ·have hkI:(K:Int) < ll.length:=(by omega);have HH:=ae (eC met K mo mc wr (HS.out.below HB.out.2) s2);obtain⟨vo,vc,rfl⟩:=HB.out.len;go_wp2_with fail
      refine HH.out.mono ?_;rintro e w8 ⟨rfl,rfl⟩;have hWs:=HWq.out.size;have h8:=HB.out.2.size;go_wp2_with (at_builtin;refine wpList_append_own _ rfl (.tmp 66) (.tmp 70) 124 rfl W3.heap.size 4 i4 _ 1 1 Tryz.underlying124 hi4 hy0 hy1 hy2 rfl (by decide) _ _ _ rfl (HB.out.1.alloc _) ⟨w8.heap.size,0,none⟩ 1 1 [.bool (az met K)] rfl rfl aM ik (by have:=HBL.out;unfold maxLen;omega) (by have:=HBL.out;omega) (by simp;omega) ?_;intro v2 w2 own2 grow2 _;refine Hid.out ?_)
      have HE:Hid (GrB W3 (bitsOf (K+1) met) v2 w2):=ae (by rw [ou];exact HB.out.step own2 grow2);clear own2 grow2;refine ae ?_;go_wp2_with fail
      go_roundw
      case rel=>exact⟨K+1,by omega,by go_num,HE⟩
      case measure=>simp [intOf];omega
     ·obtain rfl:K=ll.length:=(by omega);go_wp2_with fail
      go_ret;refine⟨_,rfl,?_,af B0.out HWq.out⟩;have:=HB.out.1;rw [HBL.out,HE.out] at this;exact aT this (Nat.le_trans (by have:=B0.out.size;exact this) HWB.out.size)
 ·have hbn:(but != 0)=true:=by simpa using hb0
  go_wp2_with (at_builtin;refine wpList_append_own _ rfl (.tmp 15) (.tmp 16) 33 rfl W.heap.size 3 i0 _ 1 8 Tryz.underlying33 hi0 hz0 hz1 hz2 rfl (by decide) _ _ _ rfl ((Grw.start W).1.alloc _) ⟨W.heap.size,0,none⟩ 1 1 [.int .i64 0] rfl rfl aM bt (by unfold maxLen;simp) (by simp) (by simp) ?_;intro v2 w2 own2 grow2 _;refine Hid.out ?_)
  have HG0:Hid (Grw W (aX but [] [0]) v2 w2):=ae (by
   have e:aX but [] [0]= [] ++ [0]:=by
    have h:(0:Int)≠but:=fun e=>hb0 e.symm;simp [aX,ku,h,jZ,az]
   rw [e];exact(Grw.start W).step own2 grow2)
  clear own2 grow2;replace hb0:=ae hb0;refine ae ?_;go_wp2_with fail
  go_loopw [7,8] (fun v i wr=>∃(I:Nat) (met:List Int),I≤met.length∧i= .int .i64 I∧Hid (Grw W met v wr)∧Hid (fO ll.length met)∧Hid (growE ll but (ll.length+1 - I) I met=iJ ll [0] but)) (fun _ i _=>ll.length+1 - (intOf i).toNat)
  case atStart=>exact⟨0,_,Nat.zero_le _,rfl,HG0,HN0,HM⟩
  case round=>
   clear HG0 HN0 HM;obtain⟨I,met,hI,rfl,HG,HN,HM⟩:=hrel;have hml:met.length≤ll.length:=dU _ _ HN.out.1 HN.out.2;obtain⟨mo,mc,rfl,s1,s2⟩:=HG.out.slice;by_cases hit:I < met.length
   ·have hiI:(I:Int) < met.length:=(by omega);obtain⟨m,hm⟩:∃m,met[I]? =some m:=⟨met[I],List.getElem?_eq_getElem hit⟩;obtain⟨hm0,hm1⟩:=HN.out.2 m (List.mem_of_getElem? hm);obtain⟨M,rfl⟩:∃M:Nat,m=(M:Int):=⟨m.toNat,by omega⟩;have hMl:M < ll.length:=(by omega);obtain⟨l,hl⟩:∃l,ll[M]? =some l:=⟨ll[M],List.getElem?_eq_getElem hMl⟩;have HMs:Hid (growE ll but (ll.length+1 - (I+1)) (I+1) (aX but met l)=iJ ll [0] but):=ae (by
     have e:=HM.out;rw [show ll.length+1 - I=(ll.length+1 - (I+1))+1 by omega,mC hm] at e;rw [←e,Int.toNat_natCast,List.getD_eq_getElem?_getD,hl];rfl)
    have HLn:=ae (HEn.out l (List.mem_of_getElem? hl));have hll:=HEl.out l (List.mem_of_getElem? hl);rcases HEd.out with e0 | ⟨eb,eo2,rfl,d1,d2⟩
    ·subst e0;simp at hMl
    obtain⟨_,k1,⟨lo,lc,rfl,k2,k3,k4⟩⟩:=d2 M l hl;have HK1:=ae k1;have hlw:Hid (Sl W lo l):=ae k2;have HMm:=ae hm;have HG0:Hid (Grw W (aX but met (l.take 0)) _ wr):=HG;clear d2 k1 k2 hm hl s1 s2 HG;go_wp2_with fail
    go_loopw [7,9] (fun v i wq=>∃K:Nat,K≤l.length∧i= .int .i64 K∧Hid (Grw W (aX but met (l.take K)) v wq)) (fun _ i _=>l.length - (intOf i).toNat)
    case atStart=>exact⟨0,Nat.zero_le _,rfl,HG0⟩
    case round=>
     clear HG0;obtain⟨K,hK,rfl,HG⟩:=hrel;have HPx:Hid ((aX but met (l.take K))[I]? =some (M:Int)):=ae (gM but _ _ _ _ HMm.out);have HNm:Hid (fO ll.length (aX but met (l.take K))):=ae (fO.aX but _ _ HN.out (HLn.out.take K));have HTk:=fun n hn=>ae (qO (but:=but) (met:=met) (l:=l) (i:=K) (m:=n) hn);have HEnd:Hid (K=l.length→aX but met (l.take K)=aX but met l):=ae (fun e=>by rw [e,List.take_length]);generalize aX but met (l.take K)=me2 at *;have hml2:me2.length≤ll.length:=dU _ _ HNm.out.1 HNm.out.2;have hit2:I < me2.length:=(List.getElem?_eq_some_iff.1 HPx.out).1;have hit3:(I:Int) < me2.length:=(by omega);obtain⟨mo3,mc3,rfl,s1,s2⟩:=HG.out.slice;have HS:=ae s1;rcases s1 with e0 | ⟨mb,mo2,rfl,g1,g2⟩
     ·exfalso;rw [e0] at hit2;simp at hit2
     have c1:=g2 I _ HPx.out;have c2:=(HG.out.2.cell (p:=⟨eb,eo2+M,none⟩) d1).trans HK1.out;have hWs:=HG.out.2.size;clear g2;by_cases hkt:K < l.length
     ·obtain⟨n,hn⟩:∃n,l[K]? =some n:=⟨l[K],List.getElem?_eq_getElem hkt⟩;have hkI:(K:Int) < l.length:=(by omega);have HTk:=HTk n hn;rcases hlw.out with e0 | ⟨fb,fo2,rfl,f1,f2⟩
      ·subst e0;simp at hkt
      have c3:=(HG.out.2.cell (p:=⟨fb,fo2+K,none⟩) f1).trans (f2 K n hn);have HH:=ae (eC me2 n _ mc3 wr HS.out s2);clear f2 s2 hn;by_cases hmb:n=but
      ·have HE:Hid (Grw W (aX but met (l.take (K+1))) _ wr):=ae (by rw [HTk.out,qG hmb];exact HG.out);have hmn:(n != but)=false:=(by simpa using hmb);go_wp2_with fail
       go_roundw
       case rel=>exact⟨K+1,by omega,by go_num,HE⟩
       case measure=>simp [intOf];omega
      ·have hmn:(n != but)=true:=(by simpa using hmb);go_wp2_with fail
       refine HH.out.mono ?_;rintro e w8 ⟨rfl,rfl⟩
       cases hh:az me2 n with
       |true=>
        have HE:Hid (Grw W (aX but met (l.take (K+1))) _ w8):=ae (by rw [HTk.out,pT hmb hh];exact HG.out);replace hh:=ae hh;go_wp2_with fail
        go_roundw
        case rel=>exact⟨K+1,by omega,by go_num,HE⟩
        case measure=>simp [intOf];omega
       |false=>
        have HA:=ae (HTk.out.trans (qJ hmb hh));replace hh:=ae hh;go_wp2_with (at_builtin;refine wpList_append_own _ rfl (.tmp 55) (.tmp 57) 33 rfl W.heap.size 3 i0 _ 1 8 Tryz.underlying33 hi0 hz0 hz1 hz2 rfl (by decide) _ _ _ rfl (HG.out.1.alloc _) ⟨w8.heap.size,0,none⟩ 1 1 [.int .i64 n] rfl rfl aM bt (by unfold maxLen;omega) (by omega) (by simp;omega) ?_;intro v2 w2 own2 grow2 _;refine Hid.out ?_)
        have HE:Hid (Grw W (aX but met (l.take (K+1))) v2 w2):=ae (by rw [HA.out];exact HG.out.step own2 grow2);clear own2 grow2;refine ae ?_;go_wp2_with fail
        go_roundw
        case rel=>exact⟨K+1,by omega,by go_num,HE⟩
        case measure=>simp [intOf];omega
     ·obtain rfl:K=l.length:=(by omega);obtain rfl:me2=aX but met l:=HEnd.out rfl;have HG2:Hid (Grw W (aX but met l) _ wr):=HG;have HN2:Hid (fO ll.length (aX but met l)):=ae (fO.aX but _ _ HN.out HLn.out);have hge:met.length≤(aX but met l).length:=nM _ _ _;go_wp2_with fail
      go_roundw
      case rel=>exact⟨I+1,_,by omega,by go_num,HG2,HN2,HMs⟩
      case measure=>simp [intOf];omega
   ·have HE:Hid (met=iJ ll [0] but):=ae ((nR (by omega)).symm.trans HM.out);have HS:=ae s1;have HWB:=ae HG.out.2;clear s1 HG HM;go_wp2_with fail
    generalize wr=W3 at *;go_loopw [11,12] (fun v i wq=>∃K:Nat,K≤ll.length∧i= .int .i64 K∧Hid (GrB W3 (bitsOf K met) v wq)) (fun _ i _=>ll.length - (intOf i).toNat)
    case atStart=>exact⟨0,Nat.zero_le _,rfl,ae (GrB.start _)⟩
    case round=>
     obtain⟨K,hK,rfl,HB⟩:=hrel;have HWq:=ae (af HWB.out HB.out.2);have x3:=(X0.out.below HWq.out).2 3 _ rfl;have HBL:Hid ((bitsOf K met).length=K):=ae (by simp [bitsOf]);by_cases hkt:K < ll.length
     ·have hkI:(K:Int) < ll.length:=(by omega);have HH:=ae (eC met K mo mc wr (HS.out.below HB.out.2) s2);obtain⟨vo,vc,rfl⟩:=HB.out.len;go_wp2_with fail
      refine HH.out.mono ?_;rintro e w8 ⟨rfl,rfl⟩;have hWs:=HWq.out.size;have h8:=HB.out.2.size;go_wp2_with (at_builtin;refine wpList_append_own _ rfl (.tmp 66) (.tmp 70) 124 rfl W3.heap.size 4 i4 _ 1 1 Tryz.underlying124 hi4 hy0 hy1 hy2 rfl (by decide) _ _ _ rfl (HB.out.1.alloc _) ⟨w8.heap.size,0,none⟩ 1 1 [.bool (az met K)] rfl rfl aM ik (by have:=HBL.out;unfold maxLen;omega) (by have:=HBL.out;omega) (by simp;omega) ?_;intro v2 w2 own2 grow2 _;refine Hid.out ?_)
      have HE:Hid (GrB W3 (bitsOf (K+1) met) v2 w2):=ae (by rw [ou];exact HB.out.step own2 grow2);clear own2 grow2;refine ae ?_;go_wp2_with fail
      go_roundw
      case rel=>exact⟨K+1,by omega,by go_num,HE⟩
      case measure=>simp [intOf];omega
     ·obtain rfl:K=ll.length:=(by omega);go_wp2_with fail
      go_ret;refine⟨_,rfl,?_,af B0.out HWq.out⟩;have:=HB.out.1;rw [HBL.out,HE.out] at this;exact aT this (Nat.le_trans (by have:=B0.out.size;exact this) HWB.out.size)
theorem Tryz.It:(Tryz.prog.info? 124).map (fun i=>(i.zero,i.size,i.bytes))=some (some (.slice none 0 0),1,24):=by kernel_rfl
theorem iy (ll:List (List Int)) (a:Int) (K:Nat):dK ll a (K+1)=dK ll a K ++ [cd ll a K]:=by
 unfold dK;rw [List.range_succ,List.map_append];rfl
theorem yw (ll:List (List Int)) (K:Nat):kG ll (K+1)=kG ll K ++ [dK ll K ll.length]:=by
 unfold kG;rw [List.range_succ,List.map_append];rfl
theorem xR {w:World} {B n:Nat} {v:Value} {met:List Int} (h:w.ownsRow B 4 1 v n (fi (bitsOf n met))) (hn:0 < n):∃g cap,v= .slice (some ⟨g,0,none⟩) n cap∧g < w.heap.size∧∀b:Nat,b < n→w.cell? ⟨g,b,none⟩=some (.bool (az met b)):=by
 rcases dn h with ⟨_,e⟩ | ⟨g,cap,e,h1,h2,h3,h4,h5,h6⟩
 ·omega
 ·exact⟨g,cap,e,h4,fun b hb=>h5 b _ (nf (Bt hb))⟩
theorem xG {f:Fun} (hF:Ful f):∀l∈aD f,l.length≤1000000:=by
 intro l hl;obtain⟨K,hK,rfl⟩:=List.mem_iff_getElem.1 hl;have hK2:K < f.2.2.2.1.length:=by rw [←bI];exact hK
 have e:=ia hK2;rw [List.getElem?_eq_getElem hK] at e;injection e with e;rw [e];exact lx hF hK2
theorem yT (nm:List UInt8) (ps:List Int) (rt pl:Int) (bl:List (List Ins)) (ao bo:Option Addr) (c cb:Nat) (w:World)
  (hv:cg w (nm,ps,rt,bl,pl) (.agg #[.string (bs nm),.slice ao ps.length c,.int .i64 rt,.slice bo bl.length cb,.int .i64 pl])) (hF:Ful (nm,ps,rt,bl,pl)) (hgr:Gr (aD (nm,ps,rt,bl,pl))):
  Calls Tryz.prog 45 #[.agg #[.string (bs nm),.slice ao ps.length c,.int .i64 rt,.slice bo bl.length cb,.int .i64 pl]] w fun e w'=>∃v,e= .returned v∧jQ w.heap.size w' (DU (aD (nm,ps,rt,bl,pl))) v∧Below w.heap.size w w':=by
 obtain⟨i4,hi4,hy0,hy1,hy2⟩:=info_parts Tryz.DG;obtain⟨i5,hi5,hx0,hx1,hx2⟩:=info_parts Tryz.It;have b0:=ah w (.cells #[.string (bs nm),.slice ao ps.length c,.int .i64 rt,.slice bo bl.length cb,.int .i64 pl] 36);have X0:=ae (L5.Box.new w [.string (bs nm),.slice ao ps.length c,.int .i64 rt,.slice bo bl.length cb,.int .i64 pl] 36);have B0:=ae b0;have HS:=ae (yZ nm ps rt pl bl ao bo c cb _ (hv.below b0) hF);have HEl:=ae (xG hF);have hbl:bl.length≤1000000:=hF.1;have hlen:bl.length=(aD (nm,ps,rt,bl,pl)).length:=(bI (nm,ps,rt,bl,pl)).symm;have HGr:=ae hgr;clear b0 hv hF hgr;generalize aD (nm,ps,rt,bl,pl)=ll at *;generalize bl.length=N at *;subst hlen;have hpos:=HGr.out.2;go_enter Tryz.func45,Tryz.ntmps45
 go_upto_region 1 with fail
 show Code.wp _ _ _ _ (w.alloc (.cells #[.string (bs nm),.slice ao ps.length c,.int .i64 rt,.slice bo ll.length cb,.int .i64 pl] 36));replace X0:Hid (L5.Box (w.alloc (.cells #[.string (bs nm),.slice ao ps.length c,.int .i64 rt,.slice bo ll.length cb,.int .i64 pl] 36)) w.heap.size [.string (bs nm),.slice ao ps.length c,.int .i64 rt,.slice bo ll.length cb,.int .i64 pl]):=X0;generalize w.alloc (.cells #[.string (bs nm),.slice ao ps.length c,.int .i64 rt,.slice bo ll.length cb,.int .i64 pl] 36)=W at *;obtain⟨x0,x1,x2,x3,x4⟩:_∧_∧_∧_∧_:=⟨X0.out.2 0 _ rfl,X0.out.2 1 _ rfl,X0.out.2 2 _ rfl,X0.out.2 3 _ rfl,X0.out.2 4 _ rfl⟩;go_wp2_with fail
 refine HS.out.mono ?_;rintro e w1 ⟨u,rfl,hu,b1⟩;obtain⟨eo,ec,rfl,he,_,_⟩:=hu.read;have B1:=ae b1;have HEd:=ae he;clear x0 x1 x2 x3 x4 HS hu he b1;obtain⟨x0,x1,x2,x3,x4⟩:_∧_∧_∧_∧_:=⟨(X0.out.below B1.out).2 0 _ rfl,(X0.out.below B1.out).2 1 _ rfl,(X0.out.below B1.out).2 2 _ rfl,(X0.out.below B1.out).2 3 _ rfl,(X0.out.below B1.out).2 4 _ rfl⟩;have HM:=ae (vD (bs nm) rt pl (-1) ll ao bo eo ps.length c cb ec w1 HEd.out hbl HGr.out HEl.out);go_wp2_with fail
 refine HM.out.mono ?_;rintro e W2 ⟨av,rfl,hav,b2⟩;obtain⟨ga,ca,rfl,ha1,ha2⟩:=xR hav hpos;have B2:=ae (af B1.out b2);have HE2:=ae (HEd.out.below b2);have HA:=ae ha2;clear x0 x1 x2 x3 x4 HM HEd hav b2 ha2;go_wp2_with fail
 go_loopw [5,6] (fun v i wr=>∃A:Nat,A≤ll.length∧i= .int .i64 A∧Hid (jQ W2.heap.size wr (kG ll A) v)∧Hid (Below W2.heap.size W2 wr)) (fun _ i _=>ll.length - (intOf i).toNat)
 case atStart=>exact⟨0,Nat.zero_le _,rfl,ae (jQ.nil _ _),ae (Below.refl _ _)⟩
 case round=>
  obtain⟨A,hA,rfl,HR,HW⟩:=hrel;have HWW:=ae (af B2.out HW.out);obtain⟨x0,x1,x2,x3,x4⟩:_∧_∧_∧_∧_:=⟨(X0.out.below HWW.out).2 0 _ rfl,(X0.out.below HWW.out).2 1 _ rfl,(X0.out.below HWW.out).2 2 _ rfl,(X0.out.below HWW.out).2 3 _ rfl,(X0.out.below HWW.out).2 4 _ rfl⟩;by_cases hat:A < ll.length
  ·have haI:(A:Int) < ll.length:=(by omega);have HM:=ae (vD (bs nm) rt pl A ll ao bo eo ps.length c cb ec wr (HE2.out.below HW.out) hbl HGr.out HEl.out);go_wp2_with fail
   refine HM.out.mono ?_;rintro e W3 ⟨wv,rfl,hwv,b3⟩;obtain⟨gw,cw,rfl,hw1,hw2⟩:=xR hwv hpos;have HR3:=ae (HR.out.below b3);have HW3:=ae (af HW.out b3);have HB3:=ae hw2;clear x0 x1 x2 x3 x4 HM hwv b3 hw2 HR HW HWW;go_wp2_with fail
   go_loopw [8,9] (fun v i wq=>∃K:Nat,K≤ll.length∧i= .int .i64 K∧Hid (GrB W3 (dK ll A K) v wq)) (fun _ i _=>ll.length - (intOf i).toNat)
   case atStart=>exact⟨0,Nat.zero_le _,rfl,ae (GrB.start _)⟩
   case round=>
    obtain⟨K,hK,rfl,HB⟩:=hrel;have HWq:=ae (af HW3.out HB.out.2);have x3:=(X0.out.below (af B2.out HWq.out)).2 3 _ rfl;have HBL:Hid ((dK ll A K).length=K):=ae (rM _ _ _);by_cases hkt:K < ll.length
    ·have hkI:(K:Int) < ll.length:=(by omega);have cA:=(HWq.out.cell (p:=⟨ga,A,none⟩) ha1).trans (HA.out A hat);have cK:=(HWq.out.cell (p:=⟨ga,K,none⟩) ha1).trans (HA.out K hkt);have cW:=(HB.out.2.cell (p:=⟨gw,K,none⟩) hw1).trans (HB3.out K hkt);have HV:Hid (cd ll A K=(az (iJ ll [0] (-1)) A && az (iJ ll [0] (-1)) K && (decide ((A:Int)=K) || !az (iJ ll [0] A) K))):=ae rfl;obtain⟨vo,vc,rfl⟩:=HB.out.len;have hWs:=HB.out.2.size
     cases h1:az (iJ ll [0] (-1)) A with
     |false=>
      rw [h1] at cA HV;replace h1:=ae h1
      cases h2:az (iJ ll [0] (-1)) K with
      |false=>
       rw [h2] at cK HV;replace h2:=ae h2;have HVx:Hid (dK ll A (K+1)=dK ll A K ++ [false]):=ae (by rw [iy,HV.out];simp);go_wp2_with (at_builtin;refine wpList_append_own _ rfl (.tmp 33) (.tmp 56) 124 rfl W3.heap.size 4 i4 _ 1 1 Tryz.underlying124 hi4 hy0 hy1 hy2 rfl (by decide) _ _ _ rfl (HB.out.1.alloc _) ⟨wr.heap.size,0,none⟩ 1 1 [.bool false] rfl rfl aM ik (by have:=HBL.out;unfold maxLen;omega) (by have:=HBL.out;omega) (by simp;omega) ?_;intro v2 w2 own2 grow2 _;refine Hid.out ?_)
       have HE:Hid (GrB W3 (dK ll A (K+1)) v2 w2):=ae (by rw [HVx.out];exact HB.out.step own2 grow2);clear own2 grow2;refine ae ?_;go_wp2_with fail
       go_roundw
       case rel=>exact⟨K+1,by omega,by go_num,HE⟩
       case measure=>simp [intOf];omega
      |true=>
       rw [h2] at cK HV;replace h2:=ae h2;have HVx:Hid (dK ll A (K+1)=dK ll A K ++ [false]):=ae (by rw [iy,HV.out];simp);go_wp2_with (at_builtin;refine wpList_append_own _ rfl (.tmp 33) (.tmp 56) 124 rfl W3.heap.size 4 i4 _ 1 1 Tryz.underlying124 hi4 hy0 hy1 hy2 rfl (by decide) _ _ _ rfl (HB.out.1.alloc _) ⟨wr.heap.size,0,none⟩ 1 1 [.bool false] rfl rfl aM ik (by have:=HBL.out;unfold maxLen;omega) (by have:=HBL.out;omega) (by simp;omega) ?_;intro v2 w2 own2 grow2 _;refine Hid.out ?_)
       have HE:Hid (GrB W3 (dK ll A (K+1)) v2 w2):=ae (by rw [HVx.out];exact HB.out.step own2 grow2);clear own2 grow2;refine ae ?_;go_wp2_with fail
       go_roundw
       case rel=>exact⟨K+1,by omega,by go_num,HE⟩
       case measure=>simp [intOf];omega
     |true=>
      rw [h1] at cA HV;replace h1:=ae h1
      cases h2:az (iJ ll [0] (-1)) K with
      |false=>
       rw [h2] at cK HV;replace h2:=ae h2;have HVx:Hid (dK ll A (K+1)=dK ll A K ++ [false]):=ae (by rw [iy,HV.out];simp);go_wp2_with (at_builtin;refine wpList_append_own _ rfl (.tmp 33) (.tmp 56) 124 rfl W3.heap.size 4 i4 _ 1 1 Tryz.underlying124 hi4 hy0 hy1 hy2 rfl (by decide) _ _ _ rfl (HB.out.1.alloc _) ⟨wr.heap.size,0,none⟩ 1 1 [.bool false] rfl rfl aM ik (by have:=HBL.out;unfold maxLen;omega) (by have:=HBL.out;omega) (by simp;omega) ?_;intro v2 w2 own2 grow2 _;refine Hid.out ?_)
       have HE:Hid (GrB W3 (dK ll A (K+1)) v2 w2):=ae (by rw [HVx.out];exact HB.out.step own2 grow2);clear own2 grow2;refine ae ?_;go_wp2_with fail
       go_roundw
       case rel=>exact⟨K+1,by omega,by go_num,HE⟩
       case measure=>simp [intOf];omega
      |true=>
       rw [h2] at cK HV;replace h2:=ae h2;by_cases hAK:(A:Int)=K
       ·have hbe:((A:Int) == (K:Int))=true:=beq_iff_eq.2 hAK;replace hAK:=ae hAK;have HVx:Hid (dK ll A (K+1)=dK ll A K ++ [true]):=ae (by rw [iy,HV.out];simp [hAK.out]);go_wp2_with (at_builtin;refine wpList_append_own _ rfl (.tmp 33) (.tmp 56) 124 rfl W3.heap.size 4 i4 _ 1 1 Tryz.underlying124 hi4 hy0 hy1 hy2 rfl (by decide) _ _ _ rfl (HB.out.1.alloc _) ⟨wr.heap.size,0,none⟩ 1 1 [.bool true] rfl rfl aM ik (by have:=HBL.out;unfold maxLen;omega) (by have:=HBL.out;omega) (by simp;omega) ?_;intro v2 w2 own2 grow2 _;refine Hid.out ?_)
        have HE:Hid (GrB W3 (dK ll A (K+1)) v2 w2):=ae (by rw [HVx.out];exact HB.out.step own2 grow2);clear own2 grow2;refine ae ?_;go_wp2_with fail
        go_roundw
        case rel=>exact⟨K+1,by omega,by go_num,HE⟩
        case measure=>simp [intOf];omega
       ·have hbe:((A:Int) == (K:Int))=false:=beq_eq_false_iff_ne.2 hAK;replace hAK:=ae hAK;generalize az (iJ ll [0] A) K=wo at *;have HVx:Hid (dK ll A (K+1)=dK ll A K ++ [(!wo)]):=ae (by rw [iy,HV.out];simp [hAK.out]);go_wp2_with (at_builtin;refine wpList_append_own _ rfl (.tmp 33) (.tmp 56) 124 rfl W3.heap.size 4 i4 _ 1 1 Tryz.underlying124 hi4 hy0 hy1 hy2 rfl (by decide) _ _ _ rfl (HB.out.1.alloc _) ⟨wr.heap.size,0,none⟩ 1 1 [.bool (!wo)] rfl rfl aM ik (by have:=HBL.out;unfold maxLen;omega) (by have:=HBL.out;omega) (by simp;omega) ?_;intro v2 w2 own2 grow2 _;refine Hid.out ?_)
        have HE:Hid (GrB W3 (dK ll A (K+1)) v2 w2):=ae (by rw [HVx.out];exact HB.out.step own2 grow2);clear own2 grow2;refine ae ?_;go_wp2_with fail
        go_roundw
        case rel=>exact⟨K+1,by omega,by go_num,HE⟩
        case measure=>simp [intOf];omega
    ·obtain rfl:K=ll.length:=(by omega);have HLT:Hid ((kG ll A).length=A):=ae (rT _ _);have HRq:=ae (HR3.out.below HB.out.2);obtain⟨us,ho,hus⟩:=HRq.out;have HO:=ae ho;have HUS:=ae hus;have HU:=ae (aT HB.out.1 HW3.out.size);obtain⟨vo,vc,rfl⟩:=HB.out.len;obtain⟨to,tc,rfl⟩:=HR3.out.len;have hWs:=HWq.out.size;clear ho hus;go_wp2_with (at_builtin;refine wpList_append_own _ rfl (.tmp 58) (.tmp 60) 80 rfl W2.heap.size 124 i5 _ 1 24 Tryz.underlying80 hi5 hx0 hx1 hx2 rfl (by decide) _ _ _ rfl (HO.out.alloc _) ⟨wr.heap.size,0,none⟩ 1 1 [.slice vo (dK ll A ll.length).length vc] rfl rfl aM (tQ rfl) (by have:=HLT.out;unfold maxLen;omega) (by have:=HLT.out;omega) (by simp;omega) ?_;intro v2 w2 own2 grow2 _;refine Hid.out ?_)
     have HE:Hid (jQ W2.heap.size w2 (kG ll (A+1)) v2):=ae (by
      rw [yw];exact jQ.step HO.out HUS.out HU.out own2 grow2)
     have HW2:Hid (Below W2.heap.size W2 w2):=ae (by
      refine Below.grown (HWq.out.alloc HWq.out.size _) grow2 (by simp;omega) ?_;intro k hk;exact(HO.out.lt k hk).1)
     clear own2 grow2;refine ae ?_;go_wp2_with fail
     go_roundw
     case rel=>exact⟨A+1,by omega,by go_num,HE,HW2⟩
     case measure=>simp [intOf];omega
  ·obtain rfl:A=ll.length:=(by omega);have HE2:=ae (HR.out.base (Nat.le_trans B0.out.size B2.out.size));go_wp2_with fail
   go_ret;exact⟨_,rfl,HE2.out,af B0.out HWW.out⟩
theorem Cs {ll:List (List Int)} (h:Gr ll) {a b:Int} (hab:¬(0≤a∧a < ll.length∧0≤b∧b < ll.length)):cd ll a b=false:=by
 rw [pE h];intro k;have h1:=k.1.num h;have h2:=k.2.1.num h;exact hab ⟨h1.1,h1.2,h2.1,h2.2⟩
theorem yk (ll:List (List Int)) (a b:Int) (v:Value) (w:World) (hv:zf w ll v) (hg:Gr ll):
  Calls Tryz.prog 84 #[v,.int .i64 a,.int .i64 b] w fun e w'=>e= .returned (.bool (cd ll a b))∧w'=w:=by
 obtain⟨tb,to,tc,rfl,h1,h2⟩:=hv;have H2:=ae h2;have HLow:=ae (fun h=>Cs (a:=a) (b:=b) hg h);clear h2 hg;by_cases ha0:a < 0
 ·have HE:=ae (HLow.out (by omega));rw [HE.out];go_enter Tryz.func84,Tryz.ntmps84
  go_wp2_with fail
  go_ret;exact⟨rfl,rfl⟩
 by_cases hb0:b < 0
 ·have HE:=ae (HLow.out (by omega));rw [HE.out];go_enter Tryz.func84,Tryz.ntmps84
  go_wp2_with fail
  go_ret;exact⟨rfl,rfl⟩
 obtain⟨A,rfl⟩:∃A:Nat,a=(A:Int):=⟨a.toNat,by omega⟩;obtain⟨K,rfl⟩:∃K:Nat,b=(K:Int):=⟨b.toNat,by omega⟩;by_cases ha1:(ll.length:Int)≤A
 ·have HE:=ae (HLow.out (by omega));rw [HE.out];go_enter Tryz.func84,Tryz.ntmps84
  go_wp2_with fail
  go_ret;exact⟨rfl,rfl⟩
 by_cases hb1:(ll.length:Int)≤K
 ·have HE:=ae (HLow.out (by omega));rw [HE.out];go_enter Tryz.func84,Tryz.ntmps84
  go_wp2_with fail
  go_ret;exact⟨rfl,rfl⟩
 have hAl:A < ll.length:=by omega
 have hKl:K < ll.length:=by omega
 have hAI:(A:Int) < ll.length:=by omega
 have hKI:(K:Int) < ll.length:=by omega
 obtain⟨lb,lo,lc,k1,k2,k3⟩:=H2.out A hAl;have k4:=k3 K hKl;clear k3 H2 HLow;go_enter Tryz.func84,Tryz.ntmps84
 go_wp2_with fail
 go_ret;exact⟨rfl,rfl⟩
open Mix (Up)
theorem o7 (f:Fun) (v:Value) (w:World) (hv:cg w f v) (hF:Ful f):
  Calls Tryz.prog 78 #[v] w fun e w'=>∃u,e= .returned u∧Below w.heap.size w w'∧fL w' (aK f) u:=by
 obtain⟨nm,ps,rt,bl,pl⟩:=f;have hv2:=hv;obtain⟨vp,vb,rfl,⟨ao,c,rfl,h1,_⟩,h2⟩:=hv;obtain⟨bo,cb,rfl,_⟩:=h2;exact(xZ nm ps rt pl bl ao bo c cb w hv2 hF).mono fun e w' ⟨u,he,h,b⟩=>⟨u,he,b,h.read⟩
end Go.Proofs.YtljkgcfnoegibaaGreatDoor
