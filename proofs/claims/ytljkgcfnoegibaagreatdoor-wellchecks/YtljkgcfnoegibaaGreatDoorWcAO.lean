/- Texts of one chain, joined. -/
import Derived.Test.YtljkgcfnoegibaaGreatDoorWcAK
import Derived.Test.YtljkgcfnoegibaaGreatDoorWcAM
import Derived.Test.YtljkgcfnoegibaaGreatDoorWcAN
import Derived.Laws.OwnMore
set_option maxHeartbeats 8000000
set_option maxRecDepth 20000
namespace Go.Proofs.YtljkgcfnoegibaaGreatDoor
open Go Go.RowKit
open G (Tok Er Ins Fun)
theorem Tryz.info124:(Tryz.prog.info? 124).map (fun i=>(i.zero,i.size,i.bytes))=some (some (.slice none 0 0),1,24):=by kernel_rfl
def rowTo (ll:List (List Int)) (a:Int) (K:Nat):List Bool:=(List.range K).map fun(b:Nat)=>aheadB ll a b
def tabTo (ll:List (List Int)) (K:Nat):List (List Bool):=(List.range K).map fun(a:Nat)=>rowTo ll a ll.length
def tabOf (ll:List (List Int)):List (List Bool):=tabTo ll ll.length
theorem rowTo_succ (ll:List (List Int)) (a:Int) (K:Nat):rowTo ll a (K+1)=rowTo ll a K ++ [aheadB ll a K]:=by
 unfold rowTo;rw [List.range_succ,List.map_append];rfl
theorem rowTo_len (ll:List (List Int)) (a:Int) (K:Nat):(rowTo ll a K).length=K:=by simp [rowTo]
theorem rowTo_at {ll:List (List Int)} {a:Int} {K b:Nat} (h:b < K):(rowTo ll a K)[b]? =some (aheadB ll a b):=by
 unfold rowTo;rw [List.getElem?_map,List.getElem?_range h];rfl
theorem tabTo_succ (ll:List (List Int)) (K:Nat):tabTo ll (K+1)=tabTo ll K ++ [rowTo ll K ll.length]:=by
 unfold tabTo;rw [List.range_succ,List.map_append];rfl
theorem tabTo_len (ll:List (List Int)) (K:Nat):(tabTo ll K).length=K:=by simp [tabTo]
theorem tabTo_at {ll:List (List Int)} {K a:Nat} (h:a < K):(tabTo ll K)[a]? =some (rowTo ll a ll.length):=by
 unfold tabTo;rw [List.getElem?_map,List.getElem?_range h];rfl
def TabO (B:Nat) (w:World) (t:List (List Bool)) (v:Value):Prop:=∃us:List Value,w.ownsRow B 124 1 v t.length us∧us.length=t.length∧∀(i:Nat) (l:List Bool),t[i]? =some l→∃u,us[i]? =some u∧w.ownsRow B 4 1 u l.length (bools l)
theorem TabO.nil (B:Nat) (w:World):TabO B w [] (.slice none 0 0):=⟨[],World.ownsRow_nil _ _ _ _,rfl,fun i l h=>by simp at h⟩
theorem TabO.below {B:Nat} {w w':World} {t:List (List Bool)} {v:Value} (h:TabO B w t v) (b:Below w.heap.size w w'):TabO B w' t v:=by
 obtain⟨us,h1,h2,h3⟩:=h
 refine⟨us,own_below b B _ _ _ _ _ h1,h2,fun i l hl=> ?_⟩
 obtain⟨u,k1,k2⟩:=h3 i l hl
 exact⟨u,k1,own_below b B _ _ _ _ _ k2⟩
theorem TabO.base {B B':Nat} {w:World} {t:List (List Bool)} {v:Value} (h:TabO B w t v) (hB:B'≤B):TabO B' w t v:=by
 obtain⟨us,h1,h2,h3⟩:=h
 refine⟨us,own_base h1 hB,h2,fun i l hl=> ?_⟩
 obtain⟨u,k1,k2⟩:=h3 i l hl
 exact⟨u,k1,own_base k2 hB⟩
theorem TabO.len {B:Nat} {w:World} {t:List (List Bool)} {v:Value} (h:TabO B w t v):∃ao c,v= .slice ao t.length c:=by
 obtain⟨us,h1,_⟩:=h
 exact own_len h1
theorem TabO.step {B:Nat} {wr w2:World} {t:List (List Bool)} {l:List Bool} {v v' u:Value} {us:List Value} {o:Obj} (h1:wr.ownsRow B 124 1 v t.length us)
  (h:us.length=t.length∧∀(i:Nat) (l:List Bool),t[i]? =some l→∃u,us[i]? =some u∧wr.ownsRow B 4 1 u l.length (bools l)) (hu:wr.ownsRow B 4 1 u l.length (bools l))
  (own:w2.ownsRow B 124 1 v' (t.length+1) (us ++ [u])) (hg:(wr.alloc o).grownBy w2 v.ownBlock):TabO B w2 (t ++ [l]) v':=by
 obtain⟨h2,h3⟩:=h
 refine⟨us ++ [u],by simpa using own,by simp [h2],fun i m hm=> ?_⟩
 have other:∀(x:Value) (n:Nat) (xs:List Value),wr.ownsRow B 4 1 x n xs→w2.ownsRow B 4 1 x n xs:=fun x n xs hx=>own_other hg (h1.alloc o) (by decide) x n xs (hx.alloc o)
 by_cases hi:i < t.length
 ·rw [List.getElem?_append_left hi] at hm
  obtain⟨y,k1,k2⟩:=h3 i m hm
  exact⟨y,by rw [List.getElem?_append_left (by omega)];exact k1,other _ _ _ k2⟩
 ·rw [List.getElem?_append_right (by omega)] at hm
  have hi2:i - t.length=0:=by
   have:=(List.getElem?_eq_some_iff.1 hm).1
   simp at this
   omega
  rw [hi2] at hm
  simp at hm
  subst hm
  exact⟨u,by rw [List.getElem?_append_right (by omega),h2,hi2];rfl,other _ _ _ hu⟩
theorem own_bits {w:World} {B n:Nat} {v:Value} {met:List Int} (h:w.ownsRow B 4 1 v n (bools (bitsOf n met))) (hn:0 < n):∃g cap,v= .slice (some ⟨g,0,none⟩) n cap∧g < w.heap.size∧∀b:Nat,b < n→w.cell? ⟨g,b,none⟩=some (.bool (hasL met b)):=by
 rcases own_view h with ⟨_,e⟩ | ⟨g,cap,e,h1,h2,h3,h4,h5,h6⟩
 ·omega
 ·exact⟨g,cap,e,h4,fun b hb=>h5 b _ (bools_at (bitsOf_at hb))⟩
theorem succs_small {f:Fun} (hF:Ful f):∀l∈succsF f,l.length≤1000000:=by
 intro l hl
 obtain⟨K,hK,rfl⟩:=List.mem_iff_getElem.1 hl
 have hK2:K < f.2.2.2.1.length:=by rw [←succsF_len];exact hK
 have e:=succsF_at hK2
 rw [List.getElem?_eq_getElem hK] at e
 injection e with e
 rw [e]
 exact nextF_len hF hK2
theorem rtable_try (nm:List UInt8) (ps:List Int) (rt pl:Int) (bl:List (List Ins)) (ao bo:Option Addr) (c cb:Nat) (w:World)
  (hv:FunV w (nm,ps,rt,bl,pl) (.agg #[.string (bs nm),.slice ao ps.length c,.int .i64 rt,.slice bo bl.length cb,.int .i64 pl])) (hF:Ful (nm,ps,rt,bl,pl)) (hgr:Gr (succsF (nm,ps,rt,bl,pl))):
  Calls Tryz.prog 45 #[.agg #[.string (bs nm),.slice ao ps.length c,.int .i64 rt,.slice bo bl.length cb,.int .i64 pl]] w fun e w'=>∃v,e= .returned v∧TabO w.heap.size w' (tabOf (succsF (nm,ps,rt,bl,pl))) v∧Below w.heap.size w w':=by
 obtain⟨i4,hi4,hy0,hy1,hy2⟩:=info_parts Tryz.info4
 obtain⟨i5,hi5,hx0,hx1,hx2⟩:=info_parts Tryz.info124
 have b0:=below_box w (.cells #[.string (bs nm),.slice ao ps.length c,.int .i64 rt,.slice bo bl.length cb,.int .i64 pl] 36)
 have X0:=hide (L5.Box.new w [.string (bs nm),.slice ao ps.length c,.int .i64 rt,.slice bo bl.length cb,.int .i64 pl] 36)
 have B0:=hide b0
 have HS:=hide (rsuccs_try nm ps rt pl bl ao bo c cb _ (hv.below b0) hF)
 have HEl:=hide (succs_small hF)
 have hbl:bl.length≤1000000:=hF.1
 have hlen:bl.length=(succsF (nm,ps,rt,bl,pl)).length:=(succsF_len (nm,ps,rt,bl,pl)).symm
 have HGr:=hide hgr
 clear b0 hv hF hgr
 generalize succsF (nm,ps,rt,bl,pl)=ll at *
 generalize bl.length=N at *
 subst hlen
 have hpos:=HGr.out.2
 go_enter Tryz.func45,Tryz.ntmps45
 go_upto_region 1 with fail
 show Code.wp _ _ _ _ (w.alloc (.cells #[.string (bs nm),.slice ao ps.length c,.int .i64 rt,.slice bo ll.length cb,.int .i64 pl] 36))
 replace X0:Hid (L5.Box (w.alloc (.cells #[.string (bs nm),.slice ao ps.length c,.int .i64 rt,.slice bo ll.length cb,.int .i64 pl] 36)) w.heap.size [.string (bs nm),.slice ao ps.length c,.int .i64 rt,.slice bo ll.length cb,.int .i64 pl]):=X0
 generalize w.alloc (.cells #[.string (bs nm),.slice ao ps.length c,.int .i64 rt,.slice bo ll.length cb,.int .i64 pl] 36)=W at *
 obtain⟨x0,x1,x2,x3,x4⟩:_∧_∧_∧_∧_:=⟨X0.out.2 0 _ rfl,X0.out.2 1 _ rfl,X0.out.2 2 _ rfl,X0.out.2 3 _ rfl,X0.out.2 4 _ rfl⟩
 go_wp2_with fail
 refine HS.out.mono ?_;rintro e w1 ⟨u,rfl,hu,b1⟩
 obtain⟨eo,ec,rfl,he,_,_⟩:=hu.read
 have B1:=hide b1
 have HEd:=hide he
 clear x0 x1 x2 x3 x4 HS hu he b1
 obtain⟨x0,x1,x2,x3,x4⟩:_∧_∧_∧_∧_:=⟨(X0.out.below B1.out).2 0 _ rfl,(X0.out.below B1.out).2 1 _ rfl,(X0.out.below B1.out).2 2 _ rfl,(X0.out.below B1.out).2 3 _ rfl,(X0.out.below B1.out).2 4 _ rfl⟩
 have HM:=hide (rmet_any (bs nm) rt pl (-1) ll ao bo eo ps.length c cb ec w1 HEd.out hbl HGr.out HEl.out)
 go_wp2_with fail
 refine HM.out.mono ?_;rintro e W2 ⟨av,rfl,hav,b2⟩
 obtain⟨ga,ca,rfl,ha1,ha2⟩:=own_bits hav hpos
 have B2:=hide (below_step B1.out b2)
 have HE2:=hide (HEd.out.below b2)
 have HA:=hide ha2
 clear x0 x1 x2 x3 x4 HM HEd hav b2 ha2
 go_wp2_with fail
 go_loopw [5,6] (fun v i wr=>∃A:Nat,A≤ll.length∧i= .int .i64 A∧Hid (TabO W2.heap.size wr (tabTo ll A) v)∧Hid (Below W2.heap.size W2 wr)) (fun _ i _=>ll.length - (intOf i).toNat)
 case atStart=>exact⟨0,Nat.zero_le _,rfl,hide (TabO.nil _ _),hide (Below.refl _ _)⟩
 case round=>
  obtain⟨A,hA,rfl,HR,HW⟩:=hrel
  have HWW:=hide (below_step B2.out HW.out)
  obtain⟨x0,x1,x2,x3,x4⟩:_∧_∧_∧_∧_:=⟨(X0.out.below HWW.out).2 0 _ rfl,(X0.out.below HWW.out).2 1 _ rfl,(X0.out.below HWW.out).2 2 _ rfl,(X0.out.below HWW.out).2 3 _ rfl,(X0.out.below HWW.out).2 4 _ rfl⟩
  by_cases hat:A < ll.length
  ·have haI:(A:Int) < ll.length:=by omega
   have HM:=hide (rmet_any (bs nm) rt pl A ll ao bo eo ps.length c cb ec wr (HE2.out.below HW.out) hbl HGr.out HEl.out)
   go_wp2_with fail
   refine HM.out.mono ?_;rintro e W3 ⟨wv,rfl,hwv,b3⟩
   obtain⟨gw,cw,rfl,hw1,hw2⟩:=own_bits hwv hpos
   have HR3:=hide (HR.out.below b3)
   have HW3:=hide (below_step HW.out b3)
   have HB3:=hide hw2
   clear x0 x1 x2 x3 x4 HM hwv b3 hw2 HR HW HWW
   go_wp2_with fail
   go_loopw [8,9] (fun v i wq=>∃K:Nat,K≤ll.length∧i= .int .i64 K∧Hid (GrB W3 (rowTo ll A K) v wq)) (fun _ i _=>ll.length - (intOf i).toNat)
   case atStart=>exact⟨0,Nat.zero_le _,rfl,hide (GrB.start _)⟩
   case round=>
    obtain⟨K,hK,rfl,HB⟩:=hrel
    have HWq:=hide (below_step HW3.out HB.out.2)
    have x3:=(X0.out.below (below_step B2.out HWq.out)).2 3 _ rfl
    have HBL:Hid ((rowTo ll A K).length=K):=hide (rowTo_len _ _ _)
    by_cases hkt:K < ll.length
    ·have hkI:(K:Int) < ll.length:=by omega
     have cA:=(HWq.out.cell (p:=⟨ga,A,none⟩) ha1).trans (HA.out A hat)
     have cK:=(HWq.out.cell (p:=⟨ga,K,none⟩) ha1).trans (HA.out K hkt)
     have cW:=(HB.out.2.cell (p:=⟨gw,K,none⟩) hw1).trans (HB3.out K hkt)
     have HV:Hid (aheadB ll A K=(hasL (metE ll [0] (-1)) A && hasL (metE ll [0] (-1)) K && (decide ((A:Int)=K) || !hasL (metE ll [0] A) K))):=hide rfl
     obtain⟨vo,vc,rfl⟩:=HB.out.len
     have hWs:=HB.out.2.size
     cases h1:hasL (metE ll [0] (-1)) A with
     |false=>
      rw [h1] at cA HV
      replace h1:=hide h1
      cases h2:hasL (metE ll [0] (-1)) K with
      |false=>
       rw [h2] at cK HV
       replace h2:=hide h2
       have HVx:Hid (rowTo ll A (K+1)=rowTo ll A K ++ [false]):=hide (by rw [rowTo_succ,HV.out];simp)
       go_wp2_with (at_builtin;refine wpList_append_own _ rfl (.tmp 33) (.tmp 56) 124 rfl W3.heap.size 4 i4 _ 1 1 Tryz.underlying124 hi4 hy0 hy1 hy2 rfl (by decide) _ _ _ rfl (HB.out.1.alloc _) ⟨wr.heap.size,0,none⟩ 1 1 [.bool false] rfl rfl one_cell one_oneB (by have:=HBL.out;unfold maxLen;omega) (by have:=HBL.out;omega) (by simp;omega) ?_;intro v2 w2 own2 grow2 _;refine Hid.out ?_)
       have HE:Hid (GrB W3 (rowTo ll A (K+1)) v2 w2):=hide (by rw [HVx.out];exact HB.out.step own2 grow2)
       clear own2 grow2
       refine hide ?_
       go_wp2_with fail
       go_roundw
       case rel=>exact⟨K+1,by omega,by go_num,HE⟩
       case measure=>simp [intOf];omega
      |true=>
       rw [h2] at cK HV
       replace h2:=hide h2
       have HVx:Hid (rowTo ll A (K+1)=rowTo ll A K ++ [false]):=hide (by rw [rowTo_succ,HV.out];simp)
       go_wp2_with (at_builtin;refine wpList_append_own _ rfl (.tmp 33) (.tmp 56) 124 rfl W3.heap.size 4 i4 _ 1 1 Tryz.underlying124 hi4 hy0 hy1 hy2 rfl (by decide) _ _ _ rfl (HB.out.1.alloc _) ⟨wr.heap.size,0,none⟩ 1 1 [.bool false] rfl rfl one_cell one_oneB (by have:=HBL.out;unfold maxLen;omega) (by have:=HBL.out;omega) (by simp;omega) ?_;intro v2 w2 own2 grow2 _;refine Hid.out ?_)
       have HE:Hid (GrB W3 (rowTo ll A (K+1)) v2 w2):=hide (by rw [HVx.out];exact HB.out.step own2 grow2)
       clear own2 grow2
       refine hide ?_
       go_wp2_with fail
       go_roundw
       case rel=>exact⟨K+1,by omega,by go_num,HE⟩
       case measure=>simp [intOf];omega
     |true=>
      rw [h1] at cA HV
      replace h1:=hide h1
      cases h2:hasL (metE ll [0] (-1)) K with
      |false=>
       rw [h2] at cK HV
       replace h2:=hide h2
       have HVx:Hid (rowTo ll A (K+1)=rowTo ll A K ++ [false]):=hide (by rw [rowTo_succ,HV.out];simp)
       go_wp2_with (at_builtin;refine wpList_append_own _ rfl (.tmp 33) (.tmp 56) 124 rfl W3.heap.size 4 i4 _ 1 1 Tryz.underlying124 hi4 hy0 hy1 hy2 rfl (by decide) _ _ _ rfl (HB.out.1.alloc _) ⟨wr.heap.size,0,none⟩ 1 1 [.bool false] rfl rfl one_cell one_oneB (by have:=HBL.out;unfold maxLen;omega) (by have:=HBL.out;omega) (by simp;omega) ?_;intro v2 w2 own2 grow2 _;refine Hid.out ?_)
       have HE:Hid (GrB W3 (rowTo ll A (K+1)) v2 w2):=hide (by rw [HVx.out];exact HB.out.step own2 grow2)
       clear own2 grow2
       refine hide ?_
       go_wp2_with fail
       go_roundw
       case rel=>exact⟨K+1,by omega,by go_num,HE⟩
       case measure=>simp [intOf];omega
      |true=>
       rw [h2] at cK HV
       replace h2:=hide h2
       by_cases hAK:(A:Int)=K
       ·have hbe:((A:Int) == (K:Int))=true:=beq_iff_eq.2 hAK
        replace hAK:=hide hAK
        have HVx:Hid (rowTo ll A (K+1)=rowTo ll A K ++ [true]):=hide (by rw [rowTo_succ,HV.out];simp [hAK.out])
        go_wp2_with (at_builtin;refine wpList_append_own _ rfl (.tmp 33) (.tmp 56) 124 rfl W3.heap.size 4 i4 _ 1 1 Tryz.underlying124 hi4 hy0 hy1 hy2 rfl (by decide) _ _ _ rfl (HB.out.1.alloc _) ⟨wr.heap.size,0,none⟩ 1 1 [.bool true] rfl rfl one_cell one_oneB (by have:=HBL.out;unfold maxLen;omega) (by have:=HBL.out;omega) (by simp;omega) ?_;intro v2 w2 own2 grow2 _;refine Hid.out ?_)
        have HE:Hid (GrB W3 (rowTo ll A (K+1)) v2 w2):=hide (by rw [HVx.out];exact HB.out.step own2 grow2)
        clear own2 grow2
        refine hide ?_
        go_wp2_with fail
        go_roundw
        case rel=>exact⟨K+1,by omega,by go_num,HE⟩
        case measure=>simp [intOf];omega
       ·have hbe:((A:Int) == (K:Int))=false:=beq_eq_false_iff_ne.2 hAK
        replace hAK:=hide hAK
        generalize hasL (metE ll [0] A) K=wo at *
        have HVx:Hid (rowTo ll A (K+1)=rowTo ll A K ++ [(!wo)]):=hide (by rw [rowTo_succ,HV.out];simp [hAK.out])
        go_wp2_with (at_builtin;refine wpList_append_own _ rfl (.tmp 33) (.tmp 56) 124 rfl W3.heap.size 4 i4 _ 1 1 Tryz.underlying124 hi4 hy0 hy1 hy2 rfl (by decide) _ _ _ rfl (HB.out.1.alloc _) ⟨wr.heap.size,0,none⟩ 1 1 [.bool (!wo)] rfl rfl one_cell one_oneB (by have:=HBL.out;unfold maxLen;omega) (by have:=HBL.out;omega) (by simp;omega) ?_;intro v2 w2 own2 grow2 _;refine Hid.out ?_)
        have HE:Hid (GrB W3 (rowTo ll A (K+1)) v2 w2):=hide (by rw [HVx.out];exact HB.out.step own2 grow2)
        clear own2 grow2
        refine hide ?_
        go_wp2_with fail
        go_roundw
        case rel=>exact⟨K+1,by omega,by go_num,HE⟩
        case measure=>simp [intOf];omega
    ·obtain rfl:K=ll.length:=by omega
     have HLT:Hid ((tabTo ll A).length=A):=hide (tabTo_len _ _)
     have HRq:=hide (HR3.out.below HB.out.2)
     obtain⟨us,ho,hus⟩:=HRq.out
     have HO:=hide ho
     have HUS:=hide hus
     have HU:=hide (own_base HB.out.1 HW3.out.size)
     obtain⟨vo,vc,rfl⟩:=HB.out.len
     obtain⟨to,tc,rfl⟩:=HR3.out.len
     have hWs:=HWq.out.size
     clear ho hus
     go_wp2_with (at_builtin;refine wpList_append_own _ rfl (.tmp 58) (.tmp 60) 80 rfl W2.heap.size 124 i5 _ 1 24 Tryz.underlying80 hi5 hx0 hx1 hx2 rfl (by decide) _ _ _ rfl (HO.out.alloc _) ⟨wr.heap.size,0,none⟩ 1 1 [.slice vo (rowTo ll A ll.length).length vc] rfl rfl one_cell (one_any rfl) (by have:=HLT.out;unfold maxLen;omega) (by have:=HLT.out;omega) (by simp;omega) ?_;intro v2 w2 own2 grow2 _;refine Hid.out ?_)
     have HE:Hid (TabO W2.heap.size w2 (tabTo ll (A+1)) v2):=hide (by
      rw [tabTo_succ]
      exact TabO.step HO.out HUS.out HU.out own2 grow2)
     have HW2:Hid (Below W2.heap.size W2 w2):=hide (by
      refine Below.grown (HWq.out.alloc HWq.out.size _) grow2 (by simp;omega) ?_
      intro k hk
      exact(HO.out.lt k hk).1)
     clear own2 grow2
     refine hide ?_
     go_wp2_with fail
     go_roundw
     case rel=>exact⟨A+1,by omega,by go_num,HE,HW2⟩
     case measure=>simp [intOf];omega
  ·obtain rfl:A=ll.length:=by omega
   have HE2:=hide (HR.out.base (Nat.le_trans B0.out.size B2.out.size))
   go_wp2_with fail
   go_ret
   exact⟨_,rfl,HE2.out,below_step B0.out HWW.out⟩
def TabL (w:World) (ll:List (List Int)) (v:Value):Prop:=∃b o c,v= .slice (some ⟨b,o,none⟩) ll.length c∧b < w.heap.size∧∀i:Nat,i < ll.length→∃lb lo lc,w.cell? ⟨b,o+i,none⟩=some (.slice (some ⟨lb,lo,none⟩) ll.length lc)∧lb < w.heap.size∧
 ∀j:Nat,j < ll.length→w.cell? ⟨lb,lo+j,none⟩=some (.bool (aheadB ll i j))
theorem TabL.below {w w':World} {ll:List (List Int)} {v:Value} (h:TabL w ll v) (hb:Below w.heap.size w w'):TabL w' ll v:=by
 obtain⟨b,o,c,e,h1,h2⟩:=h
 refine⟨b,o,c,e,Nat.lt_of_lt_of_le h1 hb.size,fun i hi=> ?_⟩
 obtain⟨lb,lo,lc,k1,k2,k3⟩:=h2 i hi
 exact⟨lb,lo,lc,(hb.cell (p:=⟨b,o+i,none⟩) h1).trans k1,Nat.lt_of_lt_of_le k2 hb.size,fun j hj=>(hb.cell (p:=⟨lb,lo+j,none⟩) k2).trans (k3 j hj)⟩
theorem TabO.read {B:Nat} {w:World} {ll:List (List Int)} {v:Value} (h:TabO B w (tabOf ll) v) (hn:0 < ll.length):TabL w ll v:=by
 obtain⟨us,h1,h2,h3⟩:=h
 have hl:(tabOf ll).length=ll.length:=tabTo_len _ _
 rw [hl] at h1
 rcases own_view h1 with ⟨_,e⟩ | ⟨g,cap,e,k1,k2,k3,k4,k5,k6⟩
 ·omega
 refine⟨g,0,cap,e,k4,fun i hi=> ?_⟩
 obtain⟨u,q1,q2⟩:=h3 i _ (tabTo_at hi)
 rw [rowTo_len] at q2
 rcases own_view q2 with ⟨_,e⟩ | ⟨g2,cap2,e2,m1,m2,m3,m4,m5,m6⟩
 ·omega
 refine⟨g2,0,cap2,by rw [Nat.zero_add,k5 i u q1,e2],m4,fun j hj=> ?_⟩
 rw [Nat.zero_add]
 exact m5 j _ (bools_at (rowTo_at hj))
theorem ahead_low {ll:List (List Int)} (h:Gr ll) {a b:Int} (hab:¬(0≤a∧a < ll.length∧0≤b∧b < ll.length)):aheadB ll a b=false:=by
 rw [ahead_no h]
 intro k
 have h1:=k.1.num h
 have h2:=k.2.1.num h
 exact hab ⟨h1.1,h1.2,h2.1,h2.2⟩
theorem rahead_any (ll:List (List Int)) (a b:Int) (v:Value) (w:World) (hv:TabL w ll v) (hg:Gr ll):
  Calls Tryz.prog 84 #[v,.int .i64 a,.int .i64 b] w fun e w'=>e= .returned (.bool (aheadB ll a b))∧w'=w:=by
 obtain⟨tb,to,tc,rfl,h1,h2⟩:=hv
 have H2:=hide h2
 have HLow:=hide (fun h=>ahead_low (a:=a) (b:=b) hg h)
 clear h2 hg
 by_cases ha0:a < 0
 ·have HE:=hide (HLow.out (by omega))
  rw [HE.out]
  go_enter Tryz.func84,Tryz.ntmps84
  go_wp2_with fail
  go_ret
  exact⟨rfl,rfl⟩
 by_cases hb0:b < 0
 ·have HE:=hide (HLow.out (by omega))
  rw [HE.out]
  go_enter Tryz.func84,Tryz.ntmps84
  go_wp2_with fail
  go_ret
  exact⟨rfl,rfl⟩
 obtain⟨A,rfl⟩:∃A:Nat,a=(A:Int):=⟨a.toNat,by omega⟩
 obtain⟨K,rfl⟩:∃K:Nat,b=(K:Int):=⟨b.toNat,by omega⟩
 by_cases ha1:(ll.length:Int)≤A
 ·have HE:=hide (HLow.out (by omega))
  rw [HE.out]
  go_enter Tryz.func84,Tryz.ntmps84
  go_wp2_with fail
  go_ret
  exact⟨rfl,rfl⟩
 by_cases hb1:(ll.length:Int)≤K
 ·have HE:=hide (HLow.out (by omega))
  rw [HE.out]
  go_enter Tryz.func84,Tryz.ntmps84
  go_wp2_with fail
  go_ret
  exact⟨rfl,rfl⟩
 have hAl:A < ll.length:=by omega
 have hKl:K < ll.length:=by omega
 have hAI:(A:Int) < ll.length:=by omega
 have hKI:(K:Int) < ll.length:=by omega
 obtain⟨lb,lo,lc,k1,k2,k3⟩:=H2.out A hAl
 have k4:=k3 K hKl
 clear k3 H2 HLow
 go_enter Tryz.func84,Tryz.ntmps84
 go_wp2_with fail
 go_ret
 exact⟨rfl,rfl⟩
theorem cntB_max (p:Nat→Bool):∀n,cntB p n≤n:=by
 intro n
 induction n with
 |zero=>exact Nat.le_refl _
 |succ n ih=>
  rw [cntB_succ]
  split <;> omega
theorem depth_max (ll:List (List Int)) (b:Int):depthB ll b≤ll.length:=cntB_max _ _
def firstQ (p:Nat→Bool):Nat→Int
 |0=> -1
 |n+1=>if 0≤firstQ p n then firstQ p n else if p n then n else -1
theorem firstQ_none {p:Nat→Bool}:∀n,(∀j,j < n→p j=false)→firstQ p n= -1:=by
 intro n
 induction n with
 |zero=>intro _;rfl
 |succ n ih=>
  intro h
  have h1:=ih (fun j hj=>h j (by omega))
  simp [firstQ,h1,h n (by omega)]
theorem firstQ_some {p:Nat→Bool} {K:Nat} (hp:p K=true) (h0:∀j,j < K→p j=false):∀n,K < n→firstQ p n=K:=by
 intro n
 induction n with
 |zero=>intro h;omega
 |succ n ih=>
  intro h
  by_cases e:K=n
  ·subst e
   have h1:=firstQ_none K h0
   simp [firstQ,h1,hp]
  ·have h1:=ih (by omega)
   simp [firstQ,h1]
def isUpB (ll:List (List Int)) (b:Int) (a:Nat):Bool:=decide ((a:Int)≠b) && aheadB ll a b && decide (depthB ll a+1=depthB ll b)
def upB (ll:List (List Int)) (b:Int):Int:=firstQ (isUpB ll b) ll.length
theorem firstQ_spec {p:Nat→Bool}:∀n,0≤firstQ p n→p (firstQ p n).toNat=true∧firstQ p n < n:=by
 intro n
 induction n with
 |zero=>intro h;simp [firstQ] at h
 |succ n ih=>
  intro h
  by_cases h0:0≤firstQ p n
  ·have e:firstQ p (n+1)=firstQ p n:=by simp [firstQ,h0]
   rw [e]
   have:=ih h0
   exact⟨this.1,by omega⟩
  ·cases hp:p n with
   |true=>
    have e:firstQ p (n+1)=n:=by simp [firstQ,h0,hp]
    rw [e]
    exact⟨by simpa using hp,by omega⟩
   |false=>
    have e:firstQ p (n+1)= -1:=by simp [firstQ,h0,hp]
    rw [e] at h
    omega
theorem upB_is {ll:List (List Int)} (h:Gr ll) {b:Int} (h0:0≤upB ll b):IsUp ll b (upB ll b):=by
 have h1:=(firstQ_spec _ h0).1
 have e:(((upB ll b).toNat:Nat):Int)=upB ll b:=Int.toNat_of_nonneg h0
 have h2:isUpB ll b (upB ll b).toNat=true:=h1
 unfold isUpB at h2
 rw [e] at h2
 simp only [Bool.and_eq_true,decide_eq_true_eq,ahead_iff h] at h2
 exact⟨h2.1.1,h2.1.2,h2.2⟩
theorem upB_eq {ll:List (List Int)} (h:Gr ll) {b a:Int} (ha:IsUp ll b a):upB ll b=a:=by
 obtain⟨n0,n1⟩:=ha.2.1.1.num h
 obtain⟨A,rfl⟩:∃A:Nat,a=(A:Int):=⟨a.toNat,by omega⟩
 refine firstQ_some (K:=A) ?_ ?_ _ (by omega)
 ·unfold isUpB
  simp only [Bool.and_eq_true,decide_eq_true_eq,ahead_iff h]
  exact⟨⟨ha.1,ha.2.1⟩,ha.2.2⟩
 ·intro j hj
  cases hp:isUpB ll b j with
  |false=>rfl
  |true=>
   exfalso
   unfold isUpB at hp
   simp only [Bool.and_eq_true,decide_eq_true_eq,ahead_iff h] at hp
   have:=IsUp.one h ⟨hp.1.1,hp.1.2,hp.2⟩ ha
   omega
theorem upB_no {ll:List (List Int)} (h:Gr ll) {b:Int} (hb:∀a,¬IsUp ll b a):upB ll b= -1:=by
 by_cases h0:0≤upB ll b
 ·exact absurd (upB_is h h0) (hb _)
 ·refine firstQ_none _ fun j hj=> ?_
  cases hp:isUpB ll b j with
  |false=>rfl
  |true=>
   exfalso
   unfold isUpB at hp
   simp only [Bool.and_eq_true,decide_eq_true_eq,ahead_iff h] at hp
   exact hb _ ⟨hp.1.1,hp.1.2,hp.2⟩
theorem succs_any (f:Fun) (v:Value) (w:World) (hv:FunV w f v) (hF:Ful f) (hT:Tos f):
  Calls Tryz.prog 95 #[v] w fun e w'=>∃u,e= .returned u∧RowsO w.heap.size w' (succsF f) u∧Below w.heap.size w w':=by
 obtain⟨nm,ps,rt,bl,pl⟩:=f
 have hv2:=hv
 obtain⟨vp,vb,rfl,⟨ao,c,rfl,h1,_⟩,h2⟩:=hv
 obtain⟨bo,cb,rfl,_⟩:=h2
 exact succs_try nm ps rt pl bl ao bo c cb w hv2 hF hT
def PreW (g1:Nat) (W w2:World) (n:Nat) (ll:List (List Int)) (B1:Nat) (wr:World):Prop:=∃us,RowAt wr W.heap.size 33 g1 n us∧RowsS w2.heap.size wr ll us∧Below W.heap.size W wr∧Mid B1 w2 wr
theorem preds_try (nm:List UInt8) (ps:List Int) (rt pl:Int) (bl:List (List Ins)) (ao bo:Option Addr) (c cb:Nat) (w:World)
  (hv:FunV w (nm,ps,rt,bl,pl) (.agg #[.string (bs nm),.slice ao ps.length c,.int .i64 rt,.slice bo bl.length cb,.int .i64 pl])) (hF:Ful (nm,ps,rt,bl,pl)) (hT:Tos (nm,ps,rt,bl,pl)):
  Calls Tryz.prog 66 #[.agg #[.string (bs nm),.slice ao ps.length c,.int .i64 rt,.slice bo bl.length cb,.int .i64 pl]] w fun e w'=>∃v,e= .returned v∧RowsO w.heap.size w' (predsF (nm,ps,rt,bl,pl)) v∧Below w.heap.size w w':=by
 obtain⟨i0,hi0,hz0,hz1,hz2⟩:=info_parts Tryz.info33
 obtain⟨i3,hi3,hz3,hz4,hz5⟩:=info_parts Tryz.info3
 have b0:=below_box w (.cells #[.string (bs nm),.slice ao ps.length c,.int .i64 rt,.slice bo bl.length cb,.int .i64 pl] 36)
 have X0:=hide (L5.Box.new w [.string (bs nm),.slice ao ps.length c,.int .i64 rt,.slice bo bl.length cb,.int .i64 pl] 36)
 have HV:=hide (hv.below b0)
 have B0:=hide b0
 have HFu:=hide hF
 have HTo:=hide hT
 have hbl:bl.length≤1000000:=hF.1
 clear b0 hv hF hT
 go_enter Tryz.func66,Tryz.ntmps66
 go_upto_region 1 with fail
 show Code.wp _ _ _ _ (w.alloc (.cells #[.string (bs nm),.slice ao ps.length c,.int .i64 rt,.slice bo bl.length cb,.int .i64 pl] 36))
 replace X0:Hid (L5.Box (w.alloc (.cells #[.string (bs nm),.slice ao ps.length c,.int .i64 rt,.slice bo bl.length cb,.int .i64 pl] 36)) w.heap.size [.string (bs nm),.slice ao ps.length c,.int .i64 rt,.slice bo bl.length cb,.int .i64 pl]):=X0
 generalize w.alloc (.cells #[.string (bs nm),.slice ao ps.length c,.int .i64 rt,.slice bo bl.length cb,.int .i64 pl] 36)=W at *
 have x3:=X0.out.2 3 _ rfl
 go_upto_region 2 with (at_make;refine wpList_make_full _ rfl _ _ 105 rfl W.heap.size 33 i0 _ 1 Tryz.underlying105 hi0 hz0 hz1 .i64 .i64 bl.length bl.length bl.length rfl rfl rfl rfl (by rw [hz2];omega) (by unfold maxLen;omega) (Nat.le_refl _) ?_;intro w1 own1 grow1;refine Hid.out ?_)
 rw [made_rows] at own1
 have R1:Hid (RowAt w1 W.heap.size 33 W.heap.size bl.length (List.replicate bl.length (.slice none 0 0))):=hide own1
 have B1:=hide (grown_b grow1)
 clear own1 grow1 x3
 have hg1:W.heap.size < w1.heap.size:=R1.out.lt.2
 obtain⟨x0,x1,x2,x3,x4⟩:_∧_∧_∧_∧_:=⟨(X0.out.below B1.out).2 0 _ rfl,(X0.out.below B1.out).2 1 _ rfl,(X0.out.below B1.out).2 2 _ rfl,(X0.out.below B1.out).2 3 _ rfl,(X0.out.below B1.out).2 4 _ rfl⟩
 have HC:=hide (succs_any (nm,ps,rt,bl,pl) _ w1 (HV.out.below B1.out) HFu.out HTo.out)
 refine hide ?_
 go_wp2_with fail
 refine HC.out.mono ?_;rintro e w2 ⟨v,rfl,hr,b2⟩
 clear x0 x1 x2 x3 x4
 have HR:=hide hr
 obtain⟨so,sc,rfl⟩:=hr.len
 have hsl:(succsF (nm,ps,rt,bl,pl)).length=bl.length:=succsF_len _
 rw [hsl] at HR ⊢
 have B12:=hide (below_step B1.out b2)
 have HSt:Hid (PreW W.heap.size W w2 bl.length (pRows (nm,ps,rt,bl,pl) 0 []) w1.heap.size w2):=hide ⟨_,R1.out.below b2,by
  have:=RowsS.start w2.heap.size w2 bl.length
  have e:=pRows_start (nm,ps,rt,bl,pl)
  rw [e];exact this,B12.out,Mid.refl _ _⟩
 have hg2:w1.heap.size≤w2.heap.size:=b2.size
 clear R1 B1 B12 b2 hr HC hsl
 generalize w1.heap.size=Bq at *
 generalize hg:W.heap.size=g1 at *
 go_wp2_with fail
 go_loopw [15] (fun i wr=>∃K:Nat,K≤bl.length∧i= .int .i64 K∧Hid (PreW g1 W w2 bl.length (pRows (nm,ps,rt,bl,pl) K []) Bq wr)) (fun i _=>bl.length - (intOf i).toNat)
 case atStart=>exact⟨0,Nat.zero_le _,rfl,HSt⟩
 case round=>
  clear HSt
  obtain⟨K,hK,rfl,HS⟩:=hrel
  by_cases hkt:K < bl.length
  ·have hkI:(K:Int) < bl.length:=by omega
   have HMi:Hid (Mid Bq w2 wr):=hide (by obtain⟨us,_,_,_,h⟩:=HS.out;exact h)
   obtain⟨gs,lo,lc,rfl,c0,hlw,hgs,hgt⟩:=HR.out.row (succsF_at (f:=(nm,ps,rt,bl,pl)) hkt)
   have c1:=(HMi.out.cell (p:=⟨gs,K,none⟩) hgs hgt).trans c0
   have HLw:=hide hlw
   have HPn:Hid (pRows (nm,ps,rt,bl,pl) K (nextF (nm,ps,rt,bl,pl) K)=pRows (nm,ps,rt,bl,pl) (K+1) []):=hide (pRows_next _ K)
   have HNu:Hid (Num bl.length (nextF (nm,ps,rt,bl,pl) K)):=hide (HTo.out K)
   have hll:(nextF (nm,ps,rt,bl,pl) K).length≤1000000:=nextF_len HFu.out hkt
   have HNd:Hid (nextF (nm,ps,rt,bl,pl) K).Nodup:=hide (once_nodup _)
   have HS0:Hid (PreW g1 W w2 bl.length (pRows (nm,ps,rt,bl,pl) K ((nextF (nm,ps,rt,bl,pl) K).take 0)) Bq wr):=hide HS.out
   have hpl:=fun M=>predTo_len (nm,ps,rt,bl,pl) M K
   generalize nextF (nm,ps,rt,bl,pl) K=l at *
   clear HMi c0 hlw HS
   go_wp2_with fail
   clear c1
   go_loopw [22] (fun i wr=>∃J:Nat,J≤l.length∧i= .int .i64 J∧Hid (PreW g1 W w2 bl.length (pRows (nm,ps,rt,bl,pl) K (l.take J)) Bq wr)) (fun i _=>l.length - (intOf i).toNat)
   case atStart=>exact⟨0,Nat.zero_le _,rfl,HS0⟩
   case round=>
    clear HS0
    obtain⟨J,hJ,rfl,HS⟩:=hrel
    by_cases hjt:J < l.length
    ·have hjI:(J:Int) < l.length:=by omega
     obtain⟨m,hm⟩:∃m,l[J]? =some m:=⟨l[J],List.getElem?_eq_getElem hjt⟩
     obtain⟨hm0,hm1⟩:=HNu.out m (List.mem_of_getElem? hm)
     obtain⟨M,rfl⟩:∃M:Nat,m=(M:Int):=⟨m.toNat,by omega⟩
     have hMl:M < bl.length:=by omega
     have HTk:Hid (l.take (J+1)=l.take J ++ [(M:Int)]):=hide (take_more hm)
     have hfr:=take_fresh HNd.out hm
     obtain⟨us,q1,q2,q3,q4⟩:=HS.out
     obtain⟨gl,rfl,c9,_⟩:=own_cell (own_mid HLw.out q4) hm
     obtain⟨row,u,y1,y2,y3⟩:=q2.at (i:=M) (by rw [pRows_len];exact hMl)
     rw [pRows_at _ _ hMl,hfr] at y1
     simp only [Bool.false_eq_true,if_false,List.append_nil,Option.some.injEq] at y1
     have hrl:=hpl M
     have HPu:Hid ((pRows (nm,ps,rt,bl,pl) K (l.take J)).set M (row ++ [(K:Int)])=pRows (nm,ps,rt,bl,pl) K (l.take J ++ [(M:Int)])):=hide (by rw [←y1];exact pRows_put hMl)
     have HPa:Hid ((pRows (nm,ps,rt,bl,pl) K (l.take J))[M]? =some row):=hide (by rw [pRows_at _ _ hMl,hfr,←y1];simp)
     rw [y1] at hrl
     have c8:=q1.cell y2
     have Q1:=hide q1
     have Q2:=hide q2
     have Q3:=hide q3
     have Q4:=hide q4
     have Y2:=hide y2
     have Y3:=hide y3
     obtain⟨uo,uc,rfl⟩:=own_len y3
     have hws:=q4.1
     have hMI:(M:Int) < bl.length:=by omega
     clear hm q1 q2 q3 q4 y1 y2 y3 HS hfr hm0 hm1
     go_wp2_with (at_builtin;refine wpList_append_own_at _ rfl (.tmp 31) (.tmp 33) 33 rfl w2.heap.size 3 i3 _ 1 8 Tryz.underlying33 hi3 hz3 hz4 hz5 rfl (by decide) _ _ _ rfl (Y3.out.alloc _) ⟨wr.heap.size,0,none⟩ 1 1 [.int .i64 K] rfl rfl one_cell one_one (by unfold maxLen;omega) (by omega) (by simp;omega) ?_;intro v2 wB own2 grow2 _ at2;refine Hid.out ?_)
     have far:∀g,g < w2.heap.size→some g≠(Value.slice uo row.length uc).ownBlock:=fun g hg e=>by have:=(Y3.out.lt g e.symm).1;omega
     have P1:Hid (RowAt wB W.heap.size 33 g1 bl.length us):=hide ((Q1.out.alloc _).kept grow2 (far g1 (by omega)))
     have P2:=hide (Q2.out.step HPa.out Y2.out own2 grow2 at2)
     rw [HPu.out,←HTk.out] at P2
     have P3:Hid (Below W.heap.size W wB):=hide (Below.grown (Q3.out.alloc Q3.out.size _) grow2 (by simp;omega) (fun k hk=>by have:=(Y3.out.lt k hk).1;omega))
     have P4:Hid (Mid Bq w2 wB):=hide ((Q4.out.alloc _).grown grow2 (fun k hk=> .inr (Y3.out.lt k hk).1))
     have HE:Hid (PreW g1 W w2 bl.length (pRows (nm,ps,rt,bl,pl) K (l.take (J+1))) Bq (wB.setCell ⟨g1,M,none⟩ v2)):=hide (by
      exact⟨us.set M v2,P1.out.set M v2,P2.out.put (p:=⟨g1,M,none⟩) (by show g1 < w2.heap.size;omega) _,P3.out.setCell (p:=⟨g1,M,none⟩) (by show W.heap.size≤g1;omega) _,P4.out.put (p:=⟨g1,M,none⟩) (.inl (by show g1 < Bq;omega)) _⟩)
     obtain⟨vo,vc,rfl⟩:=own_len own2
     have k2:=P1.out.cell Y2.out
     have k3:=P1.out.frozen M
     clear own2 grow2 at2 far P1 P2 P3 P4 Q1 Q2 Q3 Q4 Y2 Y3 c8 c9
     refine hide ?_
     go_wp2_with fail
     go_roundw
     case rel=>exact⟨J+1,by omega,by go_num,HE⟩
     case measure=>simp [intOf];omega
    ·obtain rfl:J=l.length:=by omega
     have HE:Hid (PreW g1 W w2 bl.length (pRows (nm,ps,rt,bl,pl) (K+1) []) Bq wr):=hide (by
      have:=HS.out
      rw [List.take_length,HPn.out] at this
      exact this)
     go_wp2_with fail
     go_roundw
     case rel=>exact⟨K+1,by omega,by go_num,HE⟩
     case measure=>simp [intOf];omega
  ·obtain rfl:K=bl.length:=by omega
   have HE:Hid (RowsO w.heap.size wr (predsF (nm,ps,rt,bl,pl)) (.slice (some ⟨g1,0,none⟩) bl.length bl.length)∧Below w.heap.size w wr):=hide (by
    obtain⟨us,q1,q2,q3,q4⟩:=HS.out
    refine⟨?_,below_step B0.out q3⟩
    have:=q2.rows q1 (by omega)
    have e:pRows (nm,ps,rt,bl,pl) bl.length []=predsF (nm,ps,rt,bl,pl):=pRows_end (nm,ps,rt,bl,pl)
    rw [e] at this
    exact this.base B0.out.size)
   go_wp2_with fail
   go_ret
   exact⟨_,rfl,HE.out.1,HE.out.2⟩
theorem preds_any (f:Fun) (v:Value) (w:World) (hv:FunV w f v) (hF:Ful f) (hT:Tos f):
  Calls Tryz.prog 66 #[v] w fun e w'=>∃u,e= .returned u∧RowsO w.heap.size w' (predsF f) u∧Below w.heap.size w w':=by
 obtain⟨nm,ps,rt,bl,pl⟩:=f
 have hv2:=hv
 obtain⟨vp,vb,rfl,⟨ao,c,rfl,h1,_⟩,h2⟩:=hv
 obtain⟨bo,cb,rfl,_⟩:=h2
 exact preds_try nm ps rt pl bl ao bo c cb w hv2 hF hT
end Go.Proofs.YtljkgcfnoegibaaGreatDoor
