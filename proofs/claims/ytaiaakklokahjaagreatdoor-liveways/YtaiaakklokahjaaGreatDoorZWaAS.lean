/- Texts of one chain, joined. -/
import Derived.Test.YtaiaakklokahjaaGreatDoorZWaAP
import Derived.Test.YtaiaakklokahjaaGreatDoorZWaAQ
import Derived.Test.YtaiaakklokahjaaGreatDoorZWaAR
import Derived.Laws.OwnMore
set_option maxHeartbeats 8000000
set_option maxRecDepth 20000
namespace Go.Proofs.YtaiaakklokahjaaGreatDoor
open Go Go.RowKit
open G (Tok Er Ins Fun)
theorem Tryz.GZ:(Tryz.prog.info? 167).map (fun i=>(i.zero,i.size,i.bytes))=some (some (.slice none 0 0),1,24):=by kernel_rfl
def cF (ll:List (List Int)) (a:Int) (K:Nat):List Bool:=(List.range K).map fun(b:Nat)=>cx ll a b
def jw (ll:List (List Int)) (K:Nat):List (List Bool):=(List.range K).map fun(a:Nat)=>cF ll a ll.length
def Cc (ll:List (List Int)):List (List Bool):=jw ll ll.length
theorem gh (ll:List (List Int)) (a:Int) (K:Nat):cF ll a (K+1)=cF ll a K ++ [cx ll a K]:=by
 unfold cF;rw [List.range_succ,List.map_append];rfl
theorem ql (ll:List (List Int)) (a:Int) (K:Nat):(cF ll a K).length=K:=by simp [cF]
theorem BU {ll:List (List Int)} {a:Int} {K b:Nat} (h:b < K):(cF ll a K)[b]? =some (cx ll a b):=by
 unfold cF;rw [List.getElem?_map,List.getElem?_range h];rfl
theorem xe (ll:List (List Int)) (K:Nat):jw ll (K+1)=jw ll K ++ [cF ll K ll.length]:=by
 unfold jw;rw [List.range_succ,List.map_append];rfl
theorem qW (ll:List (List Int)) (K:Nat):(jw ll K).length=K:=by simp [jw]
theorem Dw {ll:List (List Int)} {K a:Nat} (h:a < K):(jw ll K)[a]? =some (cF ll a ll.length):=by
 unfold jw;rw [List.getElem?_map,List.getElem?_range h];rfl
def iZ (B:Nat) (w:World) (t:List (List Bool)) (v:Value):Prop:=∃us:List Value,w.ownsRow B 167 1 v t.length us∧us.length=t.length∧∀(i:Nat) (l:List Bool),t[i]? =some l→∃u,us[i]? =some u∧w.ownsRow B 4 1 u l.length (ef l)
theorem iZ.nil (B:Nat) (w:World):iZ B w [] (.slice none 0 0):=⟨[],World.ownsRow_nil _ _ _ _,rfl,fun i l h=>by simp at h⟩
theorem iZ.below {B:Nat} {w w':World} {t:List (List Bool)} {v:Value} (h:iZ B w t v) (b:Below w.heap.size w w'):iZ B w' t v:=by
 obtain⟨us,h1,h2,h3⟩:=h;refine⟨us,az b B _ _ _ _ _ h1,h2,fun i l hl=> ?_⟩;obtain⟨u,k1,k2⟩:=h3 i l hl;exact⟨u,k1,az b B _ _ _ _ _ k2⟩
theorem iZ.base {B B':Nat} {w:World} {t:List (List Bool)} {v:Value} (h:iZ B w t v) (hB:B'≤B):iZ B' w t v:=by
 obtain⟨us,h1,h2,h3⟩:=h;refine⟨us,aL h1 hB,h2,fun i l hl=> ?_⟩;obtain⟨u,k1,k2⟩:=h3 i l hl;exact⟨u,k1,aL k2 hB⟩
theorem iZ.len {B:Nat} {w:World} {t:List (List Bool)} {v:Value} (h:iZ B w t v):∃ao c,v= .slice ao t.length c:=by
 obtain⟨us,h1,_⟩:=h;exact aI h1
theorem iZ.step {B:Nat} {wr w2:World} {t:List (List Bool)} {l:List Bool} {v v' u:Value} {us:List Value} {o:Obj} (h1:wr.ownsRow B 167 1 v t.length us)
  (h:us.length=t.length∧∀(i:Nat) (l:List Bool),t[i]? =some l→∃u,us[i]? =some u∧wr.ownsRow B 4 1 u l.length (ef l)) (hu:wr.ownsRow B 4 1 u l.length (ef l))
  (own:w2.ownsRow B 167 1 v' (t.length+1) (us ++ [u])) (hg:(wr.alloc o).grownBy w2 v.ownBlock):iZ B w2 (t ++ [l]) v':=by
 obtain⟨h2,h3⟩:=h;refine⟨us ++ [u],by simpa using own,by simp [h2],fun i m hm=> ?_⟩;have other:∀(x:Value) (n:Nat) (xs:List Value),wr.ownsRow B 4 1 x n xs→w2.ownsRow B 4 1 x n xs:=fun x n xs hx=>eP hg (h1.alloc o) (by decide) x n xs (hx.alloc o);by_cases hi:i < t.length
 ·rw [List.getElem?_append_left hi] at hm;obtain⟨y,k1,k2⟩:=h3 i m hm;exact⟨y,by rw [List.getElem?_append_left (by omega)];exact k1,other _ _ _ k2⟩
 ·rw [List.getElem?_append_right (by omega)] at hm;have hi2:i - t.length=0:=by
   have:=(List.getElem?_eq_some_iff.1 hm).1;simp at this;omega
  rw [hi2] at hm;simp at hm;subst hm;exact⟨u,by rw [List.getElem?_append_right (by omega),h2,hi2];rfl,other _ _ _ hu⟩
theorem sR {w:World} {B n:Nat} {v:Value} {met:List Int} (h:w.ownsRow B 4 1 v n (ef (bitsOf n met))) (hn:0 < n):∃g cap,v= .slice (some ⟨g,0,none⟩) n cap∧g < w.heap.size∧∀b:Nat,b < n→w.cell? ⟨g,b,none⟩=some (.bool (ay met b)):=by
 rcases bY h with ⟨_,e⟩ | ⟨g,cap,e,h1,h2,h3,h4,h5,h6⟩
 ·omega
 ·exact⟨g,cap,e,h4,fun b hb=>h5 b _ (lX (zR hb))⟩
theorem uv {f:Fun} (hF:Ful f):∀l∈aC f,l.length≤1000000:=by
 intro l hl;obtain⟨K,hK,rfl⟩:=List.mem_iff_getElem.1 hl;have hK2:K < f.2.2.2.1.length:=by rw [←bP];exact hK
 have e:=eU hK2;rw [List.getElem?_eq_getElem hK] at e;injection e with e;rw [e];exact j8 hF hK2
theorem wT (nm:List UInt8) (ps:List Int) (rt pl:Int) (bl:List (List Ins)) (ao bo:Option Addr) (c cb:Nat) (w:World)
  (hv:bS w (nm,ps,rt,bl,pl) (.agg #[.string (bs nm),.slice ao ps.length c,.int .i64 rt,.slice bo bl.length cb,.int .i64 pl])) (hF:Ful (nm,ps,rt,bl,pl)) (hgr:Gr (aC (nm,ps,rt,bl,pl))):
  Calls Tryz.prog 92 #[.agg #[.string (bs nm),.slice ao ps.length c,.int .i64 rt,.slice bo bl.length cb,.int .i64 pl]] w fun e w'=>∃v,e= .returned v∧iZ w.heap.size w' (Cc (aC (nm,ps,rt,bl,pl))) v∧Below w.heap.size w w':=by
 obtain⟨i4,hi4,hy0,hy1,hy2⟩:=info_parts Tryz.ES;obtain⟨i5,hi5,hx0,hx1,hx2⟩:=info_parts Tryz.GZ;have b0:=af w (.cells #[.string (bs nm),.slice ao ps.length c,.int .i64 rt,.slice bo bl.length cb,.int .i64 pl] 29);have X0:=aa (L5.Box.new w [.string (bs nm),.slice ao ps.length c,.int .i64 rt,.slice bo bl.length cb,.int .i64 pl] 29);have B0:=aa b0;have HS:=aa (wY nm ps rt pl bl ao bo c cb _ (hv.below b0) hF);have HEl:=aa (uv hF);have hbl:bl.length≤1000000:=hF.1;have hlen:bl.length=(aC (nm,ps,rt,bl,pl)).length:=(bP (nm,ps,rt,bl,pl)).symm;have HGr:=aa hgr;clear b0 hv hF hgr;generalize aC (nm,ps,rt,bl,pl)=ll at *;generalize bl.length=N at *;subst hlen;have hpos:=HGr.out.2;go_enter Tryz.func92,Tryz.ntmps92
 go_upto_region 1 with fail
 show Code.wp _ _ _ _ (w.alloc (.cells #[.string (bs nm),.slice ao ps.length c,.int .i64 rt,.slice bo ll.length cb,.int .i64 pl] 29));replace X0:Hid (L5.Box (w.alloc (.cells #[.string (bs nm),.slice ao ps.length c,.int .i64 rt,.slice bo ll.length cb,.int .i64 pl] 29)) w.heap.size [.string (bs nm),.slice ao ps.length c,.int .i64 rt,.slice bo ll.length cb,.int .i64 pl]):=X0;generalize w.alloc (.cells #[.string (bs nm),.slice ao ps.length c,.int .i64 rt,.slice bo ll.length cb,.int .i64 pl] 29)=W at *;obtain⟨x0,x1,x2,x3,x4⟩:_∧_∧_∧_∧_:=⟨X0.out.2 0 _ rfl,X0.out.2 1 _ rfl,X0.out.2 2 _ rfl,X0.out.2 3 _ rfl,X0.out.2 4 _ rfl⟩;go_wp2_with fail
 refine HS.out.mono ?_;rintro e w1 ⟨u,rfl,hu,b1⟩;obtain⟨eo,ec,rfl,he,_,_⟩:=hu.read;have B1:=aa b1;have HEd:=aa he;clear x0 x1 x2 x3 x4 HS hu he b1;obtain⟨x0,x1,x2,x3,x4⟩:_∧_∧_∧_∧_:=⟨(X0.out.below B1.out).2 0 _ rfl,(X0.out.below B1.out).2 1 _ rfl,(X0.out.below B1.out).2 2 _ rfl,(X0.out.below B1.out).2 3 _ rfl,(X0.out.below B1.out).2 4 _ rfl⟩;have HM:=aa (uY (bs nm) rt pl (-1) ll ao bo eo ps.length c cb ec w1 HEd.out hbl HGr.out HEl.out);go_wp2_with fail
 refine HM.out.mono ?_;rintro e W2 ⟨av,rfl,hav,b2⟩;obtain⟨ga,ca,rfl,ha1,ha2⟩:=sR hav hpos;have B2:=aa (ae B1.out b2);have HE2:=aa (HEd.out.below b2);have HA:=aa ha2;clear x0 x1 x2 x3 x4 HM HEd hav b2 ha2;go_wp2_with fail
 go_loopw [5,6] (fun v i wr=>∃A:Nat,A≤ll.length∧i= .int .i64 A∧Hid (iZ W2.heap.size wr (jw ll A) v)∧Hid (Below W2.heap.size W2 wr)) (fun _ i _=>ll.length - (intOf i).toNat)
 case atStart=>exact⟨0,Nat.zero_le _,rfl,aa (iZ.nil _ _),aa (Below.refl _ _)⟩
 case round=>
  obtain⟨A,hA,rfl,HR,HW⟩:=hrel;have HWW:=aa (ae B2.out HW.out);obtain⟨x0,x1,x2,x3,x4⟩:_∧_∧_∧_∧_:=⟨(X0.out.below HWW.out).2 0 _ rfl,(X0.out.below HWW.out).2 1 _ rfl,(X0.out.below HWW.out).2 2 _ rfl,(X0.out.below HWW.out).2 3 _ rfl,(X0.out.below HWW.out).2 4 _ rfl⟩;by_cases hat:A < ll.length
  ·have haI:(A:Int) < ll.length:=(by omega);have HM:=aa (uY (bs nm) rt pl A ll ao bo eo ps.length c cb ec wr (HE2.out.below HW.out) hbl HGr.out HEl.out);go_wp2_with fail
   refine HM.out.mono ?_;rintro e W3 ⟨wv,rfl,hwv,b3⟩;obtain⟨gw,cw,rfl,hw1,hw2⟩:=sR hwv hpos;have HR3:=aa (HR.out.below b3);have HW3:=aa (ae HW.out b3);have HB3:=aa hw2;clear x0 x1 x2 x3 x4 HM hwv b3 hw2 HR HW HWW;go_wp2_with fail
   go_loopw [8,9] (fun v i wq=>∃K:Nat,K≤ll.length∧i= .int .i64 K∧Hid (GrB W3 (cF ll A K) v wq)) (fun _ i _=>ll.length - (intOf i).toNat)
   case atStart=>exact⟨0,Nat.zero_le _,rfl,aa (GrB.start _)⟩
   case round=>
    obtain⟨K,hK,rfl,HB⟩:=hrel;have HWq:=aa (ae HW3.out HB.out.2);have x3:=(X0.out.below (ae B2.out HWq.out)).2 3 _ rfl;have HBL:Hid ((cF ll A K).length=K):=aa (ql _ _ _);by_cases hkt:K < ll.length
    ·have hkI:(K:Int) < ll.length:=(by omega);have cA:=(HWq.out.cell (p:=⟨ga,A,none⟩) ha1).trans (HA.out A hat);have cK:=(HWq.out.cell (p:=⟨ga,K,none⟩) ha1).trans (HA.out K hkt);have cW:=(HB.out.2.cell (p:=⟨gw,K,none⟩) hw1).trans (HB3.out K hkt);have HV:Hid (cx ll A K=(ay (gH ll [0] (-1)) A && ay (gH ll [0] (-1)) K && (decide ((A:Int)=K) || !ay (gH ll [0] A) K))):=aa rfl;obtain⟨vo,vc,rfl⟩:=HB.out.len;have hWs:=HB.out.2.size
     cases h1:ay (gH ll [0] (-1)) A with
     |false=>
      rw [h1] at cA HV;replace h1:=aa h1
      cases h2:ay (gH ll [0] (-1)) K with
      |false=>
       rw [h2] at cK HV;replace h2:=aa h2;have HVx:Hid (cF ll A (K+1)=cF ll A K ++ [false]):=aa (by rw [gh,HV.out];simp);go_wp2_with (at_builtin;refine wpList_append_own _ rfl (.tmp 33) (.tmp 56) 167 rfl W3.heap.size 4 i4 _ 1 1 Tryz.underlying167 hi4 hy0 hy1 hy2 rfl (by decide) _ _ _ rfl (HB.out.1.alloc _) ⟨wr.heap.size,0,none⟩ 1 1 [.bool false] rfl rfl one_cell fX (by have:=HBL.out;unfold maxLen;omega) (by have:=HBL.out;omega) (by simp;omega) ?_;intro v2 w2 own2 grow2 _;refine Hid.out ?_)
       have HE:Hid (GrB W3 (cF ll A (K+1)) v2 w2):=aa (by rw [HVx.out];exact HB.out.step own2 grow2);clear own2 grow2;refine aa ?_;go_wp2_with fail
       go_roundw
       case rel=>exact⟨K+1,by omega,by go_num,HE⟩
       case measure=>simp [intOf];omega
      |true=>
       rw [h2] at cK HV;replace h2:=aa h2;have HVx:Hid (cF ll A (K+1)=cF ll A K ++ [false]):=aa (by rw [gh,HV.out];simp);go_wp2_with (at_builtin;refine wpList_append_own _ rfl (.tmp 33) (.tmp 56) 167 rfl W3.heap.size 4 i4 _ 1 1 Tryz.underlying167 hi4 hy0 hy1 hy2 rfl (by decide) _ _ _ rfl (HB.out.1.alloc _) ⟨wr.heap.size,0,none⟩ 1 1 [.bool false] rfl rfl one_cell fX (by have:=HBL.out;unfold maxLen;omega) (by have:=HBL.out;omega) (by simp;omega) ?_;intro v2 w2 own2 grow2 _;refine Hid.out ?_)
       have HE:Hid (GrB W3 (cF ll A (K+1)) v2 w2):=aa (by rw [HVx.out];exact HB.out.step own2 grow2);clear own2 grow2;refine aa ?_;go_wp2_with fail
       go_roundw
       case rel=>exact⟨K+1,by omega,by go_num,HE⟩
       case measure=>simp [intOf];omega
     |true=>
      rw [h1] at cA HV;replace h1:=aa h1
      cases h2:ay (gH ll [0] (-1)) K with
      |false=>
       rw [h2] at cK HV;replace h2:=aa h2;have HVx:Hid (cF ll A (K+1)=cF ll A K ++ [false]):=aa (by rw [gh,HV.out];simp);go_wp2_with (at_builtin;refine wpList_append_own _ rfl (.tmp 33) (.tmp 56) 167 rfl W3.heap.size 4 i4 _ 1 1 Tryz.underlying167 hi4 hy0 hy1 hy2 rfl (by decide) _ _ _ rfl (HB.out.1.alloc _) ⟨wr.heap.size,0,none⟩ 1 1 [.bool false] rfl rfl one_cell fX (by have:=HBL.out;unfold maxLen;omega) (by have:=HBL.out;omega) (by simp;omega) ?_;intro v2 w2 own2 grow2 _;refine Hid.out ?_)
       have HE:Hid (GrB W3 (cF ll A (K+1)) v2 w2):=aa (by rw [HVx.out];exact HB.out.step own2 grow2);clear own2 grow2;refine aa ?_;go_wp2_with fail
       go_roundw
       case rel=>exact⟨K+1,by omega,by go_num,HE⟩
       case measure=>simp [intOf];omega
      |true=>
       rw [h2] at cK HV;replace h2:=aa h2;by_cases hAK:(A:Int)=K
       ·have hbe:((A:Int) == (K:Int))=true:=beq_iff_eq.2 hAK;replace hAK:=aa hAK;have HVx:Hid (cF ll A (K+1)=cF ll A K ++ [true]):=aa (by rw [gh,HV.out];simp [hAK.out]);go_wp2_with (at_builtin;refine wpList_append_own _ rfl (.tmp 33) (.tmp 56) 167 rfl W3.heap.size 4 i4 _ 1 1 Tryz.underlying167 hi4 hy0 hy1 hy2 rfl (by decide) _ _ _ rfl (HB.out.1.alloc _) ⟨wr.heap.size,0,none⟩ 1 1 [.bool true] rfl rfl one_cell fX (by have:=HBL.out;unfold maxLen;omega) (by have:=HBL.out;omega) (by simp;omega) ?_;intro v2 w2 own2 grow2 _;refine Hid.out ?_)
        have HE:Hid (GrB W3 (cF ll A (K+1)) v2 w2):=aa (by rw [HVx.out];exact HB.out.step own2 grow2);clear own2 grow2;refine aa ?_;go_wp2_with fail
        go_roundw
        case rel=>exact⟨K+1,by omega,by go_num,HE⟩
        case measure=>simp [intOf];omega
       ·have hbe:((A:Int) == (K:Int))=false:=beq_eq_false_iff_ne.2 hAK;replace hAK:=aa hAK;generalize ay (gH ll [0] A) K=wo at *;have HVx:Hid (cF ll A (K+1)=cF ll A K ++ [(!wo)]):=aa (by rw [gh,HV.out];simp [hAK.out]);go_wp2_with (at_builtin;refine wpList_append_own _ rfl (.tmp 33) (.tmp 56) 167 rfl W3.heap.size 4 i4 _ 1 1 Tryz.underlying167 hi4 hy0 hy1 hy2 rfl (by decide) _ _ _ rfl (HB.out.1.alloc _) ⟨wr.heap.size,0,none⟩ 1 1 [.bool (!wo)] rfl rfl one_cell fX (by have:=HBL.out;unfold maxLen;omega) (by have:=HBL.out;omega) (by simp;omega) ?_;intro v2 w2 own2 grow2 _;refine Hid.out ?_)
        have HE:Hid (GrB W3 (cF ll A (K+1)) v2 w2):=aa (by rw [HVx.out];exact HB.out.step own2 grow2);clear own2 grow2;refine aa ?_;go_wp2_with fail
        go_roundw
        case rel=>exact⟨K+1,by omega,by go_num,HE⟩
        case measure=>simp [intOf];omega
    ·obtain rfl:K=ll.length:=(by omega);have HLT:Hid ((jw ll A).length=A):=aa (qW _ _);have HRq:=aa (HR3.out.below HB.out.2);obtain⟨us,ho,hus⟩:=HRq.out;have HO:=aa ho;have HUS:=aa hus;have HU:=aa (aL HB.out.1 HW3.out.size);obtain⟨vo,vc,rfl⟩:=HB.out.len;obtain⟨to,tc,rfl⟩:=HR3.out.len;have hWs:=HWq.out.size;clear ho hus;go_wp2_with (at_builtin;refine wpList_append_own _ rfl (.tmp 58) (.tmp 60) 123 rfl W2.heap.size 167 i5 _ 1 24 Tryz.underlying123 hi5 hx0 hx1 hx2 rfl (by decide) _ _ _ rfl (HO.out.alloc _) ⟨wr.heap.size,0,none⟩ 1 1 [.slice vo (cF ll A ll.length).length vc] rfl rfl one_cell (sB rfl) (by have:=HLT.out;unfold maxLen;omega) (by have:=HLT.out;omega) (by simp;omega) ?_;intro v2 w2 own2 grow2 _;refine Hid.out ?_)
     have HE:Hid (iZ W2.heap.size w2 (jw ll (A+1)) v2):=aa (by
      rw [xe];exact iZ.step HO.out HUS.out HU.out own2 grow2)
     have HW2:Hid (Below W2.heap.size W2 w2):=aa (by
      refine Below.grown (HWq.out.alloc HWq.out.size _) grow2 (by simp;omega) ?_;intro k hk;exact(HO.out.lt k hk).1)
     clear own2 grow2;refine aa ?_;go_wp2_with fail
     go_roundw
     case rel=>exact⟨A+1,by omega,by go_num,HE,HW2⟩
     case measure=>simp [intOf];omega
  ·obtain rfl:A=ll.length:=(by omega);have HE2:=aa (HR.out.base (Nat.le_trans B0.out.size B2.out.size));go_wp2_with fail
   go_ret;exact⟨_,rfl,HE2.out,ae B0.out HWW.out⟩
def vT (w:World) (ll:List (List Int)) (v:Value):Prop:=∃b o c,v= .slice (some ⟨b,o,none⟩) ll.length c∧b < w.heap.size∧∀i:Nat,i < ll.length→∃lb lo lc,w.cell? ⟨b,o+i,none⟩=some (.slice (some ⟨lb,lo,none⟩) ll.length lc)∧lb < w.heap.size∧
 ∀j:Nat,j < ll.length→w.cell? ⟨lb,lo+j,none⟩=some (.bool (cx ll i j))
theorem vT.below {w w':World} {ll:List (List Int)} {v:Value} (h:vT w ll v) (hb:Below w.heap.size w w'):vT w' ll v:=by
 obtain⟨b,o,c,e,h1,h2⟩:=h;refine⟨b,o,c,e,Nat.lt_of_lt_of_le h1 hb.size,fun i hi=> ?_⟩;obtain⟨lb,lo,lc,k1,k2,k3⟩:=h2 i hi;exact⟨lb,lo,lc,(hb.cell (p:=⟨b,o+i,none⟩) h1).trans k1,Nat.lt_of_lt_of_le k2 hb.size,fun j hj=>(hb.cell (p:=⟨lb,lo+j,none⟩) k2).trans (k3 j hj)⟩
theorem iZ.read {B:Nat} {w:World} {ll:List (List Int)} {v:Value} (h:iZ B w (Cc ll) v) (hn:0 < ll.length):vT w ll v:=by
 obtain⟨us,h1,h2,h3⟩:=h;have hl:(Cc ll).length=ll.length:=qW _ _;rw [hl] at h1;rcases bY h1 with ⟨_,e⟩ | ⟨g,cap,e,k1,k2,k3,k4,k5,k6⟩
 ·omega
 refine⟨g,0,cap,e,k4,fun i hi=> ?_⟩;obtain⟨u,q1,q2⟩:=h3 i _ (Dw hi);rw [ql] at q2;rcases bY q2 with ⟨_,e⟩ | ⟨g2,cap2,e2,m1,m2,m3,m4,m5,m6⟩
 ·omega
 refine⟨g2,0,cap2,by rw [Nat.zero_add,k5 i u q1,e2],m4,fun j hj=> ?_⟩;rw [Nat.zero_add];exact m5 j _ (lX (BU hj))
theorem A3 {ll:List (List Int)} (h:Gr ll) {a b:Int} (hab:¬(0≤a∧a < ll.length∧0≤b∧b < ll.length)):cx ll a b=false:=by
 rw [DK h];intro k;have h1:=k.1.num h;have h2:=k.2.1.num h;exact hab ⟨h1.1,h1.2,h2.1,h2.2⟩
theorem xO (ll:List (List Int)) (a b:Int) (v:Value) (w:World) (hv:vT w ll v) (hg:Gr ll):
  Calls Tryz.prog 141 #[v,.int .i64 a,.int .i64 b] w fun e w'=>e= .returned (.bool (cx ll a b))∧w'=w:=by
 obtain⟨tb,to,tc,rfl,h1,h2⟩:=hv;have H2:=aa h2;have HLow:=aa (fun h=>A3 (a:=a) (b:=b) hg h);clear h2 hg;by_cases ha0:a < 0
 ·have HE:=aa (HLow.out (by omega));rw [HE.out];go_enter Tryz.func141,Tryz.ntmps141
  go_wp2_with fail
  go_ret;exact⟨rfl,rfl⟩
 by_cases hb0:b < 0
 ·have HE:=aa (HLow.out (by omega));rw [HE.out];go_enter Tryz.func141,Tryz.ntmps141
  go_wp2_with fail
  go_ret;exact⟨rfl,rfl⟩
 obtain⟨A,rfl⟩:∃A:Nat,a=(A:Int):=⟨a.toNat,by omega⟩;obtain⟨K,rfl⟩:∃K:Nat,b=(K:Int):=⟨b.toNat,by omega⟩;by_cases ha1:(ll.length:Int)≤A
 ·have HE:=aa (HLow.out (by omega));rw [HE.out];go_enter Tryz.func141,Tryz.ntmps141
  go_wp2_with fail
  go_ret;exact⟨rfl,rfl⟩
 by_cases hb1:(ll.length:Int)≤K
 ·have HE:=aa (HLow.out (by omega));rw [HE.out];go_enter Tryz.func141,Tryz.ntmps141
  go_wp2_with fail
  go_ret;exact⟨rfl,rfl⟩
 have hAl:A < ll.length:=by omega
 have hKl:K < ll.length:=by omega
 have hAI:(A:Int) < ll.length:=by omega
 have hKI:(K:Int) < ll.length:=by omega
 obtain⟨lb,lo,lc,k1,k2,k3⟩:=H2.out A hAl;have k4:=k3 K hKl;clear k3 H2 HLow;go_enter Tryz.func141,Tryz.ntmps141
 go_wp2_with fail
 go_ret;exact⟨rfl,rfl⟩
theorem Grw.join {w wr w2:World} {l m:List Int} {v v':Value} (h:Grw w l v wr) (own:w2.ownsRow w.heap.size 3 1 v' (l.length+m.length) (ints l ++ ints m)) (hg:wr.grownBy w2 v.ownBlock):Grw w (l ++ m) v' w2:=by
 refine⟨by simpa [ints] using own,?_⟩;refine Below.grown h.2 hg h.2.size ?_;intro k hk;exact(h.1.lt k hk).1
theorem Grw.below {w wr w2:World} {l:List Int} {v:Value} (h:Grw w l v wr) (b:Below wr.heap.size wr w2):Grw w l v w2:=⟨az b _ _ _ _ _ _ h.1,ae h.2 b⟩
theorem Grw.lit (w:World) (b:Int):Grw w [b] (.slice (some ⟨w.heap.size,0,none⟩) 1 1) (w.alloc (.cells #[.int .i64 b] 3)):=
 ⟨World.ownsRow_lit (size:=1) w #[.int .i64 b] 1 (Nat.le_refl _) (by unfold maxLen;omega) rfl,af w _⟩
theorem vw {B:Nat} {f:Fun} {w:World} {v:Value} (h:bf B w (aC f) v):∃ao c,v= .slice ao f.2.2.2.1.length c∧jL w ao (aC f):=by
 obtain⟨ao,c,e,h1,_⟩:=h.read;exact⟨ao,c,by rw [e,bP],h1⟩
theorem xt (nm:List UInt8) (ps:List Int) (rt pl:Int) (bl:List (List Ins)) (ao bo:Option Addr) (c cb:Nat) (w:World)
  (hv:bS w (nm,ps,rt,bl,pl) (.agg #[.string (bs nm),.slice ao ps.length c,.int .i64 rt,.slice bo bl.length cb,.int .i64 pl])) (hF:Ful (nm,ps,rt,bl,pl)) (hT:Tos (nm,ps,rt,bl,pl)) (h0:0 < bl.length):
  Calls Tryz.prog 69 #[.agg #[.string (bs nm),.slice ao ps.length c,.int .i64 rt,.slice bo bl.length cb,.int .i64 pl]] w fun e w'=>∃u,e= .returned u∧w'.ownsRow w.heap.size 3 1 u (aE (nm,ps,rt,bl,pl)).length (ints (aE (nm,ps,rt,bl,pl)))∧Below w.heap.size w w':=by
 have b0:=af w (.cells #[.string (bs nm),.slice ao ps.length c,.int .i64 rt,.slice bo bl.length cb,.int .i64 pl] 29);have X0:=aa (L5.Box.new w [.string (bs nm),.slice ao ps.length c,.int .i64 rt,.slice bo bl.length cb,.int .i64 pl] 29);have HC:=aa (nk (nm,ps,rt,bl,pl) _ _ (hv.below b0) hF hT);have HO:=aa (fun no nc w hr=>zY (nm,ps,rt,bl,pl) no nc w hr hF hT h0);have B0:=aa b0;clear b0 hv hF hT h0;go_enter Tryz.func69,Tryz.ntmps69
 go_upto_region 1 with fail
 show Code.wp _ _ _ _ (w.alloc (.cells #[.string (bs nm),.slice ao ps.length c,.int .i64 rt,.slice bo bl.length cb,.int .i64 pl] 29));replace X0:Hid (L5.Box (w.alloc (.cells #[.string (bs nm),.slice ao ps.length c,.int .i64 rt,.slice bo bl.length cb,.int .i64 pl] 29)) w.heap.size [.string (bs nm),.slice ao ps.length c,.int .i64 rt,.slice bo bl.length cb,.int .i64 pl]):=X0;generalize w.alloc (.cells #[.string (bs nm),.slice ao ps.length c,.int .i64 rt,.slice bo bl.length cb,.int .i64 pl] 29)=W at *;obtain⟨x0,x1,x2,x3,x4⟩:_∧_∧_∧_∧_:=⟨X0.out.2 0 _ rfl,X0.out.2 1 _ rfl,X0.out.2 2 _ rfl,X0.out.2 3 _ rfl,X0.out.2 4 _ rfl⟩;go_wp2_with fail
 refine HC.out.mono ?_;rintro e w1 ⟨v,rfl,hr,b1⟩;obtain⟨no,nc,rfl,hrr⟩:=vw hr;have HO1:=aa (HO.out no nc w1 hrr);have B1:=aa b1;clear x0 x1 x2 x3 x4 hr hrr b1 HC HO;go_wp2_with fail
 refine HO1.out.mono ?_;rintro e w2 ⟨u,rfl,hu,b2⟩;have HE:=aa (And.intro (aL hu (Nat.le_trans B0.out.size B1.out.size)) (ae B0.out (ae B1.out b2)));clear hu b2 HO1;go_wp2_with fail
 go_ret;exact⟨_,rfl,HE.out.1,HE.out.2⟩
theorem xj (f:Fun) (v:Value) (w:World) (hv:bS w f v) (hF:Ful f) (hT:Tos f) (h0:0 < f.2.2.2.1.length):
  Calls Tryz.prog 69 #[v] w fun e w'=>∃u,e= .returned u∧w'.ownsRow w.heap.size 3 1 u (aE f).length (ints (aE f))∧Below w.heap.size w w':=by
 obtain⟨nm,ps,rt,bl,pl⟩:=f;have hv2:=hv;obtain⟨vp,vb,rfl,⟨ao,c,rfl,h1,_⟩,h2⟩:=hv;obtain⟨bo,cb,rfl,_⟩:=h2;exact xt nm ps rt pl bl ao bo c cb w hv2 hF hT h0
theorem qF {f:Fun} (hT:Tos f) (h0:0 < f.2.2.2.1.length):(aE f).Nodup∧Num f.2.2.2.1.length (aE f):=by
 obtain⟨h1,h2⟩:=mJ hT h0;exact⟨List.pairwise_reverse.2 (h1.imp fun h e=>h e.symm),fun m hm=>h2 m (List.mem_reverse.1 hm)⟩
def Par (f:Fun) (k:Int) (done out:List Int):Prop:=∃e,out=done ++ e∧∀y∈e,y∈aB f k.toNat∨∃x a b,e=a ++ b∧y∈a∧x∈b∧y∈aB f x.toNat
theorem Par.refl (f:Fun) (k:Int) (done:List Int):Par f k done done:=⟨[],by simp,by simp⟩
theorem Par.trans {f:Fun} {k:Int} {a b c:List Int} (h:Par f k a b) (j:Par f k b c):Par f k a c:=by
 obtain⟨e,rfl,h1⟩:=h;obtain⟨d,rfl,j1⟩:=j;refine⟨e ++ d,by simp,fun y hy=> ?_⟩;rcases List.mem_append.1 hy with hy | hy
 ·rcases h1 y hy with q | ⟨x,a1,b1,rfl,q2,q3,q4⟩
  ·exact .inl q
  ·exact .inr ⟨x,a1,b1 ++ d,by simp,q2,by simp [q3],q4⟩
 ·rcases j1 y hy with q | ⟨x,a1,b1,rfl,q2,q3,q4⟩
  ·exact .inl q
  ·exact .inr ⟨x,e ++ a1,b1,by simp,by simp [q2],q3,q4⟩
theorem Fi {f:Fun} {Q:Int→Prop} (hQ:∀x m,Q x→m∈aB f x.toNat→Q m):∀(N:Nat) (k:Int) (done op:List Int),Q k→(∀x∈done,Q x)→∀x∈cg f N k done op,Q x:=by
 intro N;induction N with
 |zero=>intro k done op _ h;exact h
 |succ N ih=>
  intro k done op hk hd x hx;rw [ek] at hx;have key:∀(l out:List Int),(∀m∈l,Q m)→(∀m∈out,Q m)→∀m∈cO f N (op ++ [k]) out l,Q m:=by
   intro l;induction l with
   |nil=>intro out _ h;exact h
   |cons m l ih2=>
    intro out hl ho;refine ih2 _ (fun x hx=>hl x (by simp [hx])) ?_;unfold ky;split
    ·exact ho
    ·exact ih m out _ (hl m (by simp)) ho
  rcases List.mem_append.1 hx with hx | hx
  ·exact key _ _ (fun m hm=>hQ k m hk hm) hd x hx
  ·simp at hx;subst hx;exact hk
theorem tS {f:Fun} (hT:Tos f):∀(N:Nat) (k:Int) (done op:List Int),(op ++ [k]).Nodup→Num f.2.2.2.1.length (op ++ [k])→N+op.length=f.2.2.2.1.length→
  k∈cg f N k done op∧(∀x∈done,x∈cg f N k done op)∧∀x∈cg f N k done op,x ∉ done→∀y∈aB f x.toNat,y∈cg f N k done op∨y∈op:=by
 intro N;induction N with
 |zero=>
  intro k done op h1 h2 h3;have:=cH _ _ h1 h2;simp at this;omega
 |succ N ih=>
  intro k done op h1 h2 h3;have key:∀(l out:List Int),Num f.2.2.2.1.length l→(∀x∈done,x∈out)→(∀x∈out,x ∉ done→∀y∈aB f x.toNat,y∈out∨y∈op ++ [k])→
    (∀m∈l,m∈cO f N (op ++ [k]) out l∨m∈op ++ [k])∧(∀x∈out,x∈cO f N (op ++ [k]) out l)∧(∀x∈cO f N (op ++ [k]) out l,x ∉ done→∀y∈aB f x.toNat,y∈cO f N (op ++ [k]) out l∨y∈op ++ [k]):=by
   intro l;induction l with
   |nil=>intro out _ _ h;exact⟨by simp,fun x hx=>hx,h⟩
   |cons m l ih2=>
    intro out hl hd hc;have e:cO f N (op ++ [k]) out (m :: l)=cO f N (op ++ [k]) (ky f N (op ++ [k]) out m) l:=rfl;rw [e];by_cases hm:ay out m=true∨ay (op ++ [k]) m=true
    ·rw [iq hm];obtain⟨k1,k2,k3⟩:=ih2 out (fun x hx=>hl x (by simp [hx])) hd hc;refine⟨fun x hx=> ?_,k2,k3⟩;rcases List.mem_cons.1 hx with rfl | hx
     ·rcases hm with hm | hm
      ·exact .inl (k2 _ (aZ.1 hm))
      ·exact .inr (aZ.1 hm)
     ·exact k1 x hx
    ·have hc1:ay out m=false:=(by simpa using fun e=>hm (.inl e));have hc2:ay (op ++ [k]) m=false:=(by simpa using fun e=>hm (.inr e));rw [ij hc1 hc2];have hnd:(op ++ [k] ++ [m]).Nodup:=List.nodup_append.2 ⟨h1,by simp,by rintro x hx y hy rfl;simp at hy;subst hy;exact eE.1 hc2 hx⟩;have hnu:Num f.2.2.2.1.length (op ++ [k] ++ [m]):=by
      intro x hx;rcases List.mem_append.1 hx with hx | hx
      ·exact h2 x hx
      ·simp at hx;subst hx;exact hl x (by simp)
     obtain⟨j1,j2,j3⟩:=ih m out (op ++ [k]) hnd hnu (by simp;omega);obtain⟨k1,k2,k3⟩:=ih2 (cg f N m out (op ++ [k])) (fun x hx=>hl x (by simp [hx])) (fun x hx=>j2 x (hd x hx)) (by
      intro x hx hxd y hy;by_cases hxo:x∈out
      ·rcases hc x hxo hxd y hy with q | q
       ·exact .inl (j2 y q)
       ·exact .inr q
      ·exact j3 x hx hxo y hy)
     refine⟨fun x hx=> ?_,fun x hx=>k2 x (j2 x hx),k3⟩;rcases List.mem_cons.1 hx with rfl | hx
     ·exact .inl (k2 _ j1)
     ·exact k1 x hx
  obtain⟨k1,k2,k3⟩:=key (aB f k.toNat) done (hT _) (fun x hx=>hx) (fun x hx hn=>absurd hx hn);rw [ek];refine⟨by simp,fun x hx=>by simp [k2 x hx],fun x hx hxd y hy=> ?_⟩;have fin:y∈cO f N (op ++ [k]) done (aB f k.toNat)∨y∈op ++ [k]→y∈cO f N (op ++ [k]) done (aB f k.toNat) ++ [k]∨y∈op:=by
   rintro (q | q)
   ·exact .inl (by simp [q])
   ·rcases List.mem_append.1 q with q | q
    ·exact .inr q
    ·exact .inl (by simp at q;simp [q])
  rcases List.mem_append.1 hx with hx | hx
  ·exact fin (k3 x hx hxd y hy)
  ·simp at hx;subst hx;exact fin (k1 y hy)
theorem qC {f:Fun} {b:Int} (h:b.toNat < f.2.2.2.1.length):(aC f).getD b.toNat []=aB f b.toNat:=by
 rw [List.getD_eq_getElem?_getD,eU h];rfl
theorem lx {f:Fun} (hT:Tos f) (h0:0 < f.2.2.2.1.length):Gr (aC f):=by
 refine⟨fun l hl=> ?_,by rw [bP];exact h0⟩;obtain⟨K,hK,rfl⟩:=List.mem_iff_getElem.1 hl;have hK2:K < f.2.2.2.1.length:=by rw [←bP];exact hK
 have e:=eU hK2;rw [List.getElem?_eq_getElem hK] at e;injection e with e;rw [e,bP];exact hT K
theorem D2 {f:Fun} (hT:Tos f) (h0:0 < f.2.2.2.1.length) {x m:Int} (h:All (aC f) x) (hm:m∈aB f x.toNat):All (aC f) m:=by
 have hx:=h.num (lx hT h0);rw [bP] at hx;refine h.step (by rw [qC (by omega)];exact hm) ?_;have:=hT _ m hm;omega
theorem qv {f:Fun} (hT:Tos f) (h0:0 < f.2.2.2.1.length) (m:Int):m∈aE f↔All (aC f) m:=by
 unfold aE;rw [List.mem_reverse];constructor
 ·exact Fi (f:=f) (Q:=All (aC f)) (fun x m hx hm=>D2 hT h0 hx hm) _ 0 [] [] (All.first _) (by simp) m
 ·obtain⟨h1,_,h3⟩:=tS hT f.2.2.2.1.length 0 [] [] (by simp) (fun m hm=>by simp at hm;subst hm;omega) (by simp);refine Rch.uD (fun x hx _=> ?_) (fun b c hb hm hc _=> ?_) m
  ·simp at hx;subst hx;exact h1
  ·have hx:=All.num (lx hT h0) hb;rw [bP] at hx;rw [qC (by omega)] at hc;rcases h3 b hm (by simp) c hc with q | q
   ·exact q
   ·simp at q
def cD {α:Type} (g:Nat→Option α) (n:Nat):Option α:=(List.range n).findSome? g
theorem cd {α:Type} {g:Nat→Option α} {n:Nat} (h:∀j,j < n→g j=none):cD g n=none:=by
 unfold cD;rw [List.findSome?_eq_none_iff];intro j hj;exact h j (by simpa using hj)
theorem cX {α:Type} {g:Nat→Option α} {n K:Nat} {a:α} (h:∀j,j < K→g j=none) (hK:K < n) (ha:g K=some a):cD g n=some a:=by
 unfold cD;have e:List.range n=List.range K ++ (List.range (n - K)).map (K+ ·):=by
  have h1:=List.range_add (n:=K) (m:=n - K);rwa [show K+(n - K)=n by omega] at h1
 rw [e,List.findSome?_append,List.findSome?_eq_none_iff.2 (fun j hj=>h j (by simpa using hj))];obtain⟨m,hm⟩:∃m,n - K=m+1:=⟨n - K - 1,by omega⟩;rw [hm,List.range_succ_eq_map];simp [ha]
theorem gD {α:Type} {g:Nat→Option α} {n:Nat} (h:cD g n=none):∀j,j < n→g j=none:=by
 intro j hj;unfold cD at h;rw [List.findSome?_eq_none_iff] at h;exact h j (by simpa using hj)
theorem fI {α:Type} {g:Nat→Option α}:∀ {n:Nat} {a:α},cD g n=some a→∃K,K < n∧g K=some a∧∀j,j < K→g j=none:=by
 intro n;induction n with
 |zero=>intro a h;simp [cD] at h
 |succ n ih=>
  intro a h;unfold cD at h ih;rw [List.range_succ,List.findSome?_append] at h
  cases h1:(List.range n).findSome? g with
  |some b=>
   rw [h1] at h;obtain⟨K,h2,h3,h4⟩:=ih h1;simp at h;subst h;exact⟨K,by omega,h3,h4⟩
  |none=>
   rw [h1] at h;simp at h;exact⟨n,by omega,h,gD h1⟩
abbrev Dx:Ins:=(0,0,0,0,[],[],[],0)
abbrev jj:Fun:=([],[],0,[],0)
def ag (f:Fun) (k:Nat):List Ins:=f.2.2.2.1.getD k []
def au (f:Fun) (k i:Nat):Ins:=(ag f k).getD i Dx
def bh (p:List Fun) (i:Nat):Fun:=p.getD i jj
theorem de {f:Fun} {k:Nat} (h:k < f.2.2.2.1.length):f.2.2.2.1[k]? =some (ag f k):=by
 unfold ag;rw [List.getD_eq_getElem?_getD,List.getElem?_eq_getElem h];rfl
theorem iO {f:Fun} {k i:Nat} (h:i < (ag f k).length):(ag f k)[i]? =some (au f k i):=by
 unfold au;rw [List.getD_eq_getElem?_getD,List.getElem?_eq_getElem h];rfl
theorem jS {p:List Fun} {i:Nat} (h:i < p.length):p[i]? =some (bh p i):=by
 unfold bh;rw [List.getD_eq_getElem?_getD,List.getElem?_eq_getElem h];rfl
theorem Fo {p:List Fun} {i:Nat} {f:Fun} (h:p[i]? =some f):bh p i=f:=by
 unfold bh;rw [List.getD_eq_getElem?_getD,h];rfl
def mkX (x:Ins):Int:=L5.cn x.1 x.2.2.2.1
def dJ (id:Int) (x:Ins):Bool:=decide (x.2.1=id) && decide (mkX x≠0)
abbrev Plc:=Int × Int × Int × Bool
def mn (f:Fun) (id:Int) (k i:Nat):Option Plc:=if dJ id (au f k i)then some ((k:Int),(i:Int),mkX (au f k i),true)else none
def lH (f:Fun) (id:Int) (k lim:Nat):Option Plc:=cD (mn f id k) (min lim (ag f k).length)
def jq (f:Fun) (K J k:Nat):Nat:=if k < K then(ag f k).length else J
def jr (f:Fun) (id:Int) (K J:Nat):Option Plc:=cD (fun k=>lH f id k (jq f K J k)) (min (K+1) f.2.2.2.1.length)
def fF (f:Fun) (id:Int):Bool:=decide (0≤id) && decide (id < f.2.1.length)
def dV (f:Fun) (id:Int) (K J:Nat):Plc:=if fF f id then(0,-1,f.2.1.getD id.toNat 0,true)else(jr f id K J).getD (0,0,0,false)
def findF (p:List Fun) (nm:List UInt8):Option Fun:=cD (fun i=>if(bh p i).1=nm then some (bh p i)else none) p.length
def vK (p:List Fun) (i k:Nat):Bool:=decide ((bh p i).1=(bh p k).1)
def BS (p:List Fun):Option (Int × Int):=cD (fun i=>(cD (fun k=>if vK p i k then some ((5:Int),(bh p i).2.2.2.2)else none) i)) p.length
abbrev gq:List UInt8:= [109,97,105,110]
def fD (p:List Fun):Int × Int:=match BS p with
 |some e=>e
 |none=>match findF p gq with
  |none=>(12,0)
  |some m=>if ay m.2.1 2 then(13,m.2.2.2.2)else(0,0)
def gG (f:Fun) (k i:Nat):Bool:=(decide (i=0) || decide ((au f k (i - 1)).1=20)) && decide ((au f k i).2.2.2.2.2.1.length=((aJ f).getD k []).length) && ((aJ f).getD k []).all fun b=>ay (au f k i).2.2.2.2.2.1 b
def eQ (x:Ins):Bool:=decide (x.1=23) || decide (x.1=24) || decide (x.1=25) || (decide (x.1=21) && decide (x.2.2.1≠0))
def dG (f:Fun) (k i:Nat) (src:Bool):Int:=
 if(decide (mkX (au f k i)≠0) && (dV f (au f k i).2.1 k i).2.2.2)=true then 5
 else if(decide ((au f k i).1=20) && !gG f k i)=true then 11
 else if(src && eQ (au f k i))=true then 2 else 0
def dm (p:List Fun) (f:Fun) (x:Ins):Int:=
 if(decide (x.1=28) && (decide (f.2.2.1=0) != decide (x.2.2.2.2.1.length=0)))=true then 13
 else if x.1≠21 then 0
 else match findF p x.2.2.2.2.2.2.1 with
  |none=>12
  |some g=>if g.2.2.1≠x.2.2.2.1 then 9 else if g.2.1.length≠x.2.2.2.2.1.length then 13 else 0
def fh (p:List Fun) (f:Fun) (x:Ins) (n:Nat):Int:=
 if x.1=20∨x.1=24 then x.2.2.2.1 else if x.1=28 then f.2.2.1 else if x.1=21 then((findF p x.2.2.2.2.2.2.1).getD jj).2.1.getD n 0 else(L5.takes (L5.num x.1)).getD n 0
def fw (p:List Fun) (f:Fun) (k i n:Nat):Int:=
 let x:=au f k i
 let m:=dV f (x.2.2.2.2.1.getD n 0) f.2.2.2.1.length 0
 if m.2.2.2=false then 8 else if m.2.2.1≠fh p f x n then 9 else if m.2.1 < 0 then 0
 else if x.1=20 then(if cx (aC f) m.1 (x.2.2.2.2.2.1.getD n 0)then 0 else 10)
 else if(decide (m.1=k) && decide ((i:Int)≤m.2.1))=true then 10 else if(decide (m.1≠k) && !cx (aC f) m.1 k)=true then 10 else 0
def tZ (p:List Fun) (f:Fun) (k i n:Nat):Option Int:=if fw p f k i n≠0 then some (fw p f k i n)else none
def fm (p:List Fun) (f:Fun) (k i:Nat):Int:=if dm p f (au f k i)≠0 then dm p f (au f k i)else(cD (tZ p f k i) (au f k i).2.2.2.2.1.length).getD 0
def fB (f:Fun):Bool:=decide ((aE f).length=f.2.2.2.1.length) && decide (((aJ f).getD 0 []).length=0)
def atC (c at_:Int):Option (Int × Int):=if c≠0 then some (c,at_)else none
def gL (f:Fun) (src:Bool):Option (Int × Int):=cD (fun k=>cD (fun i=>atC (dG f k i src) (au f k i).2.2.2.2.2.2.2) (ag f k).length) f.2.2.2.1.length
def jN (p:List Fun) (f:Fun):Option (Int × Int):=cD (fun k=>cD (fun i=>atC (fm p f k i) (au f k i).2.2.2.2.2.2.2) (ag f k).length) f.2.2.2.1.length
def jd (p:List Fun) (f:Fun) (src:Bool):Int × Int:=
 if(aS f).1≠0 then((aS f).1,f.2.2.2.2)else if fB f=false then(14,f.2.2.2.2)
 else match gL f src with
  |some e=>e
  |none=>(jN p f).getD (0,0)
def kq (p:List Fun) (src:Bool) (i:Nat):Option (Int × Int):=if(jd p (bh p i) src).1≠0 then some (jd p (bh p i) src)else none
def iY (p:List Fun) (src:Bool):Int × Int:=
 if(aT 0 0 p).1≠0 then((aT 0 0 p).1,(bh p (aT 0 0 p).2.toNat).2.2.2.2)
 else if(fD p).1≠0 then fD p
 else(cD (kq p src) p.length).getD (0,0)
open Mix (Up)
def rN (w:World) (l:List (Int × Int)) (v:Value):Prop:=∃ao c,v= .slice ao l.length c∧(l= []∨∃b,ao=some ⟨b,0,none⟩∧b < w.heap.size∧∀(i:Nat) (p:Int × Int),l[i]? =some p→w.cell? ⟨b,i * 2,none⟩=some (.int .i64 p.1)∧w.cell? ⟨b,i * 2+1,none⟩=some (.int .i64 p.2))∧l.length≤maxLen
theorem rN.below {w w':World} {l:List (Int × Int)} {v:Value} (h:rN w l v) (hb:Below w.heap.size w w'):rN w' l v:=by
 obtain⟨ao,c,e,h1,h2⟩:=h;refine⟨ao,c,e,?_,h2⟩;rcases h1 with h1 | ⟨b,e2,hl,hc⟩
 ·exact .inl h1
 ·exact .inr ⟨b,e2,Nat.lt_of_lt_of_le hl hb.size,fun i p hi=>⟨(hb.cell (p:=⟨b,i * 2,none⟩) hl).trans (hc i p hi).1,(hb.cell (p:=⟨b,i * 2+1,none⟩) hl).trans (hc i p hi).2⟩⟩
def Up.rows (ll:List (List Int)):Up:=⟨fun v w=>jx w ll v,fun _ _ _ b h=>h.below b⟩
def Up.ints (l:List Int):Up:=⟨fun v w=>bT w l v,fun _ _ _ b h=>h.below b⟩
def Up.Mh (l:List (Int × Int)):Up:=⟨fun v w=>rN w l v,fun _ _ _ b h=>h.below b⟩
theorem ft {P:Program} {f:FuncId} {args:Array Value} {w:World} {R:Ending→World→Prop} (h:Calls P f args w R):∃e w',R e w':=by
 obtain⟨e,w',_,h1,_⟩:=h [];exact⟨e,w',h1⟩
theorem fu {W:World} {F:Tmp→Up} {d:Tmp} {f:FuncId} {args:Array Value} (h:Calls Tryz.prog f args W fun e w'=>∃v,e= .returned v∧Below W.heap.size W w'∧(F d).1 v w'):∃v,Mix.Valid W F (some d) v:=by
 obtain⟨e,w',v,_,b,hf⟩:=ft h;exact⟨v,w',b,fun d' hd=>by cases hd;exact hf⟩
theorem aq {W:World} {F:Tmp→Up} {d:Tmp} (c:Value) (h:(F d).1 c W):∃v,Mix.Valid W F (some d) v:=⟨c,W,Below.refl _ _,fun d' hd=>by cases hd;exact h⟩
def Kf (F:Nat→Prop) (w w':World):Prop:=w'.os=w.os∧w'.tape=w.tape∧w'.output=w.output∧w.heap.size≤w'.heap.size∧∀k,k < w.heap.size→¬F k→w'.heap[k]? =w.heap[k]?
theorem Kf.br {F:Nat→Prop} {w w':World} (b:Below w.heap.size w w'):Kf F w w':=⟨b.os,b.tape,b.output,b.size,fun k hk _=>b.block k hk⟩
theorem Kf.below {F:Nat→Prop} {w w':World} {B:Nat} (h:Kf F w w') (hF:∀k,F k→B≤k) (hB:B≤w.heap.size):Below B w w':=
 ⟨h.1,h.2.1,h.2.2.1,h.2.2.2.1,fun k hk=>h.2.2.2.2 k (by omega) (fun f=>by have:=hF k f;omega)⟩
theorem Kf.trans {F G:Nat→Prop} {a b c:World} (h:Kf F a b) (k:Kf G b c) (hG:∀x,G x→F x∨a.heap.size≤x):Kf F a c:=
 ⟨k.1.trans h.1,k.2.1.trans h.2.1,k.2.2.1.trans h.2.2.1,Nat.le_trans h.2.2.2.1 k.2.2.2.1,fun i hi hf=>(k.2.2.2.2 i (Nat.lt_of_lt_of_le hi h.2.2.2.1) (fun g=>by rcases hG i g with q | q;exact hf q;omega)).trans (h.2.2.2.2 i hi hf)⟩
theorem Kf.more {F G:Nat→Prop} {w w':World} (h:Kf F w w') (hF:∀b,F b→G b):Kf G w w':=⟨h.1,h.2.1,h.2.2.1,h.2.2.2.1,fun k hk hg=>h.2.2.2.2 k hk (fun f=>hg (hF k f))⟩
theorem Kf.drew {F:Nat→Prop} {w w':World} (h:Kf F w w') (n:Nat):Kf F w (w'.drewN n):=h
theorem nT {F:Nat→Prop} {w w':World} (k:Kf F w w') {B e s n:Nat} {v:Value} {xs:List Value} (h:w.ownsRow B e s v n xs) (hF:∀g,v.ownBlock=some g→¬F g):w'.ownsRow B e s v n xs:=by
 refine⟨h.1,?_⟩;rcases h.2 with hn | ⟨g,cap,cur,hv2,hbb,hg,rest⟩
 ·exact .inl hn
 ·exact .inr ⟨g,cap,cur,hv2,hbb,(k.2.2.2.2 g (Array.getElem?_eq_some_iff.1 hg).1 (hF g (by rw [hv2];rfl))).trans hg,rest⟩
def aN (w:World) (B g c W:Nat) (b:Nat→Bool):Prop:=w.ownsRow B 135 1 (.slice (some ⟨g,0,none⟩) W c) W (wds b W)
theorem aN.lt {w:World} {B g c W:Nat} {b:Nat→Bool} (h:aN w B g c W b):B≤g∧g < w.heap.size:=World.ownsRow.lt h g rfl
theorem aN.cell {w:World} {B g c W:Nat} {b:Nat→Bool} (h:aN w B g c W b) {j:Nat} (hj:j < W):w.cell? ⟨g,j,none⟩=some (.int .u64 (wd b j:Int)):=by
 rw [World.ownsRow.cellAt h j (by omega),mS b hj];rfl
theorem aN.frozen {w:World} {B g c W:Nat} {b:Nat→Bool} (h:aN w B g c W b) (j:Nat):w.frozen? ⟨g,j,none⟩=false:=World.ownsRow.frozenAt h j
theorem aN.below {w w':World} {B g c W:Nat} {b:Nat→Bool} (h:aN w B g c W b) (k:Below w.heap.size w w'):aN w' B g c W b:=az k _ _ _ _ _ _ h
theorem aN.kf {F:Nat→Prop} {w w':World} {B g c W:Nat} {b:Nat→Bool} (h:aN w B g c W b) (k:Kf F w w') (hF:¬F g):aN w' B g c W b:=nT k h (fun x hx=>by
 have:g=x:=Option.some.inj hx;rw [←this];exact hF)
theorem aN.same {w:World} {B g c W:Nat} {a b:Nat→Bool} (h:aN w B g c W a) (he:∀n,n < 64 * W→a n=b n):aN w B g c W b:=by
 unfold aN;rw [←BD he];exact h
theorem aN.kind {w:World} {B g c W:Nat} {b:Nat→Bool} (h:aN w B g c W b):∃cs,w.heap[g]? =some (.cells cs 135 (0,0)):=cz h rfl
theorem aN.put {w:World} {B g c W:Nat} {b b':Nat→Bool} (h:aN w B g c W b) {k:Nat} (hb:∀j,j < W→j≠k→wd b j=wd b' j):aN (w.setCell ⟨g,k,none⟩ (.int .u64 (wd b' k:Int))) B g c W b':=by
 have q:=(World.ownsRow.stored h k (.int .u64 (wd b' k:Int))).1;rw [show(.int .u64 (wd b' k:Int):Value)=wdV b' k from rfl,FT hb] at q;exact q
theorem jM {w:World} (g k:Nat) (v:Value):Kf (· =g) w (w.setCell ⟨g,k,none⟩ v):=⟨rfl,rfl,rfl,by simp,fun q _ hf=>Below.heap_setCell w ⟨g,k,none⟩ _ q (fun e=>hf e)⟩
theorem lR {w:World} {B g c W:Nat} {b:Nat→Bool} (n:Nat) (h:aN w B g c W b):aN (w.drewN n) B g c W b:=h
theorem zr {a b:Nat} (ha:a < 18446744073709551616) (hb:b < 18446744073709551616):bits .andNot .u64 (a:Int) (b:Int)=((a &&& (18446744073709551615 - b):Nat):Int):=u64_andNot_nat a b ha hb
theorem Ki {a b:Nat} (ha:a < 18446744073709551616) (hb:b < 18446744073709551616):bits .or .u64 (a:Int) (b:Int)=((a ||| b:Nat):Int):=u64_or_nat a b ha hb
theorem Eg (n:Nat):2 ^ (n % 64) < 18446744073709551616:=Nat.pow_lt_pow_right (m:=n % 64) (n:=64) (by decide) (Nat.mod_lt _ (by decide))
theorem Ir (n:Nat):Op.shift .shl .u64 1 .i64 ((n % 64:Nat):Int)=pure (.int .u64 ((2 ^ (n % 64):Nat):Int)):=by
 have h64:n % 64 < 64:=Nat.mod_lt _ (by decide);rw [shift_shl_any _ _ _ _ (by omega)];have e:(1:Int) * 2 ^ min (((n % 64:Nat):Int).toNat) IntKind.u64.bits=((2 ^ (n % 64):Nat):Int):=by
  rw [Int.toNat_natCast,Nat.min_eq_left (by show n % 64≤64;omega),Int.one_mul];exact(Int.natCast_pow 2 (n % 64)).symm
 rw [e,nQ (Eg n)]
theorem Gd {B g c W:Nat} {b:Nat→Bool} {w:World} (h:aN w B g c W b) (n:Nat) (hn:n < 64 * W) (hW:W≤1000000):
  Calls Tryz.prog 150 #[.slice (some ⟨g,0,none⟩) W c,.int .i64 n] w fun e w'=>e= .returned (.tuple #[])∧aN w' B g c W (fZ b n true)∧Kf (· =g) w w':=by
 have hq:Int.tdiv (n:Int) 64=((n / 64:Nat):Int):=by rw [Int.tdiv_eq_ediv_of_nonneg (by omega)];omega
 have hr:Int.tmod (n:Int) 64=((n % 64:Nat):Int):=by rw [Int.tmod_eq_emod_of_nonneg (by omega)];omega
 have hs:=Ir n;have hor:bits .or .u64 (wd b (n / 64):Int) ((2 ^ (n % 64):Nat):Int)=(wd (fZ b n true) (n / 64):Int):=by rw [Ki (yv _ _) (Eg n),JI]
 have HE:Hid (aN (w.setCell ⟨g,n / 64,none⟩ (.int .u64 (wd (fZ b n true) (n / 64):Int))) B g c W (fZ b n true)):=aa (h.put fun j _ hj=>(tL hj).symm);have HK:=aa (jM (w:=w) g (n / 64) (.int .u64 (wd (fZ b n true) (n / 64):Int)));have hjW:n / 64 < W:=by omega
 have hjI:((n / 64:Nat):Int) < W:=by omega
 have c1:=h.cell hjW;have f1:=h.frozen (n / 64);have hm:0≤((n % 64:Nat):Int):=by omega
 clear h;generalize wd b (n / 64)=x0 at *;generalize wd (fZ b n true) (n / 64)=x1 at *;generalize 2 ^ (n % 64)=x2 at *;generalize n / 64=J at *;generalize n % 64=R at *;go_enter Tryz.func150,Tryz.ntmps150
 go_wp2_with fail
 go_region
 go_wp2_with fail
 go_end0
 exact⟨rfl,lR 1 HE.out,HK.out.drew 1⟩
theorem wJ {B g c W:Nat} {b:Nat→Bool} {w:World} (h:aN w B g c W b) (n:Nat) (hn:n < 64 * W) (hW:W≤1000000):
  Calls Tryz.prog 154 #[.slice (some ⟨g,0,none⟩) W c,.int .i64 n] w fun e w'=>e= .returned (.tuple #[])∧aN w' B g c W (fZ b n false)∧Kf (· =g) w w':=by
 have hq:Int.tdiv (n:Int) 64=((n / 64:Nat):Int):=by rw [Int.tdiv_eq_ediv_of_nonneg (by omega)];omega
 have hr:Int.tmod (n:Int) 64=((n % 64:Nat):Int):=by rw [Int.tmod_eq_emod_of_nonneg (by omega)];omega
 have hs:=Ir n;have hor:bits .andNot .u64 (wd b (n / 64):Int) ((2 ^ (n % 64):Nat):Int)=(wd (fZ b n false) (n / 64):Int):=by rw [zr (yv _ _) (Eg n),Gy]
 have HE:Hid (aN (w.setCell ⟨g,n / 64,none⟩ (.int .u64 (wd (fZ b n false) (n / 64):Int))) B g c W (fZ b n false)):=aa (h.put fun j _ hj=>(tL hj).symm);have HK:=aa (jM (w:=w) g (n / 64) (.int .u64 (wd (fZ b n false) (n / 64):Int)));have hjW:n / 64 < W:=by omega
 have hjI:((n / 64:Nat):Int) < W:=by omega
 have c1:=h.cell hjW;have f1:=h.frozen (n / 64);have hm:0≤((n % 64:Nat):Int):=by omega
 clear h;generalize wd b (n / 64)=x0 at *;generalize wd (fZ b n false) (n / 64)=x1 at *;generalize 2 ^ (n % 64)=x2 at *;generalize n / 64=J at *;generalize n % 64=R at *;go_enter Tryz.func154,Tryz.ntmps154
 go_wp2_with fail
 go_region
 go_wp2_with fail
 go_end0
 exact⟨rfl,lR 1 HE.out,HK.out.drew 1⟩
end Go.Proofs.YtaiaakklokahjaaGreatDoor
