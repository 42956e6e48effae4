/- Texts of one chain, joined. -/
import Derived.Test.YtljkgcfnoegibaaGreatDoorWcAJ
import Derived.Test.YtljkgcfnoegibaaGreatDoorWcAK
import Derived.RegionTactic
import Derived.ChangeAlike
set_option maxHeartbeats 4000000
set_option maxRecDepth 20000
namespace Go.Proofs.YtljkgcfnoegibaaGreatDoor
open Go Go.RowKit
def revAt (l:List Int) (i:Nat):List Int:=(List.range l.length).map fun p=>if p < i∨l.length≤p+i then l.getD (l.length - 1 - p) 0 else l.getD p 0
theorem revAt_len (l:List Int) (i:Nat):(revAt l i).length=l.length:=by simp [revAt]
theorem revAt_at {l:List Int} (i:Nat) {p:Nat} (hp:p < l.length):(revAt l i)[p]? =some (if p < i∨l.length≤p+i then l.getD (l.length - 1 - p) 0 else l.getD p 0):=by
 unfold revAt;rw [List.getElem?_map,List.getElem?_range hp];rfl
theorem revAt_zero (l:List Int):revAt l 0=l:=by
 apply List.ext_getElem?
 intro p
 by_cases hp:p < l.length
 ·rw [revAt_at _ hp,if_neg (by omega),List.getElem?_eq_getElem hp,List.getD_eq_getElem?_getD,List.getElem?_eq_getElem hp];rfl
 ·rw [List.getElem?_eq_none (by rw [revAt_len];omega),List.getElem?_eq_none (by omega)]
theorem revAt_end {l:List Int} {i:Nat} (h:l.length≤2 * i+1):revAt l i=l.reverse:=by
 apply List.ext_getElem?
 intro p
 by_cases hp:p < l.length
 ·rw [revAt_at _ hp,List.getElem?_reverse hp,List.getElem?_eq_getElem (by omega:l.length - 1 - p < l.length)]
  congr 1
  by_cases e:p < i∨l.length≤p+i
  ·rw [if_pos e,List.getD_eq_getElem?_getD,List.getElem?_eq_getElem (by omega:l.length - 1 - p < l.length)];rfl
  ·rw [if_neg e,List.getD_eq_getElem?_getD,List.getElem?_eq_getElem hp]
   have e2:l.length - 1 - p=p:=by omega
   simp only [e2];rfl
 ·rw [List.getElem?_eq_none (by rw [revAt_len];omega),List.getElem?_eq_none (by rw [List.length_reverse];omega)]
theorem revAt_step {l:List Int} {i j:Nat} {x y:Int} (hj:j=l.length - 1 - i) (hij:i < j) (hx:(revAt l i)[i]? =some x) (hy:(revAt l i)[j]? =some y):((revAt l i).set i y).set j x=revAt l (i+1):=by
 have hi:i < l.length:=by omega
 have hjl:j < l.length:=by omega
 rw [revAt_at _ hi,if_neg (by omega)] at hx
 rw [revAt_at _ hjl,if_neg (by omega)] at hy
 injection hx with hx
 injection hy with hy
 subst hx hy
 apply List.ext_getElem?
 intro p
 rw [List.getElem?_set,List.getElem?_set,List.length_set,revAt_len]
 by_cases hp:p < l.length
 ·rw [revAt_at _ hp,revAt_at _ hp]
  by_cases e1:j=p
  ·subst e1
   rw [if_pos rfl,if_pos hjl,if_pos (by omega)]
   have e2:l.length - 1 - j=i:=by omega
   rw [e2]
  ·rw [if_neg e1]
   by_cases e2:i=p
   ·subst e2
    rw [if_pos rfl,if_pos hi,if_pos (by omega),hj]
   ·rw [if_neg e2]
    by_cases e3:p < i∨l.length≤p+i
    ·rw [if_pos e3,if_pos (by omega)]
    ·rw [if_neg e3,if_neg (by omega)]
 ·rw [if_neg (by omega),if_neg (by omega),List.getElem?_eq_none (by rw [revAt_len];omega),List.getElem?_eq_none (by rw [revAt_len];omega)]
theorem own_set2 {B g n c i j:Nat} {w:World} {l:List Int} {x y:Int} (h:w.ownsRow B 3 1 (.slice (some ⟨g,0,none⟩) n c) n (ints l)):((w.setCell ⟨g,i,none⟩ (.int .i64 y)).setCell ⟨g,j,none⟩ (.int .i64 x)).drew.ownsRow B 3 1 (.slice (some ⟨g,0,none⟩) n c) n (ints ((l.set i y).set j x)):=by
 rw [←ints_set,←ints_set]
 exact own_below (L5.below_drew1 _) _ _ _ _ _ _ (World.ownsRow.stored (World.ownsRow.stored h i (.int .i64 y)).1 j (.int .i64 x)).1
theorem reverse_any (l r:List Int) (hr:l.reverse=r) (B g c:Nat) (w:World) (h:w.ownsRow B 3 1 (.slice (some ⟨g,0,none⟩) l.length c) l.length (ints l)) (hl:l.length≤1000000):
  Calls Tryz.prog 144 #[.slice (some ⟨g,0,none⟩) l.length c] w fun e w'=>e= .returned (.tuple #[])∧w'.ownsRow B 3 1 (.slice (some ⟨g,0,none⟩) l.length c) l.length (ints r)∧Below B w w':=by
 have hB:B≤g:=(h.lt g rfl).1
 replace hr:=hide hr
 have H0:Hid (w.ownsRow B 3 1 (.slice (some ⟨g,0,none⟩) l.length c) l.length (ints (revAt l 0))):=hide (by rw [revAt_zero];exact h)
 clear h
 go_enter Tryz.func144,Tryz.ntmps144
 go_wp2_with fail
 go_loopw [2,3] (fun i j wr=>∃I:Nat,2 * I≤l.length∧i= .int .i64 I∧j= .int .i64 ((l.length:Int) - 1 - I)∧Hid (wr.ownsRow B 3 1 (.slice (some ⟨g,0,none⟩) l.length c) l.length (ints (revAt l I)))∧Hid (Below B w wr)) (fun i j _=>(intOf j - intOf i).toNat)
 case atStart=>exact⟨0,by omega,rfl,by go_num,H0,hide (Below.refl _ _)⟩
 case round=>
  clear H0
  obtain⟨I,hI,rfl,rfl,HO,HW⟩:=hrel
  by_cases hlt:2 * I+1 < l.length
  ·obtain⟨J,hJ⟩:∃J,J=l.length - 1 - I:=⟨_,rfl⟩
   have hJI:(l.length:Int) - 1 - I=(J:Int):=by omega
   have hIJ:(I:Int) < (J:Int):=by omega
   have hJl:(J:Int) < l.length:=by omega
   have hIl:(I:Int) < l.length:=by omega
   obtain⟨x,hx⟩:∃x,(revAt l I)[I]? =some x:=⟨_,List.getElem?_eq_getElem (by rw [revAt_len];omega)⟩
   obtain⟨y,hy⟩:∃y,(revAt l I)[J]? =some y:=⟨_,List.getElem?_eq_getElem (by rw [revAt_len];omega)⟩
   have c1:wr.cell? ⟨g,I,none⟩=some (.int .i64 x):=by rw [World.ownsRow.cellAt HO.out I (by omega)];exact ints_at hx
   have c2:wr.cell? ⟨g,J,none⟩=some (.int .i64 y):=by rw [World.ownsRow.cellAt HO.out J (by omega)];exact ints_at hy
   have f1:=World.ownsRow.frozenAt HO.out I
   have f2:=World.ownsRow.frozenAt HO.out J
   have HR:=hide (revAt_step hJ (by omega) hx hy)
   rw [hJI]
   clear hx hy hJ
   go_wp2_with fail
   go_region
   have HE:Hid (((wr.setCell ⟨g,I,none⟩ (.int .i64 y)).setCell ⟨g,J,none⟩ (.int .i64 x)).drew.ownsRow B 3 1 (.slice (some ⟨g,0,none⟩) l.length c) l.length (ints (revAt l (I+1)))):=hide (by rw [←HR.out];exact own_set2 HO.out)
   have HE2:Hid (Below B w ((wr.setCell ⟨g,I,none⟩ (.int .i64 y)).setCell ⟨g,J,none⟩ (.int .i64 x)).drew):=hide (((HW.out.setCell (p:=⟨g,I,none⟩) hB _).setCell (p:=⟨g,J,none⟩) hB _).drew)
   go_wp2_with fail
   go_roundw
   case rel=>exact⟨I+1,by omega,by go_num,by rw [←hJI];go_num,HE,HE2⟩
   case measure=>simp [intOf];omega
  ·have hnl:¬(I:Int) < (l.length:Int) - 1 - I:=by omega
   have HE:Hid (wr.ownsRow B 3 1 (.slice (some ⟨g,0,none⟩) l.length c) l.length (ints r)):=hide (by rw [←hr.out,←revAt_end (i:=I) (by omega)];exact HO.out)
   go_wp2_with fail
   go_end0
   exact⟨rfl,HE.out,HW.out⟩
open G (Tok Er Ins Fun)
theorem nextF_len {f:Fun} (hF:Ful f) {k:Nat} (hk:k < f.2.2.2.1.length):(nextF f k).length≤1000000:=by
 have hb:f.2.2.2.1[k]? =some f.2.2.2.1[k]:=List.getElem?_eq_getElem hk
 obtain⟨x,hx,hl,h63⟩:=hF.last (List.mem_of_getElem? hb)
 rw [nextF_at hb,hl]
 exact Nat.le_trans (onceL_len _) h63
theorem rpost_try (nm:List UInt8) (ps:List Int) (rt pl:Int) (bl:List (List Ins)) (ao bo:Option Addr) (c cb:Nat) (hF:Ful (nm,ps,rt,bl,pl)) (hT:Tos (nm,ps,rt,bl,pl)):∀(N k:Nat) (done op:List Int) (vd vo:Value) (w:World),
  FunV w (nm,ps,rt,bl,pl) (.agg #[.string (bs nm),.slice ao ps.length c,.int .i64 rt,.slice bo bl.length cb,.int .i64 pl])→
  w.ownsRow 0 3 1 vd done.length (ints done)→w.ownsRow 0 3 1 vo op.length (ints op)→N+op.length=bl.length→(op.Nodup∧Num bl.length op)→(done.Nodup∧Num bl.length done)→k < bl.length→(k:Int) ∉ done→(k:Int) ∉ op→
  Calls Tryz.prog 106 #[.agg #[.string (bs nm),.slice ao ps.length c,.int .i64 rt,.slice bo bl.length cb,.int .i64 pl],.int .i64 k,vd,vo] w fun e w'=>∃v,e= .returned v∧w'.ownsRow w.heap.size 3 1 v (postF (nm,ps,rt,bl,pl) N k done op).length (ints (postF (nm,ps,rt,bl,pl) N k done op))∧Below w.heap.size w w':=by
 intro N
 induction N with
 |zero=>
  intro k done op vd vo w _ _ _ hN ho _ hk _ hko
  exfalso
  have h1:=fit_len bl.length ((k:Int) :: op) (List.nodup_cons.2 ⟨hko,ho.1⟩) (fun m hm=>by
   rcases List.mem_cons.1 hm with rfl | hm
   ·omega
   ·exact ho.2 m hm)
  simp at h1
  omega
 |succ N ih=>
  intro k done op vd vo w hv hd ho hN hon hdn hk hkd hko
  have IH:=hide ih
  clear ih
  obtain⟨do',dc,rfl⟩:=own_len hd
  obtain⟨oo,oc,rfl⟩:=own_len ho
  obtain⟨i0,hi0,hz0,hz1,hz2⟩:=info_parts Tryz.info3
  have b0:=below_box w (.cells #[.string (bs nm),.slice ao ps.length c,.int .i64 rt,.slice bo bl.length cb,.int .i64 pl] 36)
  have X0:=hide (L5.Box.new w [.string (bs nm),.slice ao ps.length c,.int .i64 rt,.slice bo bl.length cb,.int .i64 pl] 36)
  have HV:=hide (hv.below b0)
  have HD:=hide (own_below b0 _ _ _ _ _ _ hd)
  have HO:=hide (own_below b0 _ _ _ _ _ _ ho)
  have B0:=hide b0
  have HFu:=hide hF
  have HT:=hide hT
  have hbl:bl.length≤1000000:=hF.1
  have hop:op.length+1≤bl.length:=by omega
  have hdl:done.length≤bl.length:=fit_len _ _ hdn.1 hdn.2
  have HON:=hide hon
  have HDN:=hide hdn
  have HKD:=hide hkd
  have HKO:=hide hko
  have HN:=hide hN
  clear b0 hv hF hT hd ho hon hdn hkd hko hN
  obtain⟨path,hpa⟩:∃path,path=op ++ [(k:Int)]:=⟨_,rfl⟩
  obtain⟨l,hle⟩:∃l,l=nextF (nm,ps,rt,bl,pl) k:=⟨_,rfl⟩
  have HPN:Hid (path.Nodup∧Num bl.length path):=hide (by
   rw [hpa]
   refine⟨List.nodup_append.2 ⟨HON.out.1,by simp,by rintro x hx y hy rfl;simp at hy;exact HKO.out (hy ▸ hx)⟩,?_⟩
   intro m hm
   rcases List.mem_append.1 hm with hm | hm
   ·exact HON.out.2 m hm
   ·simp at hm;subst hm;omega)
  have HPL:Hid (N+path.length=bl.length):=hide (by have:=HN.out;rw [hpa];simp;omega)
  have hpl:path.length≤bl.length:=by rw [hpa];simp;omega
  rw [postF_succ,Int.toNat_natCast,←hpa,←hle]
  have HPA:=hide hpa
  have hll:l.length≤1000000:=by rw [hle];exact nextF_len HFu.out hk
  have HLE:=hide hle
  clear hpa hle
  go_enter Tryz.func106,Tryz.ntmps106
  go_upto_region 1 with fail
  show Code.wp _ _ _ _ (w.alloc (.cells #[.string (bs nm),.slice ao ps.length c,.int .i64 rt,.slice bo bl.length cb,.int .i64 pl] 36))
  replace X0:Hid (L5.Box (w.alloc (.cells #[.string (bs nm),.slice ao ps.length c,.int .i64 rt,.slice bo bl.length cb,.int .i64 pl] 36)) w.heap.size [.string (bs nm),.slice ao ps.length c,.int .i64 rt,.slice bo bl.length cb,.int .i64 pl]):=X0
  generalize w.alloc (.cells #[.string (bs nm),.slice ao ps.length c,.int .i64 rt,.slice bo bl.length cb,.int .i64 pl] 36)=W at *
  have hB0:=B0.out.size
  go_wp2_with (at_builtin;refine append_ints rfl (.tmp 14) (.tmp 15) rfl W.heap.size 0 (.slice none 0 0) _ 0 [] op rfl (World.ownsRow_nil _ _ _ _) rfl HO.out (by omega) (Nat.le_refl _) ?_;intro v1 w1 own1 grow1;refine Hid.out ?_)
  have G1:Hid (w1.ownsRow W.heap.size 3 1 v1 op.length (ints op)∧Below W.heap.size W w1):=hide ⟨by simpa using own1,Below.grown (Below.refl _ _) grow1 (Nat.le_refl _) (by intro b hb;simp [Value.ownBlock] at hb)⟩
  clear own1 grow1
  have hs1:=G1.out.2.size
  refine hide ?_
  go_wp2_with (at_builtin;refine wpList_append_own _ rfl (.tmp 17) (.tmp 19) 33 rfl W.heap.size 3 i0 _ 1 8 Tryz.underlying33 hi0 hz0 hz1 hz2 rfl (by decide) _ _ _ rfl (G1.out.1.alloc _) ⟨w1.heap.size,0,none⟩ 1 1 [.int .i64 k] rfl rfl one_cell one_one (by unfold maxLen;omega) (by omega) (by simp;omega) ?_;intro v2 w2 own2 grow2 _;refine Hid.out ?_)
  have G2:Hid (Grw W path v2 w2):=hide (by rw [HPA.out];exact Grw.step G1.out own2 grow2)
  clear own2 grow2 G1 hs1
  have X2:=hide (X0.out.below G2.out.2)
  obtain⟨x0,x1,x2,x3,x4⟩:_∧_∧_∧_∧_:=⟨X2.out.2 0 _ rfl,X2.out.2 1 _ rfl,X2.out.2 2 _ rfl,X2.out.2 3 _ rfl,X2.out.2 4 _ rfl⟩
  have HNx:=hide (next_any (nm,ps,rt,bl,pl) k _ w2 (HV.out.below G2.out.2) HFu.out hk)
  have HNu:=hide (HT.out k)
  rw [←HLE.out] at HNx HNu
  clear HLE HPA HON HKO HN hop
  refine hide ?_
  go_wp2_with fail
  refine HNx.out.mono ?_;rintro e w3 ⟨u,rfl,hu,b3⟩
  have G3:Hid (Grw W path v2 w3):=hide ⟨own_below b3 _ _ _ _ _ _ G2.out.1,below_step G2.out.2 b3⟩
  obtain⟨uo,uc,rfl⟩:=own_len hu
  obtain⟨vo2,vc2,rfl⟩:=own_len G3.out.1
  have HL:=hide (own_base hu (Nat.zero_le _))
  clear x0 x1 x2 x3 x4 hu b3 G2 X2 HNx
  go_wp2_with fail
  go_loopw [10,12] (fun v i wr=>∃I:Nat,I≤l.length∧i= .int .i64 I∧Hid (wr.ownsRow 0 3 1 v (walkF (nm,ps,rt,bl,pl) N path done (l.take I)).length (ints (walkF (nm,ps,rt,bl,pl) N path done (l.take I))))∧Hid (Below w3.heap.size w3 wr)) (fun _ i _=>l.length - (intOf i).toNat)
  case atStart=>exact⟨0,Nat.zero_le _,rfl,hide (own_below G3.out.2 _ _ _ _ _ _ HD.out),hide (Below.refl _ _)⟩
  case round=>
   obtain⟨I,hI,rfl,HG,HB⟩:=hrel
   by_cases hit:I < l.length
   ·obtain⟨m,hm⟩:∃m,l[I]? =some m:=⟨l[I],List.getElem?_eq_getElem hit⟩
    have hiI:(I:Int) < l.length:=by omega
    have HTk:=hide (walkF_take (f:=(nm,ps,rt,bl,pl)) (N:=N) (path:=path) (done:=done) hm)
    have HEx:Hid (Ext bl.length done path (walkF (nm,ps,rt,bl,pl) N path done (l.take I))):=hide (walk_ext HT.out N path done _ _ (fun x hx=>HNu.out x (List.mem_of_mem_take hx)) (Ext.refl _ _ _))
    have hm0:=HNu.out m (List.mem_of_getElem? hm)
    have hm1:m < bl.length:=hm0.2
    have hm2:0≤m:=hm0.1
    have HLw:=hide (own_below HB.out _ _ _ _ _ _ HL.out)
    have HPw:=hide (own_below HB.out _ _ _ _ _ _ G3.out.1)
    rcases own_view HLw.out with ⟨e0,hn⟩ | ⟨gl,capl,e0,l1,l2,l3,l4,l5,l6⟩
    ·omega
    injection e0 with e1 e2 e3
    subst e1 e3
    have c1:=l5 I _ (ints_at hm)
    have HWw:=hide (below_step G3.out.2 HB.out)
    generalize hout:walkF (nm,ps,rt,bl,pl) N path done (l.take I)=out at *
    obtain⟨go,oc2,rfl,so1,so2,so3⟩:=ints_of HG.out
    obtain⟨gp,pc2,e0,sp1,sp2,sp3⟩:=ints_of HPw.out
    injection e0 with e1 e2 e3
    subst e1 e3
    have HH1:=hide (rhas_any out m go oc2 wr so1 (Nat.le_trans so2 so3))
    have HH2:=hide (rhas_any path m vo2 vc2 wr sp1 (Nat.le_trans sp2 sp3))
    clear so1 so2 so3 sp1 sp2 sp3 l1 l2 l3 l5 l6 hm hm0 hout e2
    go_wp2_with fail
    refine HH1.out.mono ?_;rintro e w8 ⟨rfl,rfl⟩
    cases h1:hasL out m with
    |true=>
     have HE:=HTk.out
     rw [stepF_no (.inl h1)] at HE
     replace HE:=hide HE
     replace h1:=hide h1
     go_wp2_with fail
     go_roundw
     case rel=>exact⟨I+1,by omega,by go_num,by rw [HE.out];exact HG,HB⟩
     case measure=>simp [intOf];omega
    |false=>
     go_wp2_with fail
     refine HH2.out.mono ?_;rintro e w9 ⟨rfl,rfl⟩
     cases h2:hasL path m with
     |true=>
      have HE:=HTk.out
      rw [stepF_no (.inr h2)] at HE
      replace HE:=hide HE
      replace h1:=hide h1
      replace h2:=hide h2
      go_wp2_with fail
      go_roundw
      case rel=>exact⟨I+1,by omega,by go_num,by rw [HE.out];exact HG,HB⟩
      case measure=>simp [intOf];omega
     |false=>
      have HE:=HTk.out
      rw [stepF_yes h1 h2] at HE
      replace HE:=hide HE
      have hmn:((m.toNat:Nat):Int)=m:=by omega
      have hmb:m.toNat < bl.length:=by omega
      have HC:Hid (Calls Tryz.prog 106 #[.agg #[.string (bs nm),.slice ao ps.length c,.int .i64 rt,.slice bo bl.length cb,.int .i64 pl],.int .i64 m,.slice go out.length oc2,.slice vo2 path.length vc2] w9.drew fun e w'=>∃v,e= .returned v∧w'.ownsRow w9.drew.heap.size 3 1 v (postF (nm,ps,rt,bl,pl) N m out path).length (ints (postF (nm,ps,rt,bl,pl) N m out path))∧Below w9.drew.heap.size w9.drew w'):=hide (by
       have bd:=L5.below_drew1 w9
       have:=IH.out m.toNat out path (.slice go out.length oc2) (.slice vo2 path.length vc2) w9.drew (HV.out.below (below_step HWw.out bd)) (own_below bd _ _ _ _ _ _ HG.out) (own_below bd _ _ _ _ _ _ (own_base HPw.out (Nat.zero_le _))) HPL.out HPN.out (HEx.out.num HDN.out.1 HDN.out.2) hmb (by rw [hmn];exact hasL_no.1 h1) (by rw [hmn];exact hasL_no.1 h2)
       rwa [hmn] at this)
      replace h1:=hide h1
      replace h2:=hide h2
      have q0:w.heap.size < w9.heap.size:=(X0.out.below HWw.out).1
      obtain⟨x0,x1,x2,x3,x4⟩:_∧_∧_∧_∧_:=⟨(X0.out.below HWw.out).2 0 _ rfl,(X0.out.below HWw.out).2 1 _ rfl,(X0.out.below HWw.out).2 2 _ rfl,(X0.out.below HWw.out).2 3 _ rfl,(X0.out.below HWw.out).2 4 _ rfl⟩
      go_wp2_with fail
      go_region_held3 (fun w'=>w'.cell? ⟨w.heap.size,0,none⟩=some (.string (bs nm))∧w'.cell? ⟨w.heap.size,1,none⟩=some (.slice ao ps.length c)∧w'.cell? ⟨w.heap.size,2,none⟩=some (.int .i64 rt)∧w'.cell? ⟨w.heap.size,3,none⟩=some (.slice bo bl.length cb)∧w'.cell? ⟨w.heap.size,4,none⟩=some (.int .i64 pl)∧w'.cell? ⟨gl,I,none⟩=some (.int .i64 m))
       (first
        |(go_keep;done)
        |(exact⟨(b9.cell (p:=⟨_,_,none⟩) q0).trans x0,(b9.cell (p:=⟨_,_,none⟩) q0).trans x1,(b9.cell (p:=⟨_,_,none⟩) q0).trans x2,(b9.cell (p:=⟨_,_,none⟩) q0).trans x3,(b9.cell (p:=⟨_,_,none⟩) q0).trans x4,(b9.cell (p:=⟨_,_,none⟩) l4).trans c1⟩))
       ((first
        |(go_at_call 106;refine HC.out.mono ?_;rintro e wA ⟨v9,rfl,o9,b9⟩)))
      have bA:=Below.undrew b9
      have HE2:Hid (wA.ownsRow 0 3 1 v9 (walkF (nm,ps,rt,bl,pl) N path done (l.take (I+1))).length (ints (walkF (nm,ps,rt,bl,pl) N path done (l.take (I+1))))):=hide (by rw [HE.out];exact own_base o9 (Nat.zero_le _))
      have HB2:=hide (below_step HB.out bA)
      clear o9 b9 bA
      go_wp2_with fail
      go_roundw
      case rel=>exact⟨I+1,by omega,by go_num,HE2,HB2⟩
      case measure=>simp [intOf];omega
   ·obtain rfl:I=l.length:=by omega
    have hex:Ext bl.length done path (walkF (nm,ps,rt,bl,pl) N path done l):=walk_ext HT.out N path done _ _ HNu.out (Ext.refl _ _ _)
    have hol:(walkF (nm,ps,rt,bl,pl) N path done l).length≤bl.length:=fit_len _ _ (hex.num HDN.out.1 HDN.out.2).1 (hex.num HDN.out.1 HDN.out.2).2
    replace HG:=HG.out
    rw [List.take_length] at HG
    obtain⟨out,hout⟩:∃out,out=walkF (nm,ps,rt,bl,pl) N path done l:=⟨_,rfl⟩
    rw [←hout] at HG hol
    replace HG:=hide HG
    have HOu:=hide hout
    clear hex hout
    have HWw:=hide (below_step G3.out.2 HB.out)
    have hsW:=HWw.out.size
    go_wp2_with (at_builtin;refine append_ints rfl (.tmp 55) (.tmp 56) rfl W.heap.size 0 (.slice none 0 0) _ 0 [] out rfl (World.ownsRow_nil _ _ _ _) rfl HG.out (by omega) hsW ?_;intro v5 w5 own5 grow5;refine Hid.out ?_)
    have G5:Hid (Grw W out v5 w5):=hide ⟨by simpa using own5,Below.grown HWw.out grow5 hsW (by intro b hb;simp [Value.ownBlock] at hb)⟩
    clear own5 grow5
    have hs5:=G5.out.2.size
    refine hide ?_
    go_wp2_with (at_builtin;refine wpList_append_own _ rfl (.tmp 58) (.tmp 60) 33 rfl W.heap.size 3 i0 _ 1 8 Tryz.underlying33 hi0 hz0 hz1 hz2 rfl (by decide) _ _ _ rfl (G5.out.1.alloc _) ⟨w5.heap.size,0,none⟩ 1 1 [.int .i64 k] rfl rfl one_cell one_one (by unfold maxLen;omega) (by omega) (by simp;omega) ?_;intro v6 w6 own6 grow6 _;refine Hid.out ?_)
    have G6:Hid (Grw W (out ++ [(k:Int)]) v6 w6):=hide (Grw.step G5.out own6 grow6)
    clear own6 grow6 G5
    have HF2:=hide (own_base G6.out.1 hB0)
    rw [HOu.out] at HF2
    refine hide ?_
    go_wp2_with fail
    go_ret
    exact⟨_,rfl,HF2.out,below_step B0.out G6.out.2⟩
def orderF (f:Fun):List Int:=(postF f f.2.2.2.1.length 0 [] []).reverse
theorem post0_num {f:Fun} (hT:Tos f) (h0:0 < f.2.2.2.1.length):(postF f f.2.2.2.1.length 0 [] []).Nodup∧Num f.2.2.2.1.length (postF f f.2.2.2.1.length 0 [] []):=
 (post_ext hT _ 0 [] [] ⟨by omega,by omega⟩ (by simp) (by simp)).num List.nodup_nil (fun m hm=>by simp at hm)
theorem orderF_len {f:Fun} (hT:Tos f) (h0:0 < f.2.2.2.1.length):(orderF f).length≤f.2.2.2.1.length:=by
 unfold orderF;rw [List.length_reverse]
 exact fit_len _ _ (post0_num hT h0).1 (post0_num hT h0).2
theorem rpost_any (f:Fun) (v:Value) (w:World) (hv:FunV w f v) (hF:Ful f) (hT:Tos f) (h0:0 < f.2.2.2.1.length):
  Calls Tryz.prog 106 #[v,.int .i64 0,.slice none 0 0,.slice none 0 0] w fun e w'=>∃u,e= .returned u∧w'.ownsRow w.heap.size 3 1 u (postF f f.2.2.2.1.length 0 [] []).length (ints (postF f f.2.2.2.1.length 0 [] []))∧Below w.heap.size w w':=by
 obtain⟨nm,ps,rt,bl,pl⟩:=f
 have hv2:=hv
 obtain⟨vp,vb,rfl,⟨ao,c,rfl,h1,_⟩,h2⟩:=hv
 obtain⟨bo,cb,rfl,_⟩:=h2
 exact rpost_try nm ps rt pl bl ao bo c cb hF hT bl.length 0 [] [] (.slice none 0 0) (.slice none 0 0) w hv2 (World.ownsRow_nil _ _ _ _) (World.ownsRow_nil _ _ _ _) (by simp) ⟨List.nodup_nil,fun m hm=>by simp at hm⟩ ⟨List.nodup_nil,fun m hm=>by simp at hm⟩ h0 (by simp) (by simp)
theorem rev_take {l:List Int} {i:Nat} {m:Int} (h:l[l.length - 1 - i]? =some m) (hi:i < l.length):l.reverse.take (i+1)=l.reverse.take i ++ [m]:=by
 refine take_more ?_
 rw [List.getElem?_reverse hi];exact h
theorem rorder_try (nm:List UInt8) (ps:List Int) (rt pl:Int) (bl:List (List Ins)) (ao bo:Option Addr) (c cb:Nat) (w:World)
  (hv:FunV w (nm,ps,rt,bl,pl) (.agg #[.string (bs nm),.slice ao ps.length c,.int .i64 rt,.slice bo bl.length cb,.int .i64 pl])) (hF:Ful (nm,ps,rt,bl,pl)) (hT:Tos (nm,ps,rt,bl,pl)) (h0:0 < bl.length):
  Calls Tryz.prog 77 #[.agg #[.string (bs nm),.slice ao ps.length c,.int .i64 rt,.slice bo bl.length cb,.int .i64 pl]] w fun e w'=>∃u,e= .returned u∧w'.ownsRow w.heap.size 3 1 u (orderF (nm,ps,rt,bl,pl)).length (ints (orderF (nm,ps,rt,bl,pl)))∧Below w.heap.size w w':=by
 obtain⟨i0,hi0,hz0,hz1,hz2⟩:=info_parts Tryz.info3
 have b0:=below_box w (.cells #[.string (bs nm),.slice ao ps.length c,.int .i64 rt,.slice bo bl.length cb,.int .i64 pl] 36)
 have X0:=hide (L5.Box.new w [.string (bs nm),.slice ao ps.length c,.int .i64 rt,.slice bo bl.length cb,.int .i64 pl] 36)
 have HP:=hide (rpost_any (nm,ps,rt,bl,pl) _ _ (hv.below b0) hF hT h0)
 have B0:=hide b0
 have hol:=orderF_len hT h0
 have hbl:bl.length≤1000000:=hF.1
 unfold orderF at hol ⊢
 rw [List.length_reverse] at hol
 replace hol:(postF (nm,ps,rt,bl,pl) bl.length 0 [] []).length≤bl.length:=hol
 replace HP:Hid (Calls Tryz.prog 106 #[.agg #[.string (bs nm),.slice ao ps.length c,.int .i64 rt,.slice bo bl.length cb,.int .i64 pl],.int .i64 0,.slice none 0 0,.slice none 0 0] _ fun e w'=>∃u,e= .returned u∧w'.ownsRow _ 3 1 u (postF (nm,ps,rt,bl,pl) bl.length 0 [] []).length (ints (postF (nm,ps,rt,bl,pl) bl.length 0 [] []))∧Below _ _ w'):=HP
 show Calls _ _ _ _ fun e w'=>∃u,e= .returned u∧w'.ownsRow w.heap.size 3 1 u (postF (nm,ps,rt,bl,pl) bl.length 0 [] []).reverse.length (ints (postF (nm,ps,rt,bl,pl) bl.length 0 [] []).reverse)∧Below w.heap.size w w'
 generalize postF (nm,ps,rt,bl,pl) bl.length 0 [] []=l at *
 clear hv hF hT h0 b0
 go_enter Tryz.func77,Tryz.ntmps77
 go_upto_region 1 with fail
 show Code.wp _ _ _ _ (w.alloc (.cells #[.string (bs nm),.slice ao ps.length c,.int .i64 rt,.slice bo bl.length cb,.int .i64 pl] 36))
 replace X0:Hid (L5.Box (w.alloc (.cells #[.string (bs nm),.slice ao ps.length c,.int .i64 rt,.slice bo bl.length cb,.int .i64 pl] 36)) w.heap.size [.string (bs nm),.slice ao ps.length c,.int .i64 rt,.slice bo bl.length cb,.int .i64 pl]):=X0
 generalize w.alloc (.cells #[.string (bs nm),.slice ao ps.length c,.int .i64 rt,.slice bo bl.length cb,.int .i64 pl] 36)=W at *
 obtain⟨x0,x1,x2,x3,x4⟩:_∧_∧_∧_∧_:=⟨X0.out.2 0 _ rfl,X0.out.2 1 _ rfl,X0.out.2 2 _ rfl,X0.out.2 3 _ rfl,X0.out.2 4 _ rfl⟩
 go_wp2_with fail
 refine HP.out.mono ?_;rintro e w1 ⟨u,rfl,hu,b1⟩
 have HU:=hide hu
 have B1:=hide b1
 obtain⟨uo,uc,rfl⟩:=own_len hu
 clear hu b1 HP x0 x1 x2 x3 x4
 go_wp2_with fail
 go_loopw [4,5] (fun v i wr=>∃I:Nat,I≤l.length∧i= .int .i64 ((l.length:Int) - 1 - I)∧Hid (Grw w1 (l.reverse.take I) v wr)) (fun _ i _=>(intOf i+1).toNat)
 case atStart=>exact⟨0,Nat.zero_le _,by go_num,hide (Grw.start _)⟩
 case round=>
  obtain⟨I,hI,rfl,HG⟩:=hrel
  by_cases hit:I < l.length
  ·obtain⟨m,hm⟩:∃m,l[l.length - 1 - I]? =some m:=⟨_,List.getElem?_eq_getElem (by omega)⟩
   have HR:=hide (rev_take hm hit)
   rcases own_view HU.out with ⟨e0,hn⟩ | ⟨gl,capl,e0,l1,l2,l3,l4,l5,l6⟩
   ·omega
   injection e0 with e1 e2 e3
   subst e1 e3
   have c1:=(HG.out.2.cell (p:=⟨gl,l.length - 1 - I,none⟩) l4).trans (l5 _ _ (ints_at hm))
   obtain⟨J,hJ⟩:∃J,J=l.length - 1 - I:=⟨_,rfl⟩
   have hJI:(l.length:Int) - 1 - I=(J:Int):=by omega
   rw [←hJ] at c1
   rw [hJI]
   have hlen:(l.reverse.take I).length=I:=by simp;omega
   have hWs:=HG.out.2.size
   have hJl:(J:Int) < l.length:=by omega
   clear l1 l2 l3 l5 l6 hm e2 hJ
   go_wp2_with (at_builtin;refine wpList_append_own _ rfl (.tmp 15) (.tmp 20) 33 rfl w1.heap.size 3 i0 _ 1 8 Tryz.underlying33 hi0 hz0 hz1 hz2 rfl (by decide) _ _ _ rfl (HG.out.1.alloc _) ⟨wr.heap.size,0,none⟩ 1 1 [.int .i64 m] rfl rfl one_cell one_one (by unfold maxLen;omega) (by omega) (by simp;omega) ?_;intro v2 w2 own2 grow2 _;refine Hid.out ?_)
   have HE:Hid (Grw w1 (l.reverse.take (I+1)) v2 w2):=hide (by rw [HR.out];exact HG.out.step own2 grow2)
   clear own2 grow2
   refine hide ?_
   go_wp2_with fail
   go_roundw
   case rel=>exact⟨I+1,by omega,by rw [←hJI];go_num,HE⟩
   case measure=>simp [intOf]
  ·obtain rfl:I=l.length:=by omega
   have HE:Hid (Grw w1 l.reverse _ wr):=hide (by have:=HG.out;rwa [List.take_of_length_le (by simp)] at this)
   have HF:=hide (own_base HE.out.1 (Nat.le_trans B0.out.size B1.out.size))
   go_wp2_with fail
   go_ret
   exact⟨_,rfl,HF.out,below_step B0.out (below_step B1.out HE.out.2)⟩
theorem rorder_any (f:Fun) (v:Value) (w:World) (hv:FunV w f v) (hF:Ful f) (hT:Tos f) (h0:0 < f.2.2.2.1.length):
  Calls Tryz.prog 77 #[v] w fun e w'=>∃u,e= .returned u∧w'.ownsRow w.heap.size 3 1 u (orderF f).length (ints (orderF f))∧Below w.heap.size w w':=by
 obtain⟨nm,ps,rt,bl,pl⟩:=f
 have hv2:=hv
 obtain⟨vp,vb,rfl,⟨ao,c,rfl,h1,_⟩,h2⟩:=hv
 obtain⟨bo,cb,rfl,_⟩:=h2
 exact rorder_try nm ps rt pl bl ao bo c cb w hv2 hF hT h0
def placeAt:List Int→Int→Nat→Int
 |[],_,_=> -1
 |m :: l,n,i=>if m=n then i else placeAt l n (i+1)
def placeL (l:List Int) (n:Int):Int:=placeAt l n 0
theorem placeAt_yes:∀(l:List Int) (n:Int) (k i:Nat),hasL (l.take k) n=false→l[k]? =some n→placeAt l n i=((i+k:Nat):Int):=by
 intro l
 induction l with
 |nil=>intro n k i _ h;simp at h
 |cons m l ih=>
  intro n k i h1 h2
  cases k with
  |zero=>simp at h2;subst h2;simp [placeAt]
  |succ k=>
   simp only [List.take_succ_cons,hasL,List.any_cons,Bool.or_eq_false_iff,decide_eq_false_iff_not] at h1
   rw [placeAt,if_neg h1.1,ih n k (i+1) h1.2 (by simpa using h2)]
   congr 1;omega
theorem placeAt_no:∀(l:List Int) (n:Int) (i:Nat),hasL l n=false→placeAt l n i= -1:=by
 intro l
 induction l with
 |nil=>intro n i _;rfl
 |cons m l ih=>
  intro n i h
  simp only [hasL,List.any_cons,Bool.or_eq_false_iff,decide_eq_false_iff_not] at h
  rw [placeAt,if_neg h.1]
  exact ih n (i+1) h.2
theorem placeL_yes {l:List Int} {n:Int} {k:Nat} (h1:hasL (l.take k) n=false) (h2:l[k]? =some n):(k:Int)=placeL l n:=by
 rw [placeL,placeAt_yes l n k 0 h1 h2];simp
theorem placeL_no {l:List Int} {n:Int} (h:hasL l n=false):(-1:Int)=placeL l n:=(placeAt_no l n 0 h).symm
def placesF (f:Fun):List Int:=(List.range f.2.2.2.1.length).map fun(k:Nat)=>placeL (orderF f) (k:Int)
theorem placesF_len (f:Fun):(placesF f).length=f.2.2.2.1.length:=by simp [placesF]
end Go.Proofs.YtljkgcfnoegibaaGreatDoor
