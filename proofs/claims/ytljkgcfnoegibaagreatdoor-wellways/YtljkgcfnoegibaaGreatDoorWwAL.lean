/- Texts of one chain, joined. -/
import Derived.Test.YtljkgcfnoegibaaGreatDoorWwAJ
import Derived.Test.YtljkgcfnoegibaaGreatDoorWwAK
import Derived.Deep.LoopGhost
set_option maxHeartbeats 8000000
set_option maxRecDepth 20000
namespace Go.Proofs.YtljkgcfnoegibaaGreatDoor
open Go Go.RowKit
open G (Tok Er Ins Fun)
theorem labels_any (b:List Ins) (x:Ins) (aok:Option Addr) (capk:Nat) (W w:World) (hb:BlkR W b (.slice aok b.length capk)) (bel:Below W.heap.size W w) (hx:b[b.length - 1]? =some x):
  Calls Tryz.prog 122 #[.slice aok b.length capk] w fun e w'=>(∃v,e= .returned v∧IntsV W x.2.2.2.2.2.1 v)∧w'=w:=by
 obtain⟨_,_,e',m1,m2,kk⟩:=hb
 injection e' with e1 e2 e4
 subst e1 e4
 have hjt:b.length - 1 < b.length:=(List.getElem?_eq_some_iff.1 hx).1
 rcases kk with kk | ⟨gi,oi,rfl,kk⟩
 ·subst kk;simp at hjt
 obtain⟨ai,ti,ca,ct,hv,r0,r1,r2,r3,r4,r5,r6,r7⟩:=(kk (b.length - 1) _ hx).val
 have hgi:gi < W.heap.size:=(kk (b.length - 1) _ hx).1
 replace r5:=(bel.cell (p:=⟨gi,oi+(b.length - 1) * 8+5,none⟩) hgi).trans r5
 have HV:Hid (IntsV W x.2.2.2.2.2.1 (.slice ti x.2.2.2.2.2.1.length ct)):=hide (by
  obtain⟨a1,t1,c1,c2,e,s1,s2,s3,s4,s5,s6⟩:=hv
  injection e with e
  have e2:=congrArg (fun a=>a[5]?) e
  simp at e2
  rw [e2.1,e2.2];exact⟨t1,c2,rfl,s2,s5,s6⟩)
 obtain⟨J,hJ⟩:∃J,J=b.length - 1:=⟨_,rfl⟩
 rw [←hJ] at r5
 have hJI:(b.length:Int) - 1=(J:Int):=by omega
 have hJl:(J:Int) < b.length:=by omega
 unfold maxLen at m2
 have hb0:((b.length:Int) == 0)=false:=beq_eq_false_iff_ne.2 (by omega)
 clear hv kk hx r0 r1 r2 r3 r4 r6 r7 hJ e2 bel
 go_enter Tryz.func122,Tryz.ntmps122
 go_wp2_with fail
 go_ret
 exact⟨⟨_,rfl,HV.out⟩,rfl⟩
theorem hasL_once (l:List Int) (n:Int):hasL (onceL l) n=hasL l n:=by
 have key:∀(l acc:List Int),hasL (l.foldl addL acc) n=(hasL acc n || hasL l n):=by
  intro l
  induction l with
  |nil=>intro acc;simp [hasL]
  |cons m l ih=>
   intro acc
   rw [List.foldl_cons,ih]
   have e:hasL (m :: l) n=(decide (m=n) || hasL l n):=rfl
   cases h:hasL acc m with
   |true=>
    rw [addL_yes h,e]
    by_cases hm:m=n
    ·subst hm;rw [h];simp
    ·simp [hm]
   |false=>rw [addL_no h,hasL_snoc,e,Bool.or_assoc]
 simpa [onceL,hasL] using key l []
def rowsIn (f:Fun) (K:Nat) (acc:List Int):List (List Int):=(succsF f).take K ++ acc :: List.replicate (f.2.2.2.1.length - K - 1) []
def rowsTo (f:Fun) (K:Nat):List (List Int):=(succsF f).take K ++ List.replicate (f.2.2.2.1.length - K) []
theorem succsF_len (f:Fun):(succsF f).length=f.2.2.2.1.length:=by simp [succsF]
theorem succsF_at {f:Fun} {K:Nat} (h:K < f.2.2.2.1.length):(succsF f)[K]? =some (nextF f K):=by
 have hb:f.2.2.2.1[K]? =some f.2.2.2.1[K]:=List.getElem?_eq_getElem h
 rw [nextF_at hb]
 show(f.2.2.2.1.map _)[K]? =_
 rw [List.getElem?_map,hb];rfl
theorem rowsTo_in {f:Fun} {K:Nat} (h:K < f.2.2.2.1.length):rowsTo f K=rowsIn f K []:=by
 unfold rowsTo rowsIn
 obtain⟨M,hM⟩:∃M,f.2.2.2.1.length - K=M+1:=⟨f.2.2.2.1.length - K - 1,by omega⟩
 rw [hM,Nat.add_sub_cancel,List.replicate_succ]
theorem rowsIn_to {f:Fun} {K:Nat} (h:K < f.2.2.2.1.length):rowsIn f K (nextF f K)=rowsTo f (K+1):=by
 unfold rowsTo rowsIn
 rw [take_more (succsF_at h),List.append_assoc,Nat.sub_add_eq];rfl
theorem rowsTo_end (f:Fun):rowsTo f f.2.2.2.1.length=succsF f:=by
 unfold rowsTo
 rw [Nat.sub_self,List.replicate_zero,List.append_nil,List.take_of_length_le (by rw [succsF_len];exact Nat.le_refl _)]
theorem take_len {f:Fun} {K:Nat} (h:K < f.2.2.2.1.length):((succsF f).take K).length=K:=by rw [List.length_take,succsF_len];omega
theorem rowsIn_len {f:Fun} {K:Nat} (acc:List Int) (h:K < f.2.2.2.1.length):(rowsIn f K acc).length=f.2.2.2.1.length:=by
 unfold rowsIn;rw [List.length_append,take_len h,List.length_cons,List.length_replicate];omega
theorem rowsIn_at {f:Fun} {K:Nat} (acc:List Int) (h:K < f.2.2.2.1.length):(rowsIn f K acc)[K]? =some acc:=by
 unfold rowsIn;rw [List.getElem?_append_right (by rw [take_len h];exact Nat.le_refl _),take_len h,Nat.sub_self];rfl
theorem rowsIn_set {f:Fun} {K:Nat} (acc acc':List Int) (h:K < f.2.2.2.1.length):(rowsIn f K acc).set K acc'=rowsIn f K acc':=by
 unfold rowsIn;rw [List.set_append_right _ _ (by rw [take_len h];exact Nat.le_refl _),take_len h,Nat.sub_self];rfl
def FrOk (n K:Nat) (acc fr:List Int):Prop:=fr.length=n∧∀m:Nat,m < n→∃c:Int,fr[m]? =some c∧c≤(K:Int)+1∧(c=(K:Int)+1↔hasL acc m=true)
theorem FrOk.start (n:Nat):FrOk n 0 [] (List.replicate n 0):=by
 refine⟨by simp,fun m hm=>⟨0,by rw [List.getElem?_replicate,if_pos hm],by omega,?_⟩⟩
 simp [hasL]
theorem FrOk.next {n K:Nat} {acc fr:List Int} (h:FrOk n K acc fr):FrOk n (K+1) [] fr:=by
 refine⟨h.1,fun m hm=> ?_⟩
 obtain⟨c,h1,h2,_⟩:=h.2 m hm
 refine⟨c,h1,by omega,?_⟩
 simp [hasL]
 omega
theorem FrOk.put {n K:Nat} {acc fr:List Int} (h:FrOk n K acc fr) {M:Nat} (hM:M < n):FrOk n K (acc ++ [(M:Int)]) (fr.set M ((K:Int)+1)):=by
 refine⟨by simp [h.1],fun m hm=> ?_⟩
 by_cases e:M=m
 ·subst e
  refine⟨(K:Int)+1,by rw [List.getElem?_set,if_pos rfl,if_pos (by have:=h.1;omega)],Int.le_refl _,?_⟩
  rw [hasL_snoc];simp
 ·obtain⟨c,h1,h2,h3⟩:=h.2 m hm
  refine⟨c,by rw [List.getElem?_set_ne e];exact h1,h2,?_⟩
  have:¬(M:Int)=(m:Int):=by omega
  rw [hasL_snoc,h3];simp [this]
def SucW (B g1 g2:Nat) (W0:World) (n K:Nat) (acc:List Int) (ll:List (List Int)) (wr:World):Prop:=∃us fr,RowAt wr W0.heap.size 33 g1 n us∧RowsS B wr ll us∧RowAt wr W0.heap.size 3 g2 n (ints fr)∧FrOk n K acc fr∧Below W0.heap.size W0 wr∧B≤wr.heap.size
theorem succs_try (nm:List UInt8) (ps:List Int) (rt pl:Int) (bl:List (List Ins)) (ao bo:Option Addr) (c cb:Nat) (w:World)
  (hv:FunV w (nm,ps,rt,bl,pl) (.agg #[.string (bs nm),.slice ao ps.length c,.int .i64 rt,.slice bo bl.length cb,.int .i64 pl])) (hF:Ful (nm,ps,rt,bl,pl)) (hT:Tos (nm,ps,rt,bl,pl)):
  Calls Tryz.prog 95 #[.agg #[.string (bs nm),.slice ao ps.length c,.int .i64 rt,.slice bo bl.length cb,.int .i64 pl]] w fun e w'=>∃v,e= .returned v∧RowsO w.heap.size w' (succsF (nm,ps,rt,bl,pl)) v∧Below w.heap.size w w':=by
 obtain⟨i0,hi0,hz0,hz1,hz2⟩:=info_parts Tryz.info33
 obtain⟨i3,hi3,hz3,hz4,hz5⟩:=info_parts Tryz.info3
 have b0:=below_box w (.cells #[.string (bs nm),.slice ao ps.length c,.int .i64 rt,.slice bo bl.length cb,.int .i64 pl] 36)
 have X0:=hide (L5.Box.new w [.string (bs nm),.slice ao ps.length c,.int .i64 rt,.slice bo bl.length cb,.int .i64 pl] 36)
 have HV:=hide (hv.below b0)
 have B0:=hide b0
 have HFu:=hide hF
 have HTo:=hide hT
 have hbl:bl.length≤1000000:=hF.1
 clear b0 hv hF hT
 go_enter Tryz.func95,Tryz.ntmps95
 go_upto_region 1 with fail
 show Code.wp _ _ _ _ (w.alloc (.cells #[.string (bs nm),.slice ao ps.length c,.int .i64 rt,.slice bo bl.length cb,.int .i64 pl] 36))
 replace X0:Hid (L5.Box (w.alloc (.cells #[.string (bs nm),.slice ao ps.length c,.int .i64 rt,.slice bo bl.length cb,.int .i64 pl] 36)) w.heap.size [.string (bs nm),.slice ao ps.length c,.int .i64 rt,.slice bo bl.length cb,.int .i64 pl]):=X0
 generalize w.alloc (.cells #[.string (bs nm),.slice ao ps.length c,.int .i64 rt,.slice bo bl.length cb,.int .i64 pl] 36)=W at *
 have HB:Hid (BlksR W bl (.slice bo bl.length cb)):=hide (by
  obtain⟨vp,vb,e,_,hB⟩:=HV.out
  injection e with e
  have e3:=congrArg (fun a=>a[3]?) e
  simp at e3
  rw [e3];exact hB)
 have x3:=X0.out.2 3 _ rfl
 go_upto_region 2 with (at_make;refine wpList_make_full _ rfl _ _ 105 rfl W.heap.size 33 i0 _ 1 Tryz.underlying105 hi0 hz0 hz1 .i64 .i64 bl.length bl.length bl.length rfl rfl rfl rfl (by rw [hz2];omega) (by unfold maxLen;omega) (Nat.le_refl _) ?_;intro w1 own1 grow1;refine Hid.out ?_)
 rw [made_rows] at own1
 have R1:Hid (RowAt w1 W.heap.size 33 W.heap.size bl.length (List.replicate bl.length (.slice none 0 0))):=hide own1
 have B1:=hide (grown_b grow1)
 clear own1 grow1 x3
 have x3:=(X0.out.below B1.out).2 3 _ rfl
 have hs1:=B1.out.size
 refine hide ?_
 go_upto_region 3 with (at_make;refine wpList_make_full _ rfl _ _ 33 rfl W.heap.size 3 i3 _ 1 Tryz.underlying33 hi3 hz3 hz4 .i64 .i64 bl.length bl.length bl.length rfl rfl rfl rfl (by rw [hz5];omega) (by unfold maxLen;omega) hs1 ?_;intro w2 own2 grow2;refine Hid.out ?_)
 rw [made_ints] at own2
 have R2:Hid (RowAt w2 W.heap.size 3 w1.heap.size bl.length (ints (List.replicate bl.length 0))):=hide own2
 have B2:=hide (grown_b grow2)
 have R12:=hide (R1.out.below B2.out)
 have B12:=hide (below_step B1.out B2.out)
 have hg1:W.heap.size < w1.heap.size:=R1.out.lt.2
 have hg2:w1.heap.size < w2.heap.size:=R2.out.lt.2
 clear own2 grow2 x3 hs1
 have x3:=(X0.out.below B12.out).2 3 _ rfl
 have HSt:Hid (SucW w2.heap.size W.heap.size w1.heap.size W bl.length 0 [] (rowsTo (nm,ps,rt,bl,pl) 0) w2):=hide ⟨_,_,R12.out,by
  have:=RowsS.start w2.heap.size w2 bl.length
  exact this,R2.out,FrOk.start _,B12.out,Nat.le_refl _⟩
 clear R1 R2 B1 B2 R12 B12
 generalize w2.heap.size=B at *
 generalize w1.heap.size=g2 at *
 generalize hg:W.heap.size=g1 at *
 refine hide ?_
 go_wp2_with fail
 clear x3
 go_loopw [20] (fun i wr=>∃K:Nat,K≤bl.length∧i= .int .i64 K∧Hid (SucW B g1 g2 W bl.length K [] (rowsTo (nm,ps,rt,bl,pl) K) wr)) (fun i _=>bl.length - (intOf i).toNat)
 case atStart=>exact⟨0,Nat.zero_le _,rfl,HSt⟩
 case round=>
  clear HSt
  obtain⟨K,hK,rfl,HS⟩:=hrel
  by_cases hkt:K < bl.length
  ·have hkI:(K:Int) < bl.length:=by omega
   obtain⟨b,hbK⟩:∃b,bl[K]? =some b:=⟨bl[K],List.getElem?_eq_getElem hkt⟩
   have HWr:Hid (Below W.heap.size W wr):=hide (by obtain⟨us,fr,_,_,_,_,h,_⟩:=HS.out;exact h)
   obtain⟨_,_,e',l1,l2,l3⟩:=HB.out
   injection e' with e1 e2 e4
   subst e1 e4
   rcases l3 with l3 | ⟨gc,oc,rfl,gk,h2⟩
   ·subst l3;simp at hkt
   obtain⟨vk,kd,kk⟩:=h2 K b hbK
   have kk2:=kk
   obtain⟨aok,capk,rfl,m1,m2,_⟩:=kk
   have c1:=(HWr.out.cell (p:=⟨gc,oc+K,none⟩) gk).trans kd
   obtain⟨x,hx,hlt,h63⟩:=HFu.out.last (List.mem_of_getElem? hbK)
   have HL:=hide (labels_any b x aok capk W wr kk2 HWr.out hx)
   have HNx:Hid (nextF (nm,ps,rt,bl,pl) K=onceL x.2.2.2.2.2.1):=hide (by rw [nextF_at (f:=(nm,ps,rt,bl,pl)) hbK,hlt])
   have HNu:Hid (Num bl.length x.2.2.2.2.2.1):=hide (by
    intro m hm
    refine HTo.out K m ?_
    rw [HNx.out,←hasL_mem,hasL_once,hasL_mem];exact hm)
   have HS0:Hid (SucW B g1 g2 W bl.length K (onceL (x.2.2.2.2.2.1.take 0)) (rowsIn (nm,ps,rt,bl,pl) K (onceL (x.2.2.2.2.2.1.take 0))) wr):=hide (by
    have:=HS.out
    rw [rowsTo_in hkt] at this
    exact this)
   unfold maxLen at m2 l2
   have HIL:Hid (∀v,IntsV W x.2.2.2.2.2.1 v→∃to ct,v= .slice to x.2.2.2.2.2.1.length ct∧Sl W to x.2.2.2.2.2.1):=hide (fun v ⟨to,ct,e,h,_⟩=>⟨to,ct,e,h⟩)
   generalize x.2.2.2.2.2.1=tt at *
   clear kd kk2 h2 hbK e2 hx hlt HS
   go_wp2_with fail
   refine HL.out.mono ?_;rintro e w9 ⟨⟨v,rfl,hiv⟩,hw9⟩
   subst hw9
   obtain⟨to,ct,rfl,hsl⟩:=HIL.out v hiv
   have HSl:=hide hsl
   clear hiv hsl HL HIL c1
   go_wp2_with fail
   generalize w9=W9 at *
   go_loopw [28] (fun i wr=>∃J:Nat,J≤tt.length∧i= .int .i64 J∧Hid (SucW B g1 g2 W bl.length K (onceL (tt.take J)) (rowsIn (nm,ps,rt,bl,pl) K (onceL (tt.take J))) wr)) (fun i _=>tt.length - (intOf i).toNat)
   case atStart=>exact⟨0,Nat.zero_le _,rfl,HS0⟩
   case round=>
    clear HS0
    obtain⟨J,hJ,rfl,HS⟩:=hrel
    by_cases hjt:J < tt.length
    ·have hjI:(J:Int) < tt.length:=by omega
     obtain⟨m,hm⟩:∃m,tt[J]? =some m:=⟨tt[J],List.getElem?_eq_getElem hjt⟩
     obtain⟨hm0,hm1⟩:=HNu.out m (List.mem_of_getElem? hm)
     obtain⟨M,rfl⟩:∃M:Nat,m=(M:Int):=⟨m.toNat,by omega⟩
     have hMl:M < bl.length:=by omega
     have HTk:=hide (onceL_take hm)
     have hal:=onceL_len (tt.take J)
     rw [List.length_take] at hal
     generalize onceL (tt.take J)=acc at *
     rcases HSl.out with e0 | ⟨tb,to2,rfl,t1,t2⟩
     ·subst e0;simp at hjt
     obtain⟨us,fr,q1,q2,q3,q4,q5,q6⟩:=HS.out
     have c9:=(q5.cell (p:=⟨tb,to2+J,none⟩) t1).trans (t2 J _ hm)
     obtain⟨cM,f1,f2,f3⟩:=q4.2 M hMl
     have c8:=q3.cell (ints_at f1)
     have HTh:=hide (there_any M bl.length wr)
     have hth:thereB M bl.length=true:=by simp [thereB];omega
     rw [hth] at HTh
     have Q1:=hide q1
     have Q2:=hide q2
     have Q3:=hide q3
     have Q4:=hide q4
     have Q5:=hide q5
     clear t2 hm hth q1 q2 q3 q4 q5
     cases hh:hasL acc M with
     |true=>
      have hcc:(cM != (K:Int)+1)=false:=by rw [f3.2 hh];simp
      have HE:Hid (SucW B g1 g2 W bl.length K (onceL (tt.take (J+1))) (rowsIn (nm,ps,rt,bl,pl) K (onceL (tt.take (J+1)))) wr):=hide (by rw [HTk.out,addL_yes hh];exact HS.out)
      replace hh:=hide hh
      clear f1 f2 f3
      go_wp2_with fail
      refine HTh.out.mono ?_;rintro e wA ⟨rfl,rfl⟩
      go_wp2_with fail
      go_roundw
      case rel=>exact⟨J+1,by omega,by go_num,HE⟩
      case measure=>simp [intOf];omega
     |false=>
      have hcc:(cM != (K:Int)+1)=true:=by
       have:¬cM=(K:Int)+1:=fun e=>by rw [f3.1 e] at hh;cases hh
       simpa using this
      have z8:=Q3.out.frozen M
      have HA:=hide (HTk.out.trans (addL_no hh))
      obtain⟨l,u,y1,y2,y3⟩:=Q2.out.at (i:=K) (by rw [rowsIn_len _ hkt];exact hkt)
      rw [rowsIn_at _ hkt] at y1
      injection y1 with y1
      subst y1
      have Q2s:Hid (RowsS B (wr.setCell ⟨g2,M,none⟩ (.int .i64 ((K:Int)+1))) (rowsIn (nm,ps,rt,bl,pl) K acc) us):=hide (Q2.out.put (p:=⟨g2,M,none⟩) hg2 _)
      have Q1s:Hid (RowAt (wr.setCell ⟨g2,M,none⟩ (.int .i64 ((K:Int)+1))) W.heap.size 33 g1 bl.length us):=hide (Q1.out.other (p:=⟨g2,M,none⟩) (by show g1≠g2;omega) _)
      have Q3s:Hid (RowAt (wr.setCell ⟨g2,M,none⟩ (.int .i64 ((K:Int)+1))) W.heap.size 3 g2 bl.length (ints (fr.set M ((K:Int)+1)))):=hide (by rw [←ints_set];exact Q3.out.set M _)
      have Q4s:=hide (Q4.out.put hMl)
      have Q5s:Hid (Below W.heap.size W (wr.setCell ⟨g2,M,none⟩ (.int .i64 ((K:Int)+1)))):=hide (Q5.out.setCell (p:=⟨g2,M,none⟩) (by show W.heap.size≤g2;omega) _)
      have Y3:Hid ((wr.setCell ⟨g2,M,none⟩ (.int .i64 ((K:Int)+1))).ownsRow B 3 1 u acc.length (ints acc)):=hide (ownsRow_setCell_below y3 (a:=⟨g2,M,none⟩) hg2 _)
      have hsz:(wr.setCell ⟨g2,M,none⟩ (.int .i64 ((K:Int)+1))).heap.size=wr.heap.size:=by simp
      have q6s:B≤(wr.setCell ⟨g2,M,none⟩ (.int .i64 ((K:Int)+1))).heap.size:=by rw [hsz];exact q6
      have Y2:=hide y2
      replace hh:=hide hh
      clear f1 f2 f3 y2 y3 hsz
      go_upto_region 11 with (go_at_call 123;refine HTh.out.mono ?_;rintro e wA ⟨rfl,rfl⟩)
      show Code.wp _ _ _ _ (wA.setCell ⟨g2,M,none⟩ (.int .i64 ((K:Int)+1)))
      generalize wA.setCell ⟨g2,M,none⟩ (.int .i64 ((K:Int)+1))=wS at *
      have k1:=Q1s.out.cell Y2.out
      obtain⟨uo,uc,rfl⟩:=own_len Y3.out
      go_wp2_with (at_builtin;refine wpList_append_own_at _ rfl (.tmp 55) (.tmp 57) 33 rfl B 3 i3 _ 1 8 Tryz.underlying33 hi3 hz3 hz4 hz5 rfl (by decide) _ _ _ rfl (Y3.out.alloc _) ⟨wS.heap.size,0,none⟩ 1 1 [.int .i64 M] rfl rfl one_cell one_one (by unfold maxLen;omega) (by omega) (by simp;omega) ?_;intro v2 wB own2 grow2 _ at2;refine Hid.out ?_)
      have far:∀g,g < B→some g≠(Value.slice uo acc.length uc).ownBlock:=fun g hg e=>by have:=(Y3.out.lt g e.symm).1;omega
      have P1:Hid (RowAt wB W.heap.size 33 g1 bl.length us):=hide ((Q1s.out.alloc _).kept grow2 (far g1 (by omega)))
      have P3:Hid (RowAt wB W.heap.size 3 g2 bl.length (ints (fr.set M ((K:Int)+1)))):=hide ((Q3s.out.alloc _).kept grow2 (far g2 hg2))
      have P2:=hide (Q2s.out.step (rowsIn_at _ hkt) Y2.out own2 grow2 at2)
      rw [rowsIn_set _ _ hkt] at P2
      have P5:Hid (Below W.heap.size W wB):=hide (Below.grown (Q5s.out.alloc Q5s.out.size _) grow2 (by simp;omega) (fun k hk=>by have:=(Y3.out.lt k hk).1;omega))
      have P6:B≤wB.heap.size:=by have:=grow2.size;simp at this;omega
      have HE:Hid (SucW B g1 g2 W bl.length K (onceL (tt.take (J+1))) (rowsIn (nm,ps,rt,bl,pl) K (onceL (tt.take (J+1)))) (wB.setCell ⟨g1,K,none⟩ v2)):=hide (by
       rw [HA.out]
       exact⟨us.set K v2,_,P1.out.set K v2,P2.out.put (p:=⟨g1,K,none⟩) (by show g1 < B;omega) _,P3.out.other (p:=⟨g1,K,none⟩) (by show g2≠g1;omega) _,Q4s.out,P5.out.setCell (p:=⟨g1,K,none⟩) (by show W.heap.size≤g1;omega) _,by simpa using P6⟩)
      obtain⟨vo,vc,rfl⟩:=own_len own2
      have k2:=P1.out.cell Y2.out
      have k3:=P1.out.frozen K
      clear own2 grow2 at2 k1 far P1 P2 P3 P5 Q1s Q2s Q3s Q5s Y2 Y3
      refine hide ?_
      go_wp2_with fail
      go_roundw
      case rel=>exact⟨J+1,by omega,by go_num,HE⟩
      case measure=>simp [intOf];omega
    ·obtain rfl:J=tt.length:=by omega
     have HE:Hid (SucW B g1 g2 W bl.length (K+1) [] (rowsTo (nm,ps,rt,bl,pl) (K+1)) wr):=hide (by
      obtain⟨us,fr,q1,q2,q3,q4,q5,q6⟩:=HS.out
      rw [List.take_length] at q2 q4
      exact⟨us,fr,q1,by rw [←rowsIn_to hkt,HNx.out];exact q2,q3,q4.next,q5,q6⟩)
     go_wp2_with fail
     go_roundw
     case rel=>exact⟨K+1,by omega,by go_num,HE⟩
     case measure=>simp [intOf];omega
  ·obtain rfl:K=bl.length:=by omega
   obtain⟨us,fr,q1,q2,q3,q4,q5,q6⟩:=HS.out
   have HE:Hid (RowsO w.heap.size wr (succsF (nm,ps,rt,bl,pl)) (.slice (some ⟨g1,0,none⟩) bl.length bl.length)∧Below w.heap.size w wr):=hide (by
    refine⟨?_,below_step B0.out q5⟩
    have:=q2.rows q1 (by omega)
    have e:rowsTo (nm,ps,rt,bl,pl) bl.length=succsF (nm,ps,rt,bl,pl):=rowsTo_end (nm,ps,rt,bl,pl)
    rw [e] at this
    exact this.base B0.out.size)
   clear q1 q2 q3 q4 q5 HS
   go_wp2_with fail
   go_ret
   exact⟨_,rfl,HE.out.1,HE.out.2⟩
theorem Tryz.info4:(Tryz.prog.info? 4).map (fun i=>(i.zero,i.size,i.bytes))=some (some (.bool false),1,1):=by kernel_rfl
theorem own_pop {B g n c:Nat} {w:World} {l:List Int} {x:Int} (h:w.ownsRow B 3 1 (.slice (some ⟨g,0,none⟩) (n+1) c) (n+1) (ints (l ++ [x]))) (hn:l.length=n):w.ownsRow B 3 1 (.slice (some ⟨g,0,none⟩) n c) n (ints l):=by
 rcases h.2 with ⟨h',_⟩ | ⟨g',cap',cur,h',hb,hg,hnc,hcm,hcs,htake⟩
 ·simp at h'
 ·simp only [Value.slice.injEq,Option.some.injEq,Addr.mk.injEq,and_true,true_and] at h'
  obtain⟨rfl,rfl⟩:=h'
  refine⟨by simp [ints,hn],.inr ⟨g,c,cur,rfl,hb,hg,by omega,hcm,hcs,?_⟩⟩
  have e:cur.toList.take (n * 1)=(cur.toList.take ((n+1) * 1)).take (n * 1):=by rw [List.take_take];congr 1;omega
  rw [e,htake]
  simp [ints,←hn]
def Apart (u v:Value):Prop:=u.ownBlock=none∨u.ownBlock≠v.ownBlock
theorem Apart.symm {u v:Value} (h:Apart u v):Apart v u:=by
 rcases h with h | h
 ·cases hv:v.ownBlock with
  |none=>exact .inl hv
  |some k=>right;rw [h,hv];simp
 ·exact .inr fun e=>h e.symm
theorem Apart.grow {B n:Nat} {u v v':Value} {xs:List Value} {w:World} {o:Obj} (h:Apart u v) (hu:w.ownsRow B 3 1 u n xs) (hat:v'.ownBlock=v.ownBlock∨v'.ownBlock=some (w.alloc o).heap.size):Apart u v':=by
 rcases hat with e | e
 ·rcases h with h | h
  ·exact .inl h
  ·right;rw [e];exact h
 ·cases hb:u.ownBlock with
  |none=>exact .inl hb
  |some k=>
   right
   rw [e,hb]
   have:=(hu.lt k hb).2
   simp
   omega
def OrdW (f:Fun) (B g1 g2:Nat) (W:World) (k:Nat) (way done:List Int) (wv dv:Value) (wr:World):Prop:=∃tr mt,Dfs f way done tr mt∧leftN f done tr≤k∧RowAt wr W.heap.size 4 g1 f.2.2.2.1.length (bools mt)∧RowAt wr W.heap.size 3 g2 f.2.2.2.1.length (ints tr)∧
 wr.ownsRow B 3 1 wv way.length (ints way)∧wr.ownsRow B 3 1 dv done.length (ints done)∧Apart wv dv∧Below W.heap.size W wr∧B≤wr.heap.size
theorem OrdW.below {f:Fun} {B g1 g2 k:Nat} {W wr w':World} {way done:List Int} {wv dv:Value} (h:OrdW f B g1 g2 W k way done wv dv wr) (b:Below wr.heap.size wr w'):OrdW f B g1 g2 W k way done wv dv w':=by
 obtain⟨tr,mt,h1,h2,h3,h4,h5,h6,h7,h8,h9⟩:=h
 exact⟨tr,mt,h1,h2,h3.below b,h4.below b,own_below b _ _ _ _ _ _ h5,own_below b _ _ _ _ _ _ h6,h7,below_step h8 b,Nat.le_trans h9 b.size⟩
theorem last_way {l:List Int} (h:l≠ []):∃up k,l=up ++ [k]:=⟨l.dropLast,l.getLast h,(List.dropLast_concat_getLast h).symm⟩
theorem order_any (f:Fun) (no:Option Addr) (nc:Nat) (w:World) (hr:RowsR w no (succsF f)) (hF:Ful f) (hT:Tos f) (h0:0 < f.2.2.2.1.length):
  Calls Tryz.prog 121 #[.slice no f.2.2.2.1.length nc] w fun e w'=>∃u,e= .returned u∧w'.ownsRow w.heap.size 3 1 u (orderF f).length (ints (orderF f))∧Below w.heap.size w w':=by
 obtain⟨i4,hi4,hy0,hy1,hy2⟩:=info_parts Tryz.info4
 obtain⟨i3,hi3,hz3,hz4,hz5⟩:=info_parts Tryz.info3
 have HR:=hide hr
 have HFu:=hide hF
 have HTo:=hide hT
 have hbl:f.2.2.2.1.length≤1000000:=hF.1
 have HSt:=hide (Dfs.start h0)
 have hol:=orderF_len hT h0
 have HOr:Hid ((postF f f.2.2.2.1.length 0 [] []).reverse=orderF f∧(orderF f).length=(postF f f.2.2.2.1.length 0 [] []).length∧0 < (postF f f.2.2.2.1.length 0 [] []).length):=hide (by
  refine⟨rfl,by simp [orderF],?_⟩
  obtain⟨M,hM⟩:∃M,f.2.2.2.1.length=M+1:=⟨f.2.2.2.1.length - 1,by omega⟩
  rw [hM,postF_succ];simp)
 obtain⟨N,hN⟩:∃N,N=f.2.2.2.1.length:=⟨_,rfl⟩
 have HN:=hide hN
 rw [←hN] at hbl HSt hol h0
 rw [←hN]
 have hN0:((N:Int) == 0)=false:=beq_eq_false_iff_ne.2 (by omega)
 clear hr hF hT hN
 go_enter Tryz.func121,Tryz.ntmps121
 go_upto_region 4 with (at_make;refine wpList_make_full _ rfl _ _ 124 rfl w.heap.size 4 i4 _ 1 Tryz.underlying124 hi4 hy0 hy1 .i64 .i64 N N N rfl rfl rfl rfl (by rw [hy2];omega) (by unfold maxLen;omega) (Nat.le_refl _) ?_;intro w1 own1 grow1;refine Hid.out ?_)
 rw [made_bools] at own1
 have R1:Hid (RowAt w1 w.heap.size 4 w.heap.size N (bools (List.replicate N false))):=hide own1
 have B1:=hide (grown_b grow1)
 have hs1:=B1.out.size
 clear own1 grow1
 refine hide ?_
 go_upto_region 5 with (at_make;refine wpList_make_full _ rfl _ _ 33 rfl w.heap.size 3 i3 _ 1 Tryz.underlying33 hi3 hz3 hz4 .i64 .i64 N N N rfl rfl rfl rfl (by rw [hz5];omega) (by unfold maxLen;omega) hs1 ?_;intro w2 own2 grow2;refine Hid.out ?_)
 rw [made_ints] at own2
 have R2:Hid (RowAt w2 w.heap.size 3 w1.heap.size N (ints (List.replicate N 0))):=hide own2
 have B2:=hide (grown_b grow2)
 have R12:=hide (R1.out.below B2.out)
 have B12:=hide (below_step B1.out B2.out)
 have hg1:w.heap.size < w1.heap.size:=R1.out.lt.2
 have hg2:w1.heap.size < w2.heap.size:=R2.out.lt.2
 clear own2 grow2 hs1 R1 B1 B2
 have c0:=R12.out.cell (j:=0) (u:= .bool false) (by rw [bools,List.getElem?_map,List.getElem?_replicate,if_pos h0];rfl)
 have z0:=R12.out.frozen 0
 have hNI:(0:Int) < N:=by omega
 refine hide ?_
 go_upto_region 6 with fail
 show Code.wp _ _ _ _ (w2.setCell ⟨w.heap.size,0,none⟩ (.bool true))
 have hs3:(w2.setCell ⟨w.heap.size,0,none⟩ (.bool true)).heap.size=w2.heap.size:=by simp
 have R13:Hid (RowAt (w2.setCell ⟨w.heap.size,0,none⟩ (.bool true)) w.heap.size 4 w.heap.size N (bools ((List.replicate N false).set 0 true))):=hide (by rw [←bools_set];exact R12.out.set 0 _)
 have R23:Hid (RowAt (w2.setCell ⟨w.heap.size,0,none⟩ (.bool true)) w.heap.size 3 w1.heap.size N (ints (List.replicate N 0))):=hide (R2.out.other (p:=⟨w.heap.size,0,none⟩) (by show w1.heap.size≠w.heap.size;omega) _)
 have B3:Hid (Below w.heap.size w (w2.setCell ⟨w.heap.size,0,none⟩ (.bool true))):=hide (B12.out.setCell (p:=⟨w.heap.size,0,none⟩) (Nat.le_refl _) _)
 generalize w2.setCell ⟨w.heap.size,0,none⟩ (.bool true)=w3 at *
 have b4:=below_box w3 (.cells #[.int .i64 0] 3)
 have HS4:Hid (OrdW f w2.heap.size w.heap.size w1.heap.size w (leftN f [] (List.replicate N 0)) [0] [] (.slice (some ⟨w3.heap.size,0,none⟩) 1 1) (.slice none 0 0) (w3.alloc (.cells #[.int .i64 0] 3))):=hide (by
  refine⟨_,_,HSt.out,Nat.le_refl _,?_,?_,World.ownsRow_lit w3 #[.int .i64 0] 1 (by omega) (by unfold maxLen;omega) rfl,World.ownsRow_nil _ _ _ _,.inr (by simp [Value.ownBlock]),below_step B3.out b4,by have:=b4.size;omega⟩
  ·rw [←HN.out];exact R13.out.below b4
  ·rw [←HN.out];exact R23.out.below b4)
 have hs4:Hid (w2.heap.size≤w3.heap.size):=hide (by omega)
 clear c0 z0 R12 R2 R13 R23 B12 B3 b4 HSt hs3
 go_wp2_with fail
 generalize w3.alloc (.cells #[.int .i64 0] 3)=w4 at *
 generalize w3.heap.size=gw at *
 generalize w2.heap.size=B at *
 generalize hg2e:w1.heap.size=g2 at *
 generalize hg1e:w.heap.size=g1 at *
 go_loopg [5,6] (leftN f [] (List.replicate N 0)) (fun k wv dv wr=>∃way done,Hid (OrdW f B g1 g2 w k way done wv dv wr))
 case atStart=>exact⟨_,_,HS4⟩
 case round=>
  clear HS4
  obtain⟨way,done,HS⟩:=hrel
  by_cases hw0:way= []
  ·subst hw0
   obtain⟨tr,mt,h1,h2,h3,h4,h5,h6,h7,h8,h9⟩:=HS.out
   obtain⟨wo,wc,rfl⟩:=own_len h5
   have hde:=h1.ended
   rw [←hde] at HOr
   obtain⟨hrv,hln,hpos⟩:=HOr.out
   rcases own_view h6 with ⟨_,hn⟩ | ⟨gd,dc,rfl,d1,d2,d3,d4,d5,d6⟩
   ·omega
   have HC:=hide (reverse_any done (orderF f) hrv B gd dc wr h6 (by omega))
   have H8:=hide h8
   have hB:g1≤B:=by omega
   have hwl:w.heap.size=g1:=hg1e
   replace hln:=hide hln
   have h9':=hide h9
   clear h1 h2 h3 h4 h5 h6 h7 h8 h9 d5 d6 hrv HS hde
   go_wp2_with fail
   refine HC.out.mono ?_;rintro e wE ⟨rfl,o9,b9⟩
   have HE:Hid (wE.ownsRow w.heap.size 3 1 (.slice (some ⟨gd,0,none⟩) done.length dc) (orderF f).length (ints (orderF f))∧Below w.heap.size w wE):=hide (by
    refine⟨by rw [hln.out,hwl];exact own_base o9 hB,?_⟩
    exact H8.out.trans (b9.mono (by rw [hwl];exact hB)))
   clear o9 b9
   go_wp2_with fail
   go_ret
   exact⟨_,rfl,HE.out.1,HE.out.2⟩
  ·obtain⟨up,kI,rfl⟩:=last_way hw0
   obtain⟨tr,mt,h1,h2,h3,h4,h5,h6,h7,h8,h9⟩:=HS.out
   have hkn:=h1.2.1.2 kI (by simp)
   obtain⟨k,rfl⟩:∃k:Nat,kI=(k:Int):=⟨kI.toNat,by omega⟩
   rw [←HN.out] at h3 h4 hkn
   have hkN:(k:Int) < N:=hkn.2
   have hk':k < f.2.2.2.1.length:=by rw [←HN.out];omega
   have hlu:(up ++ [(k:Int)]).length=up.length+1:=by simp
   have hul:up.length+1≤N:=by
    have:=fit_len _ _ h1.2.1.1 h1.2.1.2
    rw [hlu,←HN.out] at this
    exact this
   have hdl:done.length+1≤N:=by
    have q:=h1.2.2.1
    have:=fit_len _ (done ++ [(k:Int)]) (List.nodup_append.2 ⟨q.1,by simp,fun x hx y hy e=>by
     simp at hy
     subst hy
     subst e
     exact h1.2.2.2.1 _ hx (by simp)⟩) (fun m hm=>by
     rcases List.mem_append.1 hm with hm | hm
     ·exact q.2 m hm
     ·simp at hm;subst hm;rw [←HN.out];exact hkn)
    rw [←HN.out] at this
    simpa using this
   rw [hlu] at h5
   rcases own_view h5 with ⟨_,hn⟩ | ⟨gw2,wc,rfl,d1,d2,d3,d4,d5,d6⟩
   ·omega
   obtain⟨P,hP⟩:∃P,P=up.length+1:=⟨_,rfl⟩
   obtain⟨L,hL⟩:∃L,L=up.length:=⟨_,rfl⟩
   have hPL:(P:Int) - 1=(L:Int):=by omega
   have hLP:(L:Int) < P:=by omega
   have hLP2:L < P:=by omega
   have cw:wr.cell? ⟨gw2,L,none⟩=some (.int .i64 k):=d5 L _ (ints_at (by rw [hL];simp))
   rw [←hP] at h5 d1
   have hP0:(0:Int) < P:=by omega
   have hPc:P≤wc:=d1
   unfold maxLen at d2
   obtain⟨cN,t1,t2,_⟩:=h1.2.2.2.2.2.2.2 k hk'
   have ct:=h4.cell (ints_at t1)
   obtain⟨do',dc,rfl⟩:=own_len h6
   rcases(HR.out.below h8)with e0 | ⟨sb,so,rfl,s1,s2⟩
   ·have:=succsF_len f
    rw [e0] at this
    simp at this
    omega
   obtain⟨lv,s3,lo,lc,rfl,s4,s5,s6⟩:=s2 k _ (succsF_at hk')
   have HNu:Hid (Num N (nextF f k)):=hide (by have:=HTo.out k;rwa [←HN.out] at this)
   have hll:(nextF f k).length≤1000000:=nextF_len HFu.out hk'
   have HS4:=hide s4
   have H1:=hide h1
   have H2:=hide h2
   have H3:=hide h3
   have H4:=hide h4
   have H5:=hide h5
   have H6:=hide h6
   have H7:=hide h7
   have H8:=hide h8
   have T1:=hide t1
   clear h1 h2 h3 h4 h5 h6 h7 h8 d5 d6 s2 s4 t1 HS hw0 hkn d4 d3
   rw [←hP]
   have hkN2:k < N:=by omega
   have hP1:P≤N:=by omega
   replace hP:=hide hP
   replace hL:=hide hL
   clear hlu
   go_wp2_with fail
   go_region
   have b9:=L5.below_drew1 wr
   replace H3:=hide (H3.out.below b9)
   replace H4:=hide (H4.out.below b9)
   replace H5:=hide (own_below b9 _ _ _ _ _ _ H5.out)
   replace H6:=hide (own_below b9 _ _ _ _ _ _ H6.out)
   replace H8:=hide (below_step H8.out b9)
   replace HS4:=hide (HS4.out.below b9)
   replace ct:=(b9.cell (p:=⟨g2,k,none⟩) H4.out.lt.2).trans ct
   replace s3:=(b9.cell (p:=⟨sb,so+k,none⟩) s1).trans s3
   replace h9:B≤wr.drew.heap.size:=Nat.le_trans h9 b9.size
   clear b9 cw s1
   generalize wr.drew=wD at *
   by_cases hce:cN=(nextF f k).length
   ·have hce':((cN:Int) == ((nextF f k).length:Int))=true:=beq_iff_eq.2 (by omega)
    obtain⟨hp1,hp2⟩:=H1.out.pop (by rw [←hce];exact T1.out)
    have HP1:=hide hp1
    have hlk:leftN f (done ++ [(k:Int)]) tr < gk:=Nat.lt_of_lt_of_le hp2 H2.out
    have hAp:=hide (H7.out.symm)
    replace hce:=hide hce
    generalize (nextF f k).length=ln at *
    clear hp1 hp2
    go_wp2_with (at_builtin;refine wpList_append_own_at _ rfl (.tmp 40) (.tmp 42) 33 rfl B 3 i3 _ 1 8 Tryz.underlying33 hi3 hz3 hz4 hz5 rfl (by decide) _ _ _ rfl (H6.out.alloc _) ⟨wD.heap.size,0,none⟩ 1 1 [.int .i64 k] rfl rfl one_cell one_one (by unfold maxLen;omega) (by omega) (by simp;omega) ?_;intro v2 wB own2 grow2 _ at2;refine Hid.out ?_)
    have far:∀g,g < B→some g≠(Value.slice do' done.length dc).ownBlock:=fun g hg e=>by have:=(H6.out.lt g e.symm).1;omega
    have HE:Hid (OrdW f B g1 g2 w (leftN f (done ++ [(k:Int)]) tr) up (done ++ [(k:Int)]) (.slice (some ⟨gw2,0,none⟩) L wc) v2 wB):=hide (by
     refine⟨tr,mt,HP1.out,Nat.le_refl _,?_,?_,?_,by simpa [ints] using own2,?_,?_,?_⟩
     ·rw [←HN.out];exact(H3.out.alloc _).kept grow2 (far g1 (by omega))
     ·rw [←HN.out];exact(H4.out.alloc _).kept grow2 (far g2 (by omega))
     ·rw [←hL.out]
      refine own_pop (x:=(k:Int)) ?_ hL.out.symm
      rw [hL.out,←hP.out]
      exact(H5.out.alloc _).kept grow2 H7.out
     ·exact(Apart.grow (w:=wD) (u:= .slice (some ⟨gw2,0,none⟩) P wc) H7.out H5.out at2)
     ·exact Below.grown (H8.out.alloc H8.out.size _) grow2 (by have:=H8.out.size;simp;omega) (fun k hk=>by have:=(H6.out.lt k hk).1;omega)
     ·have:=grow2.size;simp at this;omega)
    clear own2 grow2 at2 far
    obtain⟨vo,vc,rfl⟩:∃vo vc,v2= .slice vo (done.length+1) vc:=by
     obtain⟨_,_,_,_,_,_,_,h,_⟩:=HE.out
     obtain⟨vo,vc,e⟩:=own_len h
     exact⟨vo,vc,by simpa using e⟩
    have hLc:(L:Int)≤wc:=by omega
    refine hide ?_
    go_wp2_with fail
    go_roundg (leftN f (done ++ [(k:Int)]) tr)
    case measure=>exact hlk
    case rel=>exact⟨_,_,HE⟩
   ·have hce':((cN:Int) == ((nextF f k).length:Int))=false:=beq_eq_false_iff_ne.2 (by omega)
    have hcl:cN < (nextF f k).length:=by omega
    have hclI:(cN:Int) < (nextF f k).length:=by omega
    obtain⟨m,hm⟩:∃m,(nextF f k)[cN]? =some m:=⟨_,List.getElem?_eq_getElem hcl⟩
    obtain⟨hm0,hm1⟩:=HNu.out m (List.mem_of_getElem? hm)
    obtain⟨M,rfl⟩:∃M:Nat,m=(M:Int):=⟨m.toNat,by omega⟩
    have hM':M < f.2.2.2.1.length:=by rw [←HN.out];omega
    have hMN:M < N:=by omega
    rcases HS4.out with e0 | ⟨tb,to2,rfl,u1,u2⟩
    ·rw [e0] at hcl;simp at hcl
    have ce:=u2 cN _ hm
    have hmt:=H1.out.2.2.2.2.2.2.1 M hM'
    have HOld:=hide (fun h=>H1.out.old T1.out hm hM' h)
    have HNew:=hide (fun h=>H1.out.new T1.out hm hM' h)
    clear u2 hm hce
    generalize hln:(nextF f k).length=ln at *
    clear hln
    go_wp2_with fail
    go_region
    have b9:=L5.below_drew1 wD
    replace H3:=hide (H3.out.below b9)
    replace H4:=hide (H4.out.below b9)
    replace H5:=hide (own_below b9 _ _ _ _ _ _ H5.out)
    replace H6:=hide (own_below b9 _ _ _ _ _ _ H6.out)
    replace H8:=hide (below_step H8.out b9)
    replace ct:=(b9.cell (p:=⟨g2,k,none⟩) H4.out.lt.2).trans ct
    have zt:=H4.out.frozen k
    replace h9:B≤wD.drew.heap.size:=Nat.le_trans h9 b9.size
    clear b9 ce s3 HS4
    generalize wD.drew=wE at *
    go_upto_region 15 with fail
    show Code.wp _ _ _ _ (wE.setCell ⟨g2,k,none⟩ (.int .i64 ((cN:Int)+1)))
    replace H3:Hid (RowAt (wE.setCell ⟨g2,k,none⟩ (.int .i64 ((cN:Int)+1))) w.heap.size 4 g1 N (bools mt)):=hide (H3.out.other (p:=⟨g2,k,none⟩) (by show g1≠g2;omega) _)
    replace H4:Hid (RowAt (wE.setCell ⟨g2,k,none⟩ (.int .i64 ((cN:Int)+1))) w.heap.size 3 g2 N (ints (tr.set k ((cN:Int)+1)))):=hide (by rw [←ints_set];exact H4.out.set k _)
    replace H5:Hid ((wE.setCell ⟨g2,k,none⟩ (.int .i64 ((cN:Int)+1))).ownsRow B 3 1 (.slice (some ⟨gw2,0,none⟩) P wc) P (ints (up ++ [(k:Int)]))):=hide (ownsRow_setCell_below H5.out (a:=⟨g2,k,none⟩) hg2 _)
    replace H6:Hid ((wE.setCell ⟨g2,k,none⟩ (.int .i64 ((cN:Int)+1))).ownsRow B 3 1 (.slice do' done.length dc) done.length (ints done)):=hide (ownsRow_setCell_below H6.out (a:=⟨g2,k,none⟩) hg2 _)
    replace H8:Hid (Below w.heap.size w (wE.setCell ⟨g2,k,none⟩ (.int .i64 ((cN:Int)+1)))):=hide (H8.out.setCell (p:=⟨g2,k,none⟩) (by show w.heap.size≤g2;omega) _)
    replace h9:B≤(wE.setCell ⟨g2,k,none⟩ (.int .i64 ((cN:Int)+1))).heap.size:=by simpa using h9
    clear ct zt
    generalize wE.setCell ⟨g2,k,none⟩ (.int .i64 ((cN:Int)+1))=w5 at *
    cases hb:(hasL done M || hasL (up ++ [(k:Int)]) M)with
    |true=>
     rw [hb] at hmt
     have cm:=H3.out.cell (bools_at hmt)
     obtain⟨hp1,hp2⟩:=HOld.out hmt
     have hlk:leftN f done (tr.set k ((cN:Int)+1)) < gk:=Nat.lt_of_lt_of_le hp2 H2.out
     have HE:Hid (OrdW f B g1 g2 w (leftN f done (tr.set k ((cN:Int)+1))) (up ++ [(k:Int)]) done (.slice (some ⟨gw2,0,none⟩) P wc) (.slice do' done.length dc) w5):=hide (by
      refine⟨_,mt,hp1,Nat.le_refl _,by rw [←HN.out];exact H3.out,by rw [←HN.out];exact H4.out,?_,H6.out,H7.out,H8.out,h9⟩
      have e:(up ++ [(k:Int)]).length=P:=by rw [hP.out];simp
      rw [e];exact H5.out)
     replace hb:=hide hb
     clear hp1 hp2 hmt HOld HNew
     go_wp2_with fail
     go_roundg (leftN f done (tr.set k ((cN:Int)+1)))
     case measure=>exact hlk
     case rel=>exact⟨_,_,HE⟩
    |false=>
     rw [hb] at hmt
     have cm:=H3.out.cell (bools_at hmt)
     have zm:=H3.out.frozen M
     obtain⟨hp1,hp2⟩:=HNew.out hmt
     have HP1:=hide hp1
     have hlk:leftN f done (tr.set k ((cN:Int)+1)) < gk:=Nat.lt_of_lt_of_le hp2 H2.out
     replace hb:=hide hb
     clear hp1 hp2 hmt HOld HNew
     go_upto_region 17 with fail
     show Code.wp _ _ _ _ (w5.setCell ⟨g1,M,none⟩ (.bool true))
     replace H3:Hid (RowAt (w5.setCell ⟨g1,M,none⟩ (.bool true)) w.heap.size 4 g1 N (bools (mt.set M true))):=hide (by rw [←bools_set];exact H3.out.set M _)
     replace H4:Hid (RowAt (w5.setCell ⟨g1,M,none⟩ (.bool true)) w.heap.size 3 g2 N (ints (tr.set k ((cN:Int)+1)))):=hide (H4.out.other (p:=⟨g1,M,none⟩) (by show g2≠g1;omega) _)
     replace H5:Hid ((w5.setCell ⟨g1,M,none⟩ (.bool true)).ownsRow B 3 1 (.slice (some ⟨gw2,0,none⟩) P wc) P (ints (up ++ [(k:Int)]))):=hide (ownsRow_setCell_below H5.out (a:=⟨g1,M,none⟩) (by show g1 < B;omega) _)
     replace H6:Hid ((w5.setCell ⟨g1,M,none⟩ (.bool true)).ownsRow B 3 1 (.slice do' done.length dc) done.length (ints done)):=hide (ownsRow_setCell_below H6.out (a:=⟨g1,M,none⟩) (by show g1 < B;omega) _)
     replace H8:Hid (Below w.heap.size w (w5.setCell ⟨g1,M,none⟩ (.bool true))):=hide (H8.out.setCell (p:=⟨g1,M,none⟩) (by show w.heap.size≤g1;omega) _)
     replace h9:B≤(w5.setCell ⟨g1,M,none⟩ (.bool true)).heap.size:=by simpa using h9
     clear cm zm
     generalize w5.setCell ⟨g1,M,none⟩ (.bool true)=w6 at *
     go_wp2_with (at_builtin;refine wpList_append_own_at _ rfl (.tmp 73) (.tmp 75) 33 rfl B 3 i3 _ 1 8 Tryz.underlying33 hi3 hz3 hz4 hz5 rfl (by decide) _ _ _ rfl (H5.out.alloc _) ⟨w6.heap.size,0,none⟩ 1 1 [.int .i64 M] rfl rfl one_cell one_one (by unfold maxLen;omega) (by omega) (by simp;omega) ?_;intro v2 wB own2 grow2 _ at2;refine Hid.out ?_)
     have far:∀g,g < B→some g≠(Value.slice (some ⟨gw2,0,none⟩) P wc).ownBlock:=fun g hg e=>by have:=(H5.out.lt g e.symm).1;omega
     have HE:Hid (OrdW f B g1 g2 w (leftN f done (tr.set k ((cN:Int)+1))) (up ++ [(k:Int)] ++ [(M:Int)]) done v2 (.slice do' done.length dc) wB):=hide (by
      refine⟨_,_,HP1.out,Nat.le_refl _,?_,?_,?_,?_,?_,?_,?_⟩
      ·rw [←HN.out];exact(H3.out.alloc _).kept grow2 (far g1 (by omega))
      ·rw [←HN.out];exact(H4.out.alloc _).kept grow2 (far g2 (by omega))
      ·have e:(up ++ [(k:Int)] ++ [(M:Int)]).length=P+1:=by rw [hP.out];simp
       rw [e]
       have:=own2
       simpa [ints] using this
      ·exact(H6.out.alloc _).kept grow2 H7.out.symm
      ·exact(Apart.grow (w:=w6) H7.out.symm H6.out at2).symm
      ·exact Below.grown (H8.out.alloc H8.out.size _) grow2 (by have:=H8.out.size;simp;omega) (fun k hk=>by have:=(H5.out.lt k hk).1;omega)
      ·have:=grow2.size;simp at this;omega)
     obtain⟨vo,vc,rfl⟩:=own_len own2
     clear own2 grow2 at2 far
     refine hide ?_
     go_wp2_with fail
     go_roundg (leftN f done (tr.set k ((cN:Int)+1)))
     case measure=>exact hlk
     case rel=>exact⟨_,_,HE⟩
def GrB (w:World) (l:List Bool) (v:Value) (wr:World):Prop:=wr.ownsRow w.heap.size 4 1 v l.length (bools l)∧Below w.heap.size w wr
theorem GrB.start (w:World):GrB w [] (.slice none 0 0) w:=⟨World.ownsRow_nil _ _ _ _,Below.refl _ _⟩
theorem GrB.step {w wr w2:World} {l:List Bool} {v v':Value} {x:Bool} {o:Obj} (h:GrB w l v wr) (own:w2.ownsRow w.heap.size 4 1 v' (l.length+1) (bools l ++ [.bool x])) (hg:(wr.alloc o).grownBy w2 v.ownBlock):GrB w (l ++ [x]) v' w2:=by
 refine⟨by simpa [bools] using own,?_⟩
 refine Below.grown (h.2.alloc h.2.size o) hg (by simp;have:=h.2.size;omega) ?_
 intro k hk
 exact(h.1.lt k hk).1
theorem GrB.len {w wr:World} {l:List Bool} {v:Value} (h:GrB w l v wr):∃ao c,v= .slice ao l.length c:=own_len h.1
end Go.Proofs.YtljkgcfnoegibaaGreatDoor
