/- Texts of one chain, joined. -/
import Derived.Test.YtljkgcfnoegibaaGreatDoorWcAL
import Derived.Test.YtljkgcfnoegibaaGreatDoorWcAN
import Derived.Test.YtljkgcfnoegibaaGreatDoorWcAO
set_option maxHeartbeats 4000000
set_option maxRecDepth 20000
namespace Go.Proofs.YtljkgcfnoegibaaGreatDoor
open Go Go.RowKit
open G (Tok Er Ins Fun)
theorem succs_read {B:Nat} {f:Fun} {w:World} {v:Value} (h:RowsO B w (succsF f) v):∃ao c,v= .slice ao f.2.2.2.1.length c∧RowsR w ao (succsF f):=by
 obtain⟨ao,c,e,h1,_⟩:=h.read
 exact⟨ao,c,by rw [e,succsF_len],h1⟩
theorem orderP_try (nm:List UInt8) (ps:List Int) (rt pl:Int) (bl:List (List Ins)) (ao bo:Option Addr) (c cb:Nat) (w:World)
  (hv:FunV w (nm,ps,rt,bl,pl) (.agg #[.string (bs nm),.slice ao ps.length c,.int .i64 rt,.slice bo bl.length cb,.int .i64 pl])) (hF:Ful (nm,ps,rt,bl,pl)) (hT:Tos (nm,ps,rt,bl,pl)) (h0:0 < bl.length):
  Calls Tryz.prog 94 #[.agg #[.string (bs nm),.slice ao ps.length c,.int .i64 rt,.slice bo bl.length cb,.int .i64 pl]] w fun e w'=>∃u,e= .returned u∧w'.ownsRow w.heap.size 3 1 u (orderF (nm,ps,rt,bl,pl)).length (ints (orderF (nm,ps,rt,bl,pl)))∧Below w.heap.size w w':=by
 have b0:=below_box w (.cells #[.string (bs nm),.slice ao ps.length c,.int .i64 rt,.slice bo bl.length cb,.int .i64 pl] 36)
 have X0:=hide (L5.Box.new w [.string (bs nm),.slice ao ps.length c,.int .i64 rt,.slice bo bl.length cb,.int .i64 pl] 36)
 have HC:=hide (succs_any (nm,ps,rt,bl,pl) _ _ (hv.below b0) hF hT)
 have HO:=hide (fun no nc w hr=>order_any (nm,ps,rt,bl,pl) no nc w hr hF hT h0)
 have B0:=hide b0
 clear b0 hv hF hT h0
 go_enter Tryz.func94,Tryz.ntmps94
 go_upto_region 1 with fail
 show Code.wp _ _ _ _ (w.alloc (.cells #[.string (bs nm),.slice ao ps.length c,.int .i64 rt,.slice bo bl.length cb,.int .i64 pl] 36))
 replace X0:Hid (L5.Box (w.alloc (.cells #[.string (bs nm),.slice ao ps.length c,.int .i64 rt,.slice bo bl.length cb,.int .i64 pl] 36)) w.heap.size [.string (bs nm),.slice ao ps.length c,.int .i64 rt,.slice bo bl.length cb,.int .i64 pl]):=X0
 generalize w.alloc (.cells #[.string (bs nm),.slice ao ps.length c,.int .i64 rt,.slice bo bl.length cb,.int .i64 pl] 36)=W at *
 obtain⟨x0,x1,x2,x3,x4⟩:_∧_∧_∧_∧_:=⟨X0.out.2 0 _ rfl,X0.out.2 1 _ rfl,X0.out.2 2 _ rfl,X0.out.2 3 _ rfl,X0.out.2 4 _ rfl⟩
 go_wp2_with fail
 refine HC.out.mono ?_;rintro e w1 ⟨v,rfl,hr,b1⟩
 obtain⟨no,nc,rfl,hrr⟩:=succs_read hr
 have HO1:=hide (HO.out no nc w1 hrr)
 have B1:=hide b1
 clear x0 x1 x2 x3 x4 hr hrr b1 HC HO
 go_wp2_with fail
 refine HO1.out.mono ?_;rintro e w2 ⟨u,rfl,hu,b2⟩
 have HE:=hide (And.intro (own_base hu (Nat.le_trans B0.out.size B1.out.size)) (below_step B0.out (below_step B1.out b2)))
 clear hu b2 HO1
 go_wp2_with fail
 go_ret
 exact⟨_,rfl,HE.out.1,HE.out.2⟩
theorem orderP_any (f:Fun) (v:Value) (w:World) (hv:FunV w f v) (hF:Ful f) (hT:Tos f) (h0:0 < f.2.2.2.1.length):
  Calls Tryz.prog 94 #[v] w fun e w'=>∃u,e= .returned u∧w'.ownsRow w.heap.size 3 1 u (orderF f).length (ints (orderF f))∧Below w.heap.size w w':=by
 obtain⟨nm,ps,rt,bl,pl⟩:=f
 have hv2:=hv
 obtain⟨vp,vb,rfl,⟨ao,c,rfl,h1,_⟩,h2⟩:=hv
 obtain⟨bo,cb,rfl,_⟩:=h2
 exact orderP_try nm ps rt pl bl ao bo c cb w hv2 hF hT h0
def fillTo (n I:Nat):List Int:=List.replicate I (-1) ++ List.replicate (n - I) 0
theorem fillTo_len {n I:Nat} (h:I≤n):(fillTo n I).length=n:=by simp [fillTo];omega
theorem fillTo_set {n I:Nat} (h:I < n):(fillTo n I).set I (-1)=fillTo n (I+1):=by
 unfold fillTo
 obtain⟨M,hM⟩:∃M,n - I=M+1:=⟨n - I - 1,by omega⟩
 rw [List.set_append_right _ _ (by simp),List.length_replicate,Nat.sub_self,hM,List.replicate_succ,List.set_cons_zero,Nat.sub_add_eq,hM,Nat.add_sub_cancel,List.replicate_succ',List.append_assoc];rfl
theorem fillTo_end (n:Nat):fillTo n n=placesTo n []:=by rw [placesTo_nil];simp [fillTo]
theorem order_num {f:Fun} (hT:Tos f) (h0:0 < f.2.2.2.1.length):(orderF f).Nodup∧Num f.2.2.2.1.length (orderF f):=by
 obtain⟨h1,h2⟩:=post0_num hT h0
 exact⟨List.pairwise_reverse.2 (h1.imp fun h e=>h e.symm),fun m hm=>h2 m (List.mem_reverse.1 hm)⟩
theorem places_try (f:Fun) (no:Option Addr) (nc:Nat) (w:World) (hr:RowsR w no (succsF f)) (hF:Ful f) (hT:Tos f) (h0:0 < f.2.2.2.1.length):
  Calls Tryz.prog 127 #[.slice no f.2.2.2.1.length nc] w fun e w'=>∃g,e= .returned (.slice (some ⟨g,0,none⟩) f.2.2.2.1.length f.2.2.2.1.length)∧RowAt w' w.heap.size 3 g f.2.2.2.1.length (ints (placesF f))∧Below w.heap.size w w':=by
 obtain⟨i3,hi3,hz3,hz4,hz5⟩:=info_parts Tryz.info3
 have HR:=hide hr
 have HO:=hide (fun w hr=>order_any f no nc w hr hF hT h0)
 have hbl:f.2.2.2.1.length≤1000000:=hF.1
 have hol:=orderF_len hT h0
 obtain⟨hnd,hnu⟩:=order_num hT h0
 have HNd:=hide hnd
 have HNu:=hide hnu
 have HPl:=hide (placesF_to f)
 generalize orderF f=l at *
 generalize placesF f=pf at *
 generalize f.2.2.2.1.length=N at *
 clear hr hF hT h0 hnd hnu
 go_enter Tryz.func127,Tryz.ntmps127
 go_upto_region 2 with (at_make;refine wpList_make_full _ rfl _ _ 33 rfl w.heap.size 3 i3 _ 1 Tryz.underlying33 hi3 hz3 hz4 .i64 .i64 N N N rfl rfl rfl rfl (by rw [hz5];omega) (by unfold maxLen;omega) (Nat.le_refl _) ?_;intro w1 own1 grow1;refine Hid.out ?_)
 rw [made_ints] at own1
 have R1:Hid (RowAt w1 w.heap.size 3 w.heap.size N (ints (fillTo N 0))):=hide (by
  have e:fillTo N 0=List.replicate N 0:=by simp [fillTo]
  rw [e];exact own1)
 have B1:=hide (grown_b grow1)
 clear own1 grow1
 generalize hg:w.heap.size=g at *
 refine hide ?_
 go_wp2_with fail
 go_loopw [12] (fun i wr=>∃I:Nat,I≤N∧i= .int .i64 I∧Hid (RowAt wr g 3 g N (ints (fillTo N I)))∧Hid (Below g w wr)) (fun i _=>N - (intOf i).toNat)
 case atStart=>exact⟨0,Nat.zero_le _,rfl,R1,B1⟩
 case round=>
  clear R1 B1
  obtain⟨I,hI,rfl,HA,HW⟩:=hrel
  by_cases hit:I < N
  ·have hiI:(I:Int) < N:=by omega
   obtain⟨x,hx⟩:∃x,(fillTo N I)[I]? =some x:=⟨_,List.getElem?_eq_getElem (by rw [fillTo_len hI];exact hit)⟩
   have c1:=HA.out.cell (ints_at hx)
   have z1:=HA.out.frozen I
   have HE:Hid (RowAt (wr.setCell ⟨g,I,none⟩ (.int .i64 (-1))) g 3 g N (ints (fillTo N (I+1)))):=hide (by rw [←fillTo_set hit,←ints_set];exact HA.out.set I _)
   have HE2:Hid (Below g w (wr.setCell ⟨g,I,none⟩ (.int .i64 (-1)))):=hide (HW.out.setCell (p:=⟨g,I,none⟩) (Nat.le_refl _) _)
   clear hx
   go_wp2_with fail
   go_roundw
   case rel=>exact⟨I+1,by omega,by go_num,HE,HE2⟩
   case measure=>simp [intOf];omega
  ·obtain rfl:I=N:=by omega
   have HA0:Hid (RowAt wr g 3 g I (ints (placesTo I (l.take 0)))):=hide (by have:=HA.out;rw [fillTo_end] at this;exact this)
   have HRr:Hid (RowsR wr no (succsF f)):=hide (HR.out.below (by rw [hg];exact HW.out))
   have HO1:=hide (HO.out wr HRr.out)
   have hgl:g < wr.heap.size:=HA.out.lt.2
   clear HA
   go_wp2_with fail
   refine HO1.out.mono ?_;rintro e w2 ⟨u,rfl,hu,b2⟩
   have HA2:=hide (HA0.out.below b2)
   have HW2:Hid (Below g w w2):=hide (HW.out.trans (b2.mono (by omega)))
   have HU:=hide hu
   obtain⟨uo,uc,rfl⟩:=own_len hu
   clear hu b2 HO1 HA0 HRr HW
   go_wp2_with fail
   generalize wr.heap.size=B at *
   go_loopw [22] (fun i wr=>∃J:Nat,J≤l.length∧i= .int .i64 J∧Hid (RowAt wr g 3 g I (ints (placesTo I (l.take J))))∧Hid (Below g w wr)∧Hid (wr.ownsRow B 3 1 (.slice uo l.length uc) l.length (ints l))) (fun i _=>l.length - (intOf i).toNat)
   case atStart=>exact⟨0,Nat.zero_le _,rfl,HA2,HW2,HU⟩
   case round=>
    clear HA2 HW2 HU
    obtain⟨J,hJ,rfl,HA,HW,HU⟩:=hrel
    by_cases hjt:J < l.length
    ·have hjI:(J:Int) < l.length:=by omega
     obtain⟨m,hm⟩:∃m,l[J]? =some m:=⟨_,List.getElem?_eq_getElem hjt⟩
     obtain⟨hm0,hm1⟩:=HNu.out m (List.mem_of_getElem? hm)
     obtain⟨M,rfl⟩:∃M:Nat,m=(M:Int):=⟨m.toNat,by omega⟩
     have hMI:M < I:=by omega
     have hfr:=take_fresh HNd.out hm
     obtain⟨gl,rfl,c9,_⟩:=own_cell HU.out hm
     obtain⟨x,hx⟩:∃x,(placesTo I (l.take J))[M]? =some x:=⟨_,List.getElem?_eq_getElem (by rw [placesTo_len];exact hMI)⟩
     have c1:=HA.out.cell (ints_at hx)
     have z1:=HA.out.frozen M
     have hlj:(l.take J).length=J:=by rw [List.length_take];omega
     have HE:Hid (RowAt (wr.setCell ⟨g,M,none⟩ (.int .i64 J)) g 3 g I (ints (placesTo I (l.take (J+1))))):=hide (by
      have e:=placesTo_snoc (n:=I) hfr
      rw [take_more hm,e,hlj,←ints_set]
      exact HA.out.set M _)
     have HE2:Hid (Below g w (wr.setCell ⟨g,M,none⟩ (.int .i64 J))):=hide (HW.out.setCell (p:=⟨g,M,none⟩) (Nat.le_refl _) _)
     have HE3:Hid ((wr.setCell ⟨g,M,none⟩ (.int .i64 J)).ownsRow B 3 1 (.slice (some ⟨gl,0,none⟩) l.length uc) l.length (ints l)):=hide (ownsRow_setCell_below HU.out (a:=⟨g,M,none⟩) hgl _)
     clear hx hm hfr hlj
     go_wp2_with fail
     go_roundw
     case rel=>exact⟨J+1,by omega,by go_num,HE,HE2,HE3⟩
     case measure=>simp [intOf];omega
    ·obtain rfl:J=l.length:=by omega
     have HE:Hid (RowAt wr w.heap.size 3 g I (ints pf)∧Below w.heap.size w wr):=hide (by
      refine⟨?_,by rw [hg];exact HW.out⟩
      have:=HA.out
      rw [List.take_length,←HPl.out] at this
      rw [hg];exact this)
     go_wp2_with fail
     go_ret
     exact⟨g,rfl,HE.out.1,HE.out.2⟩
def atF (f:Fun) (k:Int):Int:=placeL (orderF f) k
theorem placesF_at {f:Fun} {k:Nat} (h:k < f.2.2.2.1.length):(placesF f)[k]? =some (atF f k):=by
 unfold placesF;rw [List.getElem?_map,List.getElem?_range h];rfl
theorem placesP_try (nm:List UInt8) (ps:List Int) (rt pl:Int) (bl:List (List Ins)) (ao bo:Option Addr) (c cb:Nat) (w:World)
  (hv:FunV w (nm,ps,rt,bl,pl) (.agg #[.string (bs nm),.slice ao ps.length c,.int .i64 rt,.slice bo bl.length cb,.int .i64 pl])) (hF:Ful (nm,ps,rt,bl,pl)) (hT:Tos (nm,ps,rt,bl,pl)) (h0:0 < bl.length):
  Calls Tryz.prog 97 #[.agg #[.string (bs nm),.slice ao ps.length c,.int .i64 rt,.slice bo bl.length cb,.int .i64 pl]] w fun e w'=>∃g,e= .returned (.slice (some ⟨g,0,none⟩) bl.length bl.length)∧RowAt w' w.heap.size 3 g bl.length (ints (placesF (nm,ps,rt,bl,pl)))∧Below w.heap.size w w':=by
 have b0:=below_box w (.cells #[.string (bs nm),.slice ao ps.length c,.int .i64 rt,.slice bo bl.length cb,.int .i64 pl] 36)
 have X0:=hide (L5.Box.new w [.string (bs nm),.slice ao ps.length c,.int .i64 rt,.slice bo bl.length cb,.int .i64 pl] 36)
 have HC:=hide (succs_any (nm,ps,rt,bl,pl) _ _ (hv.below b0) hF hT)
 have HO:=hide (fun no nc w hr=>places_try (nm,ps,rt,bl,pl) no nc w hr hF hT h0)
 have B0:=hide b0
 clear b0 hv hF hT h0
 go_enter Tryz.func97,Tryz.ntmps97
 go_upto_region 1 with fail
 show Code.wp _ _ _ _ (w.alloc (.cells #[.string (bs nm),.slice ao ps.length c,.int .i64 rt,.slice bo bl.length cb,.int .i64 pl] 36))
 replace X0:Hid (L5.Box (w.alloc (.cells #[.string (bs nm),.slice ao ps.length c,.int .i64 rt,.slice bo bl.length cb,.int .i64 pl] 36)) w.heap.size [.string (bs nm),.slice ao ps.length c,.int .i64 rt,.slice bo bl.length cb,.int .i64 pl]):=X0
 generalize w.alloc (.cells #[.string (bs nm),.slice ao ps.length c,.int .i64 rt,.slice bo bl.length cb,.int .i64 pl] 36)=W at *
 obtain⟨x0,x1,x2,x3,x4⟩:_∧_∧_∧_∧_:=⟨X0.out.2 0 _ rfl,X0.out.2 1 _ rfl,X0.out.2 2 _ rfl,X0.out.2 3 _ rfl,X0.out.2 4 _ rfl⟩
 go_wp2_with fail
 refine HC.out.mono ?_;rintro e w1 ⟨v,rfl,hr,b1⟩
 obtain⟨no,nc,rfl,hrr⟩:=succs_read hr
 have HO1:=hide (HO.out no nc w1 hrr)
 have B1:=hide b1
 clear x0 x1 x2 x3 x4 hr hrr b1 HC HO
 go_wp2_with fail
 refine HO1.out.mono ?_;rintro e w2 ⟨g,rfl,hu,b2⟩
 have HE:=hide (And.intro (hu.base (Nat.le_trans B0.out.size B1.out.size)) (below_step B0.out (below_step B1.out b2)))
 clear hu b2 HO1
 go_wp2_with fail
 go_ret
 exact⟨g,rfl,HE.out.1,HE.out.2⟩
theorem placesP_any (f:Fun) (v:Value) (w:World) (hv:FunV w f v) (hF:Ful f) (hT:Tos f) (h0:0 < f.2.2.2.1.length):
  Calls Tryz.prog 97 #[v] w fun e w'=>∃g,e= .returned (.slice (some ⟨g,0,none⟩) f.2.2.2.1.length f.2.2.2.1.length)∧RowAt w' w.heap.size 3 g f.2.2.2.1.length (ints (placesF f))∧Below w.heap.size w w':=by
 obtain⟨nm,ps,rt,bl,pl⟩:=f
 have hv2:=hv
 obtain⟨vp,vb,rfl,⟨ao,c,rfl,h1,_⟩,h2⟩:=hv
 obtain⟨bo,cb,rfl,_⟩:=h2
 exact placesP_try nm ps rt pl bl ao bo c cb w hv2 hF hT h0
def Par (f:Fun) (k:Int) (done out:List Int):Prop:=∃e,out=done ++ e∧∀y∈e,y∈nextF f k.toNat∨∃x a b,e=a ++ b∧y∈a∧x∈b∧y∈nextF f x.toNat
theorem Par.refl (f:Fun) (k:Int) (done:List Int):Par f k done done:=⟨[],by simp,by simp⟩
theorem Par.trans {f:Fun} {k:Int} {a b c:List Int} (h:Par f k a b) (j:Par f k b c):Par f k a c:=by
 obtain⟨e,rfl,h1⟩:=h
 obtain⟨d,rfl,j1⟩:=j
 refine⟨e ++ d,by simp,fun y hy=> ?_⟩
 rcases List.mem_append.1 hy with hy | hy
 ·rcases h1 y hy with q | ⟨x,a1,b1,rfl,q2,q3,q4⟩
  ·exact .inl q
  ·exact .inr ⟨x,a1,b1 ++ d,by simp,q2,by simp [q3],q4⟩
 ·rcases j1 y hy with q | ⟨x,a1,b1,rfl,q2,q3,q4⟩
  ·exact .inl q
  ·exact .inr ⟨x,e ++ a1,b1,by simp,by simp [q2],q3,q4⟩
theorem walk_par {f:Fun} {N:Nat} {path:List Int} {k:Int} (hs:∀m out,m∈nextF f k.toNat→Par f k out (postF f N m out path)):
  ∀(l out:List Int),(∀m∈l,m∈nextF f k.toNat)→Par f k out (walkF f N path out l):=by
 intro l
 induction l with
 |nil=>intro out _;exact Par.refl _ _ _
 |cons m l ih=>
  intro out hl
  have e:walkF f N path out (m :: l)=walkF f N path (stepF f N path out m) l:=rfl
  rw [e]
  refine Par.trans ?_ (ih _ (fun x hx=>hl x (by simp [hx])))
  by_cases hc:hasL out m=true∨hasL path m=true
  ·rw [stepF_no hc];exact Par.refl _ _ _
  ·have hc1:hasL out m=false:=by simpa using fun e=>hc (.inl e)
   have hc2:hasL path m=false:=by simpa using fun e=>hc (.inr e)
   rw [stepF_yes hc1 hc2]
   exact hs m out (hl m (by simp))
theorem post_par {f:Fun}:∀(N:Nat) (k:Int) (done op:List Int),∃out,Par f k done out∧(postF f N k done op=out ++ [k]∨postF f N k done op=done):=by
 intro N
 induction N with
 |zero=>intro k done op;exact⟨done,Par.refl _ _ _,.inr rfl⟩
 |succ N ih=>
  intro k done op
  refine⟨walkF f N (op ++ [k]) done (nextF f k.toNat),?_,.inl (postF_succ f N k done op)⟩
  refine walk_par (fun m out hm=> ?_) _ _ (fun m hm=>hm)
  obtain⟨o,h1,h2⟩:=ih m out (op ++ [k])
  rcases h2 with e | e
  ·rw [e]
   obtain⟨d,rfl,h3⟩:=h1
   refine⟨d ++ [m],by simp,fun y hy=> ?_⟩
   rcases List.mem_append.1 hy with hy | hy
   ·rcases h3 y hy with q | ⟨x,a1,b1,rfl,q2,q3,q4⟩
    ·exact .inr ⟨m,d,[m],rfl,hy,by simp,q⟩
    ·exact .inr ⟨x,a1,b1 ++ [m],by simp,q2,by simp [q3],q4⟩
   ·simp at hy
    subst hy
    exact .inl hm
  ·rw [e];exact Par.refl _ _ _
theorem post_all {f:Fun} {Q:Int→Prop} (hQ:∀x m,Q x→m∈nextF f x.toNat→Q m):∀(N:Nat) (k:Int) (done op:List Int),Q k→(∀x∈done,Q x)→∀x∈postF f N k done op,Q x:=by
 intro N
 induction N with
 |zero=>intro k done op _ h;exact h
 |succ N ih=>
  intro k done op hk hd x hx
  rw [postF_succ] at hx
  have key:∀(l out:List Int),(∀m∈l,Q m)→(∀m∈out,Q m)→∀m∈walkF f N (op ++ [k]) out l,Q m:=by
   intro l
   induction l with
   |nil=>intro out _ h;exact h
   |cons m l ih2=>
    intro out hl ho
    refine ih2 _ (fun x hx=>hl x (by simp [hx])) ?_
    unfold stepF
    split
    ·exact ho
    ·exact ih m out _ (hl m (by simp)) ho
  rcases List.mem_append.1 hx with hx | hx
  ·exact key _ _ (fun m hm=>hQ k m hk hm) hd x hx
  ·simp at hx;subst hx;exact hk
theorem post_closed {f:Fun} (hT:Tos f):∀(N:Nat) (k:Int) (done op:List Int),(op ++ [k]).Nodup→Num f.2.2.2.1.length (op ++ [k])→N+op.length=f.2.2.2.1.length→
  k∈postF f N k done op∧(∀x∈done,x∈postF f N k done op)∧∀x∈postF f N k done op,x ∉ done→∀y∈nextF f x.toNat,y∈postF f N k done op∨y∈op:=by
 intro N
 induction N with
 |zero=>
  intro k done op h1 h2 h3
  have:=fit_len _ _ h1 h2
  simp at this
  omega
 |succ N ih=>
  intro k done op h1 h2 h3
  have key:∀(l out:List Int),Num f.2.2.2.1.length l→(∀x∈done,x∈out)→(∀x∈out,x ∉ done→∀y∈nextF f x.toNat,y∈out∨y∈op ++ [k])→
    (∀m∈l,m∈walkF f N (op ++ [k]) out l∨m∈op ++ [k])∧(∀x∈out,x∈walkF f N (op ++ [k]) out l)∧(∀x∈walkF f N (op ++ [k]) out l,x ∉ done→∀y∈nextF f x.toNat,y∈walkF f N (op ++ [k]) out l∨y∈op ++ [k]):=by
   intro l
   induction l with
   |nil=>intro out _ _ h;exact⟨by simp,fun x hx=>hx,h⟩
   |cons m l ih2=>
    intro out hl hd hc
    have e:walkF f N (op ++ [k]) out (m :: l)=walkF f N (op ++ [k]) (stepF f N (op ++ [k]) out m) l:=rfl
    rw [e]
    by_cases hm:hasL out m=true∨hasL (op ++ [k]) m=true
    ·rw [stepF_no hm]
     obtain⟨k1,k2,k3⟩:=ih2 out (fun x hx=>hl x (by simp [hx])) hd hc
     refine⟨fun x hx=> ?_,k2,k3⟩
     rcases List.mem_cons.1 hx with rfl | hx
     ·rcases hm with hm | hm
      ·exact .inl (k2 _ (hasL_mem.1 hm))
      ·exact .inr (hasL_mem.1 hm)
     ·exact k1 x hx
    ·have hc1:hasL out m=false:=by simpa using fun e=>hm (.inl e)
     have hc2:hasL (op ++ [k]) m=false:=by simpa using fun e=>hm (.inr e)
     rw [stepF_yes hc1 hc2]
     have hnd:(op ++ [k] ++ [m]).Nodup:=List.nodup_append.2 ⟨h1,by simp,by rintro x hx y hy rfl;simp at hy;subst hy;exact hasL_no.1 hc2 hx⟩
     have hnu:Num f.2.2.2.1.length (op ++ [k] ++ [m]):=by
      intro x hx
      rcases List.mem_append.1 hx with hx | hx
      ·exact h2 x hx
      ·simp at hx;subst hx;exact hl x (by simp)
     obtain⟨j1,j2,j3⟩:=ih m out (op ++ [k]) hnd hnu (by simp;omega)
     obtain⟨k1,k2,k3⟩:=ih2 (postF f N m out (op ++ [k])) (fun x hx=>hl x (by simp [hx])) (fun x hx=>j2 x (hd x hx)) (by
      intro x hx hxd y hy
      by_cases hxo:x∈out
      ·rcases hc x hxo hxd y hy with q | q
       ·exact .inl (j2 y q)
       ·exact .inr q
      ·exact j3 x hx hxo y hy)
     refine⟨fun x hx=> ?_,fun x hx=>k2 x (j2 x hx),k3⟩
     rcases List.mem_cons.1 hx with rfl | hx
     ·exact .inl (k2 _ j1)
     ·exact k1 x hx
  obtain⟨k1,k2,k3⟩:=key (nextF f k.toNat) done (hT _) (fun x hx=>hx) (fun x hx hn=>absurd hx hn)
  rw [postF_succ]
  refine⟨by simp,fun x hx=>by simp [k2 x hx],fun x hx hxd y hy=> ?_⟩
  have fin:y∈walkF f N (op ++ [k]) done (nextF f k.toNat)∨y∈op ++ [k]→y∈walkF f N (op ++ [k]) done (nextF f k.toNat) ++ [k]∨y∈op:=by
   rintro (q | q)
   ·exact .inl (by simp [q])
   ·rcases List.mem_append.1 q with q | q
    ·exact .inr q
    ·exact .inl (by simp at q;simp [q])
  rcases List.mem_append.1 hx with hx | hx
  ·exact fin (k3 x hx hxd y hy)
  ·simp at hx
   subst hx
   exact fin (k1 y hy)
theorem next_getD {f:Fun} {b:Int} (h:b.toNat < f.2.2.2.1.length):(succsF f).getD b.toNat []=nextF f b.toNat:=by
 rw [List.getD_eq_getElem?_getD,succsF_at h];rfl
theorem gr_succs {f:Fun} (hT:Tos f) (h0:0 < f.2.2.2.1.length):Gr (succsF f):=by
 refine⟨fun l hl=> ?_,by rw [succsF_len];exact h0⟩
 obtain⟨K,hK,rfl⟩:=List.mem_iff_getElem.1 hl
 have hK2:K < f.2.2.2.1.length:=by rw [←succsF_len];exact hK
 have e:=succsF_at hK2
 rw [List.getElem?_eq_getElem hK] at e
 injection e with e
 rw [e,succsF_len]
 exact hT K
theorem all_next {f:Fun} (hT:Tos f) (h0:0 < f.2.2.2.1.length) {x m:Int} (h:All (succsF f) x) (hm:m∈nextF f x.toNat):All (succsF f) m:=by
 have hx:=h.num (gr_succs hT h0)
 rw [succsF_len] at hx
 refine h.step (by rw [next_getD (by omega)];exact hm) ?_
 have:=hT _ m hm
 omega
theorem mem_order {f:Fun} (hT:Tos f) (h0:0 < f.2.2.2.1.length) (m:Int):m∈orderF f↔All (succsF f) m:=by
 unfold orderF
 rw [List.mem_reverse]
 constructor
 ·exact post_all (f:=f) (Q:=All (succsF f)) (fun x m hx hm=>all_next hT h0 hx hm) _ 0 [] [] (All.first _) (by simp) m
 ·obtain⟨h1,_,h3⟩:=post_closed hT f.2.2.2.1.length 0 [] [] (by simp) (fun m hm=>by simp at hm;subst hm;omega) (by simp)
  refine Rch.rec' (fun x hx _=> ?_) (fun b c hb hm hc _=> ?_) m
  ·simp at hx;subst hx;exact h1
  ·have hx:=All.num (gr_succs hT h0) hb
   rw [succsF_len] at hx
   rw [next_getD (by omega)] at hc
   rcases h3 b hm (by simp) c hc with q | q
   ·exact q
   ·simp at q
theorem at_order {f:Fun} (hT:Tos f) (h0:0 < f.2.2.2.1.length) {i:Nat} {b:Int} (h:(orderF f)[i]? =some b):atF f b=i:=
 (placeL_yes (take_fresh (order_num hT h0).1 h) h).symm
theorem at_all {f:Fun} (hT:Tos f) (h0:0 < f.2.2.2.1.length) (b:Int):All (succsF f) b↔0≤atF f b:=by
 rw [←mem_order hT h0]
 constructor
 ·intro h
  obtain⟨i,hi,rfl⟩:=List.mem_iff_getElem.1 h
  rw [at_order hT h0 (List.getElem?_eq_getElem hi)]
  omega
 ·intro h
  refine Classical.byContradiction fun e=> ?_
  have:=placeL_no (l:=orderF f) (hasL_no.2 e)
  unfold atF at h
  omega
def Ord (ll:List (List Int)) (pl:Int→Int):Prop:=(∀b,All ll b↔0≤pl b)∧(∀a b,All ll a→All ll b→pl a=pl b→a=b)∧pl 0=0∧
 ∀b,All ll b→b≠0→∃p,All ll p∧b∈ll.getD p.toNat []∧pl p < pl b
theorem ord_of {f:Fun} (hT:Tos f) (h0:0 < f.2.2.2.1.length):Ord (succsF f) (atF f):=by
 have idx:∀b,All (succsF f) b→∃i:Nat,(orderF f)[i]? =some b∧atF f b=i:=by
  intro b hb
  obtain⟨i,hi,e⟩:=List.mem_iff_getElem.1 ((mem_order hT h0 b).2 hb)
  have h:(orderF f)[i]? =some b:=by rw [List.getElem?_eq_getElem hi,e]
  exact⟨i,h,at_order hT h0 h⟩
 obtain⟨out,hp,he⟩:=post_par (f:=f) f.2.2.2.1.length 0 [] []
 have he1:postF f f.2.2.2.1.length 0 [] []=out ++ [0]:=by
  rcases he with e | e
  ·exact e
  ·have:=(post_closed hT f.2.2.2.1.length 0 [] [] (by simp) (fun m hm=>by simp at hm;subst hm;omega) (by simp)).1
   rw [e] at this
   simp at this
 have hord:orderF f=0 :: out.reverse:=by unfold orderF;rw [he1];simp
 have hz:atF f 0=0:=at_order hT h0 (i:=0) (by rw [hord];rfl)
 refine⟨at_all hT h0,fun a b ha hb e=> ?_,hz,fun b hb hne=> ?_⟩
 ·obtain⟨i,h1,h2⟩:=idx a ha
  obtain⟨j,k1,k2⟩:=idx b hb
  have:i=j:=by omega
  subst this
  rw [h1] at k1
  injection k1
 ·obtain⟨e,hee,hpar⟩:=hp
  have hee2:e=out:=by simpa using hee.symm
  subst hee2
  have hbe:b∈e:=by
   have:=(mem_order hT h0 b).2 hb
   rw [hord] at this
   rcases List.mem_cons.1 this with q | q
   ·exact absurd q hne
   ·simpa using q
  have back:∀(x y:Int) (a c:List Int),e ++ [0]=a ++ c→y∈a→x∈c→y∈nextF f x.toNat→∃p,All (succsF f) p∧y∈(succsF f).getD p.toNat []∧atF f p < atF f y:=by
   intro x y a c hac hy hx hyx
   have ho:orderF f=c.reverse ++ a.reverse:=by
    have:orderF f=(e ++ [0]).reverse:=by rw [hord];simp
    rw [this,hac];simp
   have hxo:x∈orderF f:=by rw [ho];simp [hx]
   have hxa:=(mem_order hT h0 x).1 hxo
   have hn:=hxa.num (gr_succs hT h0)
   rw [succsF_len] at hn
   refine⟨x,hxa,by rw [next_getD (by omega)];exact hyx,?_⟩
   obtain⟨i,hi,ei⟩:=List.mem_iff_getElem.1 (List.mem_reverse.2 hx)
   obtain⟨j,hj,ej⟩:=List.mem_iff_getElem.1 (List.mem_reverse.2 hy)
   have q1:(orderF f)[i]? =some x:=by rw [ho,List.getElem?_append_left hi,List.getElem?_eq_getElem hi,ei]
   have q2:(orderF f)[c.reverse.length+j]? =some y:=by
    rw [ho,List.getElem?_append_right (by omega),Nat.add_sub_cancel_left,List.getElem?_eq_getElem hj,ej]
   rw [at_order hT h0 q1,at_order hT h0 q2]
   omega
  rcases hpar b hbe with q | ⟨x,a,c,hac,q2,q3,q4⟩
  ·exact back 0 b e [0] rfl hbe (by simp) q
  ·exact back x b a (c ++ [0]) (by rw [hac];simp) q2 (by simp [q3]) q4
end Go.Proofs.YtljkgcfnoegibaaGreatDoor
