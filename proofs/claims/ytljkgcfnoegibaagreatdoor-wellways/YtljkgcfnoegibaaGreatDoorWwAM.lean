/- Texts of one chain, joined. -/
import Derived.Test.YtljkgcfnoegibaaGreatDoorWwAK
import Derived.Test.YtljkgcfnoegibaaGreatDoorWwAL
import Derived.Laws.OwnMore
set_option maxHeartbeats 4000000
set_option maxRecDepth 20000
namespace Go.Proofs.YtljkgcfnoegibaaGreatDoor
open Go Go.RowKit
open G (Tok Er Ins Fun)
def rowTo (ll:List (List Int)) (a:Int) (K:Nat):List Bool:=(List.range K).map fun(b:Nat)=>aheadB ll a b
def tabTo (ll:List (List Int)) (K:Nat):List (List Bool):=(List.range K).map fun(a:Nat)=>rowTo ll a ll.length
def tabOf (ll:List (List Int)):List (List Bool):=tabTo ll ll.length
theorem rowTo_len (ll:List (List Int)) (a:Int) (K:Nat):(rowTo ll a K).length=K:=by simp [rowTo]
theorem rowTo_at {ll:List (List Int)} {a:Int} {K b:Nat} (h:b < K):(rowTo ll a K)[b]? =some (aheadB ll a b):=by
 unfold rowTo;rw [List.getElem?_map,List.getElem?_range h];rfl
theorem tabTo_len (ll:List (List Int)) (K:Nat):(tabTo ll K).length=K:=by simp [tabTo]
theorem tabTo_at {ll:List (List Int)} {K a:Nat} (h:a < K):(tabTo ll K)[a]? =some (rowTo ll a ll.length):=by
 unfold tabTo;rw [List.getElem?_map,List.getElem?_range h];rfl
def TabO (B:Nat) (w:World) (t:List (List Bool)) (v:Value):Prop:=∃us:List Value,w.ownsRow B 124 1 v t.length us∧us.length=t.length∧∀(i:Nat) (l:List Bool),t[i]? =some l→∃u,us[i]? =some u∧w.ownsRow B 4 1 u l.length (bools l)
theorem TabO.nil (B:Nat) (w:World):TabO B w [] (.slice none 0 0):=⟨[],World.ownsRow_nil _ _ _ _,rfl,fun i l h=>by simp at h⟩
theorem TabO.below {B:Nat} {w w':World} {t:List (List Bool)} {v:Value} (h:TabO B w t v) (b:Below w.heap.size w w'):TabO B w' t v:=by
 obtain⟨us,h1,h2,h3⟩:=h
 refine⟨us,own_below b B _ _ _ _ _ h1,h2,fun i l hl=> ?_⟩
 obtain⟨u,k1,k2⟩:=h3 i l hl
 exact⟨u,k1,own_below b B _ _ _ _ _ k2⟩
theorem TabO.base {B B':Nat} {w:World} {t:List (List Bool)} {v:Value} (h:TabO B w t v) (hB:B'≤B):TabO B' w t v:=by
 obtain⟨us,h1,h2,h3⟩:=h
 refine⟨us,own_base h1 hB,h2,fun i l hl=> ?_⟩
 obtain⟨u,k1,k2⟩:=h3 i l hl
 exact⟨u,k1,own_base k2 hB⟩
theorem TabO.len {B:Nat} {w:World} {t:List (List Bool)} {v:Value} (h:TabO B w t v):∃ao c,v= .slice ao t.length c:=by
 obtain⟨us,h1,_⟩:=h
 exact own_len h1
theorem TabO.step {B:Nat} {wr w2:World} {t:List (List Bool)} {l:List Bool} {v v' u:Value} {us:List Value} {o:Obj} (h1:wr.ownsRow B 124 1 v t.length us)
  (h:us.length=t.length∧∀(i:Nat) (l:List Bool),t[i]? =some l→∃u,us[i]? =some u∧wr.ownsRow B 4 1 u l.length (bools l)) (hu:wr.ownsRow B 4 1 u l.length (bools l))
  (own:w2.ownsRow B 124 1 v' (t.length+1) (us ++ [u])) (hg:(wr.alloc o).grownBy w2 v.ownBlock):TabO B w2 (t ++ [l]) v':=by
 obtain⟨h2,h3⟩:=h
 refine⟨us ++ [u],by simpa using own,by simp [h2],fun i m hm=> ?_⟩
 have other:∀(x:Value) (n:Nat) (xs:List Value),wr.ownsRow B 4 1 x n xs→w2.ownsRow B 4 1 x n xs:=fun x n xs hx=>own_other hg (h1.alloc o) (by decide) x n xs (hx.alloc o)
 by_cases hi:i < t.length
 ·rw [List.getElem?_append_left hi] at hm
  obtain⟨y,k1,k2⟩:=h3 i m hm
  exact⟨y,by rw [List.getElem?_append_left (by omega)];exact k1,other _ _ _ k2⟩
 ·rw [List.getElem?_append_right (by omega)] at hm
  have hi2:i - t.length=0:=by
   have:=(List.getElem?_eq_some_iff.1 hm).1
   simp at this
   omega
  rw [hi2] at hm
  simp at hm
  subst hm
  exact⟨u,by rw [List.getElem?_append_right (by omega),h2,hi2];rfl,other _ _ _ hu⟩
def TabL (w:World) (ll:List (List Int)) (v:Value):Prop:=∃b o c,v= .slice (some ⟨b,o,none⟩) ll.length c∧b < w.heap.size∧∀i:Nat,i < ll.length→∃lb lo lc,w.cell? ⟨b,o+i,none⟩=some (.slice (some ⟨lb,lo,none⟩) ll.length lc)∧lb < w.heap.size∧
 ∀j:Nat,j < ll.length→w.cell? ⟨lb,lo+j,none⟩=some (.bool (aheadB ll i j))
theorem TabL.below {w w':World} {ll:List (List Int)} {v:Value} (h:TabL w ll v) (hb:Below w.heap.size w w'):TabL w' ll v:=by
 obtain⟨b,o,c,e,h1,h2⟩:=h
 refine⟨b,o,c,e,Nat.lt_of_lt_of_le h1 hb.size,fun i hi=> ?_⟩
 obtain⟨lb,lo,lc,k1,k2,k3⟩:=h2 i hi
 exact⟨lb,lo,lc,(hb.cell (p:=⟨b,o+i,none⟩) h1).trans k1,Nat.lt_of_lt_of_le k2 hb.size,fun j hj=>(hb.cell (p:=⟨lb,lo+j,none⟩) k2).trans (k3 j hj)⟩
theorem TabO.read {B:Nat} {w:World} {ll:List (List Int)} {v:Value} (h:TabO B w (tabOf ll) v) (hn:0 < ll.length):TabL w ll v:=by
 obtain⟨us,h1,h2,h3⟩:=h
 have hl:(tabOf ll).length=ll.length:=tabTo_len _ _
 rw [hl] at h1
 rcases own_view h1 with ⟨_,e⟩ | ⟨g,cap,e,k1,k2,k3,k4,k5,k6⟩
 ·omega
 refine⟨g,0,cap,e,k4,fun i hi=> ?_⟩
 obtain⟨u,q1,q2⟩:=h3 i _ (tabTo_at hi)
 rw [rowTo_len] at q2
 rcases own_view q2 with ⟨_,e⟩ | ⟨g2,cap2,e2,m1,m2,m3,m4,m5,m6⟩
 ·omega
 refine⟨g2,0,cap2,by rw [Nat.zero_add,k5 i u q1,e2],m4,fun j hj=> ?_⟩
 rw [Nat.zero_add]
 exact m5 j _ (bools_at (rowTo_at hj))
theorem cntB_max (p:Nat→Bool):∀n,cntB p n≤n:=by
 intro n
 induction n with
 |zero=>exact Nat.le_refl _
 |succ n ih=>
  rw [cntB_succ]
  split <;> omega
theorem depth_max (ll:List (List Int)) (b:Int):depthB ll b≤ll.length:=cntB_max _ _
def firstQ (p:Nat→Bool):Nat→Int
 |0=> -1
 |n+1=>if 0≤firstQ p n then firstQ p n else if p n then n else -1
theorem firstQ_none {p:Nat→Bool}:∀n,(∀j,j < n→p j=false)→firstQ p n= -1:=by
 intro n
 induction n with
 |zero=>intro _;rfl
 |succ n ih=>
  intro h
  have h1:=ih (fun j hj=>h j (by omega))
  simp [firstQ,h1,h n (by omega)]
theorem firstQ_some {p:Nat→Bool} {K:Nat} (hp:p K=true) (h0:∀j,j < K→p j=false):∀n,K < n→firstQ p n=K:=by
 intro n
 induction n with
 |zero=>intro h;omega
 |succ n ih=>
  intro h
  by_cases e:K=n
  ·subst e
   have h1:=firstQ_none K h0
   simp [firstQ,h1,hp]
  ·have h1:=ih (by omega)
   simp [firstQ,h1]
def isUpB (ll:List (List Int)) (b:Int) (a:Nat):Bool:=decide ((a:Int)≠b) && aheadB ll a b && decide (depthB ll a+1=depthB ll b)
def upB (ll:List (List Int)) (b:Int):Int:=firstQ (isUpB ll b) ll.length
theorem firstQ_spec {p:Nat→Bool}:∀n,0≤firstQ p n→p (firstQ p n).toNat=true∧firstQ p n < n:=by
 intro n
 induction n with
 |zero=>intro h;simp [firstQ] at h
 |succ n ih=>
  intro h
  by_cases h0:0≤firstQ p n
  ·have e:firstQ p (n+1)=firstQ p n:=by simp [firstQ,h0]
   rw [e]
   have:=ih h0
   exact⟨this.1,by omega⟩
  ·cases hp:p n with
   |true=>
    have e:firstQ p (n+1)=n:=by simp [firstQ,h0,hp]
    rw [e]
    exact⟨by simpa using hp,by omega⟩
   |false=>
    have e:firstQ p (n+1)= -1:=by simp [firstQ,h0,hp]
    rw [e] at h
    omega
theorem upB_is {ll:List (List Int)} (h:Gr ll) {b:Int} (h0:0≤upB ll b):IsUp ll b (upB ll b):=by
 have h1:=(firstQ_spec _ h0).1
 have e:(((upB ll b).toNat:Nat):Int)=upB ll b:=Int.toNat_of_nonneg h0
 have h2:isUpB ll b (upB ll b).toNat=true:=h1
 unfold isUpB at h2
 rw [e] at h2
 simp only [Bool.and_eq_true,decide_eq_true_eq,ahead_iff h] at h2
 exact⟨h2.1.1,h2.1.2,h2.2⟩
theorem upB_eq {ll:List (List Int)} (h:Gr ll) {b a:Int} (ha:IsUp ll b a):upB ll b=a:=by
 obtain⟨n0,n1⟩:=ha.2.1.1.num h
 obtain⟨A,rfl⟩:∃A:Nat,a=(A:Int):=⟨a.toNat,by omega⟩
 refine firstQ_some (K:=A) ?_ ?_ _ (by omega)
 ·unfold isUpB
  simp only [Bool.and_eq_true,decide_eq_true_eq,ahead_iff h]
  exact⟨⟨ha.1,ha.2.1⟩,ha.2.2⟩
 ·intro j hj
  cases hp:isUpB ll b j with
  |false=>rfl
  |true=>
   exfalso
   unfold isUpB at hp
   simp only [Bool.and_eq_true,decide_eq_true_eq,ahead_iff h] at hp
   have:=IsUp.one h ⟨hp.1.1,hp.1.2,hp.2⟩ ha
   omega
theorem upB_no {ll:List (List Int)} (h:Gr ll) {b:Int} (hb:∀a,¬IsUp ll b a):upB ll b= -1:=by
 by_cases h0:0≤upB ll b
 ·exact absurd (upB_is h h0) (hb _)
 ·refine firstQ_none _ fun j hj=> ?_
  cases hp:isUpB ll b j with
  |false=>rfl
  |true=>
   exfalso
   unfold isUpB at hp
   simp only [Bool.and_eq_true,decide_eq_true_eq,ahead_iff h] at hp
   exact hb _ ⟨hp.1.1,hp.1.2,hp.2⟩
theorem Grw.below {w wr w2:World} {l:List Int} {v:Value} (h:Grw w l v wr) (b:Below wr.heap.size wr w2):Grw w l v w2:=⟨own_below b _ _ _ _ _ _ h.1,below_step h.2 b⟩
theorem Grw.lit (w:World) (b:Int):Grw w [b] (.slice (some ⟨w.heap.size,0,none⟩) 1 1) (w.alloc (.cells #[.int .i64 b] 3)):=
 ⟨World.ownsRow_lit (size:=1) w #[.int .i64 b] 1 (Nat.le_refl _) (by unfold maxLen;omega) rfl,below_box w _⟩
theorem succs_any (f:Fun) (v:Value) (w:World) (hv:FunV w f v) (hF:Ful f) (hT:Tos f):
  Calls Tryz.prog 95 #[v] w fun e w'=>∃u,e= .returned u∧RowsO w.heap.size w' (succsF f) u∧Below w.heap.size w w':=by
 obtain⟨nm,ps,rt,bl,pl⟩:=f
 have hv2:=hv
 obtain⟨vp,vb,rfl,⟨ao,c,rfl,h1,_⟩,h2⟩:=hv
 obtain⟨bo,cb,rfl,_⟩:=h2
 exact succs_try nm ps rt pl bl ao bo c cb w hv2 hF hT
def PreW (g1:Nat) (W w2:World) (n:Nat) (ll:List (List Int)) (B1:Nat) (wr:World):Prop:=∃us,RowAt wr W.heap.size 33 g1 n us∧RowsS w2.heap.size wr ll us∧Below W.heap.size W wr∧Mid B1 w2 wr
theorem preds_try (nm:List UInt8) (ps:List Int) (rt pl:Int) (bl:List (List Ins)) (ao bo:Option Addr) (c cb:Nat) (w:World)
  (hv:FunV w (nm,ps,rt,bl,pl) (.agg #[.string (bs nm),.slice ao ps.length c,.int .i64 rt,.slice bo bl.length cb,.int .i64 pl])) (hF:Ful (nm,ps,rt,bl,pl)) (hT:Tos (nm,ps,rt,bl,pl)):
  Calls Tryz.prog 66 #[.agg #[.string (bs nm),.slice ao ps.length c,.int .i64 rt,.slice bo bl.length cb,.int .i64 pl]] w fun e w'=>∃v,e= .returned v∧RowsO w.heap.size w' (predsF (nm,ps,rt,bl,pl)) v∧Below w.heap.size w w':=by
 obtain⟨i0,hi0,hz0,hz1,hz2⟩:=info_parts Tryz.info33
 obtain⟨i3,hi3,hz3,hz4,hz5⟩:=info_parts Tryz.info3
 have b0:=below_box w (.cells #[.string (bs nm),.slice ao ps.length c,.int .i64 rt,.slice bo bl.length cb,.int .i64 pl] 36)
 have X0:=hide (L5.Box.new w [.string (bs nm),.slice ao ps.length c,.int .i64 rt,.slice bo bl.length cb,.int .i64 pl] 36)
 have HV:=hide (hv.below b0)
 have B0:=hide b0
 have HFu:=hide hF
 have HTo:=hide hT
 have hbl:bl.length≤1000000:=hF.1
 clear b0 hv hF hT
 go_enter Tryz.func66,Tryz.ntmps66
 go_upto_region 1 with fail
 show Code.wp _ _ _ _ (w.alloc (.cells #[.string (bs nm),.slice ao ps.length c,.int .i64 rt,.slice bo bl.length cb,.int .i64 pl] 36))
 replace X0:Hid (L5.Box (w.alloc (.cells #[.string (bs nm),.slice ao ps.length c,.int .i64 rt,.slice bo bl.length cb,.int .i64 pl] 36)) w.heap.size [.string (bs nm),.slice ao ps.length c,.int .i64 rt,.slice bo bl.length cb,.int .i64 pl]):=X0
 generalize w.alloc (.cells #[.string (bs nm),.slice ao ps.length c,.int .i64 rt,.slice bo bl.length cb,.int .i64 pl] 36)=W at *
 have x3:=X0.out.2 3 _ rfl
 go_upto_region 2 with (at_make;refine wpList_make_full _ rfl _ _ 105 rfl W.heap.size 33 i0 _ 1 Tryz.underlying105 hi0 hz0 hz1 .i64 .i64 bl.length bl.length bl.length rfl rfl rfl rfl (by rw [hz2];omega) (by unfold maxLen;omega) (Nat.le_refl _) ?_;intro w1 own1 grow1;refine Hid.out ?_)
 rw [made_rows] at own1
 have R1:Hid (RowAt w1 W.heap.size 33 W.heap.size bl.length (List.replicate bl.length (.slice none 0 0))):=hide own1
 have B1:=hide (grown_b grow1)
 clear own1 grow1 x3
 have hg1:W.heap.size < w1.heap.size:=R1.out.lt.2
 obtain⟨x0,x1,x2,x3,x4⟩:_∧_∧_∧_∧_:=⟨(X0.out.below B1.out).2 0 _ rfl,(X0.out.below B1.out).2 1 _ rfl,(X0.out.below B1.out).2 2 _ rfl,(X0.out.below B1.out).2 3 _ rfl,(X0.out.below B1.out).2 4 _ rfl⟩
 have HC:=hide (succs_any (nm,ps,rt,bl,pl) _ w1 (HV.out.below B1.out) HFu.out HTo.out)
 refine hide ?_
 go_wp2_with fail
 refine HC.out.mono ?_;rintro e w2 ⟨v,rfl,hr,b2⟩
 clear x0 x1 x2 x3 x4
 have HR:=hide hr
 obtain⟨so,sc,rfl⟩:=hr.len
 have hsl:(succsF (nm,ps,rt,bl,pl)).length=bl.length:=succsF_len _
 rw [hsl] at HR ⊢
 have B12:=hide (below_step B1.out b2)
 have HSt:Hid (PreW W.heap.size W w2 bl.length (pRows (nm,ps,rt,bl,pl) 0 []) w1.heap.size w2):=hide ⟨_,R1.out.below b2,by
  have:=RowsS.start w2.heap.size w2 bl.length
  have e:=pRows_start (nm,ps,rt,bl,pl)
  rw [e];exact this,B12.out,Mid.refl _ _⟩
 have hg2:w1.heap.size≤w2.heap.size:=b2.size
 clear R1 B1 B12 b2 hr HC hsl
 generalize w1.heap.size=Bq at *
 generalize hg:W.heap.size=g1 at *
 go_wp2_with fail
 go_loopw [15] (fun i wr=>∃K:Nat,K≤bl.length∧i= .int .i64 K∧Hid (PreW g1 W w2 bl.length (pRows (nm,ps,rt,bl,pl) K []) Bq wr)) (fun i _=>bl.length - (intOf i).toNat)
 case atStart=>exact⟨0,Nat.zero_le _,rfl,HSt⟩
 case round=>
  clear HSt
  obtain⟨K,hK,rfl,HS⟩:=hrel
  by_cases hkt:K < bl.length
  ·have hkI:(K:Int) < bl.length:=by omega
   have HMi:Hid (Mid Bq w2 wr):=hide (by obtain⟨us,_,_,_,h⟩:=HS.out;exact h)
   obtain⟨gs,lo,lc,rfl,c0,hlw,hgs,hgt⟩:=HR.out.row (succsF_at (f:=(nm,ps,rt,bl,pl)) hkt)
   have c1:=(HMi.out.cell (p:=⟨gs,K,none⟩) hgs hgt).trans c0
   have HLw:=hide hlw
   have HPn:Hid (pRows (nm,ps,rt,bl,pl) K (nextF (nm,ps,rt,bl,pl) K)=pRows (nm,ps,rt,bl,pl) (K+1) []):=hide (pRows_next _ K)
   have HNu:Hid (Num bl.length (nextF (nm,ps,rt,bl,pl) K)):=hide (HTo.out K)
   have hll:(nextF (nm,ps,rt,bl,pl) K).length≤1000000:=nextF_len HFu.out hkt
   have HNd:Hid (nextF (nm,ps,rt,bl,pl) K).Nodup:=hide (once_nodup _)
   have HS0:Hid (PreW g1 W w2 bl.length (pRows (nm,ps,rt,bl,pl) K ((nextF (nm,ps,rt,bl,pl) K).take 0)) Bq wr):=hide HS.out
   have hpl:=fun M=>predTo_len (nm,ps,rt,bl,pl) M K
   generalize nextF (nm,ps,rt,bl,pl) K=l at *
   clear HMi c0 hlw HS
   go_wp2_with fail
   clear c1
   go_loopw [22] (fun i wr=>∃J:Nat,J≤l.length∧i= .int .i64 J∧Hid (PreW g1 W w2 bl.length (pRows (nm,ps,rt,bl,pl) K (l.take J)) Bq wr)) (fun i _=>l.length - (intOf i).toNat)
   case atStart=>exact⟨0,Nat.zero_le _,rfl,HS0⟩
   case round=>
    clear HS0
    obtain⟨J,hJ,rfl,HS⟩:=hrel
    by_cases hjt:J < l.length
    ·have hjI:(J:Int) < l.length:=by omega
     obtain⟨m,hm⟩:∃m,l[J]? =some m:=⟨l[J],List.getElem?_eq_getElem hjt⟩
     obtain⟨hm0,hm1⟩:=HNu.out m (List.mem_of_getElem? hm)
     obtain⟨M,rfl⟩:∃M:Nat,m=(M:Int):=⟨m.toNat,by omega⟩
     have hMl:M < bl.length:=by omega
     have HTk:Hid (l.take (J+1)=l.take J ++ [(M:Int)]):=hide (take_more hm)
     have hfr:=take_fresh HNd.out hm
     obtain⟨us,q1,q2,q3,q4⟩:=HS.out
     obtain⟨gl,rfl,c9,_⟩:=own_cell (own_mid HLw.out q4) hm
     obtain⟨row,u,y1,y2,y3⟩:=q2.at (i:=M) (by rw [pRows_len];exact hMl)
     rw [pRows_at _ _ hMl,hfr] at y1
     simp only [Bool.false_eq_true,if_false,List.append_nil,Option.some.injEq] at y1
     have hrl:=hpl M
     have HPu:Hid ((pRows (nm,ps,rt,bl,pl) K (l.take J)).set M (row ++ [(K:Int)])=pRows (nm,ps,rt,bl,pl) K (l.take J ++ [(M:Int)])):=hide (by rw [←y1];exact pRows_put hMl)
     have HPa:Hid ((pRows (nm,ps,rt,bl,pl) K (l.take J))[M]? =some row):=hide (by rw [pRows_at _ _ hMl,hfr,←y1];simp)
     rw [y1] at hrl
     have c8:=q1.cell y2
     have Q1:=hide q1
     have Q2:=hide q2
     have Q3:=hide q3
     have Q4:=hide q4
     have Y2:=hide y2
     have Y3:=hide y3
     obtain⟨uo,uc,rfl⟩:=own_len y3
     have hws:=q4.1
     have hMI:(M:Int) < bl.length:=by omega
     clear hm q1 q2 q3 q4 y1 y2 y3 HS hfr hm0 hm1
     go_wp2_with (at_builtin;refine wpList_append_own_at _ rfl (.tmp 31) (.tmp 33) 33 rfl w2.heap.size 3 i3 _ 1 8 Tryz.underlying33 hi3 hz3 hz4 hz5 rfl (by decide) _ _ _ rfl (Y3.out.alloc _) ⟨wr.heap.size,0,none⟩ 1 1 [.int .i64 K] rfl rfl one_cell one_one (by unfold maxLen;omega) (by omega) (by simp;omega) ?_;intro v2 wB own2 grow2 _ at2;refine Hid.out ?_)
     have far:∀g,g < w2.heap.size→some g≠(Value.slice uo row.length uc).ownBlock:=fun g hg e=>by have:=(Y3.out.lt g e.symm).1;omega
     have P1:Hid (RowAt wB W.heap.size 33 g1 bl.length us):=hide ((Q1.out.alloc _).kept grow2 (far g1 (by omega)))
     have P2:=hide (Q2.out.step HPa.out Y2.out own2 grow2 at2)
     rw [HPu.out,←HTk.out] at P2
     have P3:Hid (Below W.heap.size W wB):=hide (Below.grown (Q3.out.alloc Q3.out.size _) grow2 (by simp;omega) (fun k hk=>by have:=(Y3.out.lt k hk).1;omega))
     have P4:Hid (Mid Bq w2 wB):=hide ((Q4.out.alloc _).grown grow2 (fun k hk=> .inr (Y3.out.lt k hk).1))
     have HE:Hid (PreW g1 W w2 bl.length (pRows (nm,ps,rt,bl,pl) K (l.take (J+1))) Bq (wB.setCell ⟨g1,M,none⟩ v2)):=hide (by
      exact⟨us.set M v2,P1.out.set M v2,P2.out.put (p:=⟨g1,M,none⟩) (by show g1 < w2.heap.size;omega) _,P3.out.setCell (p:=⟨g1,M,none⟩) (by show W.heap.size≤g1;omega) _,P4.out.put (p:=⟨g1,M,none⟩) (.inl (by show g1 < Bq;omega)) _⟩)
     obtain⟨vo,vc,rfl⟩:=own_len own2
     have k2:=P1.out.cell Y2.out
     have k3:=P1.out.frozen M
     clear own2 grow2 at2 far P1 P2 P3 P4 Q1 Q2 Q3 Q4 Y2 Y3 c8 c9
     refine hide ?_
     go_wp2_with fail
     go_roundw
     case rel=>exact⟨J+1,by omega,by go_num,HE⟩
     case measure=>simp [intOf];omega
    ·obtain rfl:J=l.length:=by omega
     have HE:Hid (PreW g1 W w2 bl.length (pRows (nm,ps,rt,bl,pl) (K+1) []) Bq wr):=hide (by
      have:=HS.out
      rw [List.take_length,HPn.out] at this
      exact this)
     go_wp2_with fail
     go_roundw
     case rel=>exact⟨K+1,by omega,by go_num,HE⟩
     case measure=>simp [intOf];omega
  ·obtain rfl:K=bl.length:=by omega
   have HE:Hid (RowsO w.heap.size wr (predsF (nm,ps,rt,bl,pl)) (.slice (some ⟨g1,0,none⟩) bl.length bl.length)∧Below w.heap.size w wr):=hide (by
    obtain⟨us,q1,q2,q3,q4⟩:=HS.out
    refine⟨?_,below_step B0.out q3⟩
    have:=q2.rows q1 (by omega)
    have e:pRows (nm,ps,rt,bl,pl) bl.length []=predsF (nm,ps,rt,bl,pl):=pRows_end (nm,ps,rt,bl,pl)
    rw [e] at this
    exact this.base B0.out.size)
   go_wp2_with fail
   go_ret
   exact⟨_,rfl,HE.out.1,HE.out.2⟩
theorem preds_any (f:Fun) (v:Value) (w:World) (hv:FunV w f v) (hF:Ful f) (hT:Tos f):
  Calls Tryz.prog 66 #[v] w fun e w'=>∃u,e= .returned u∧RowsO w.heap.size w' (predsF f) u∧Below w.heap.size w w':=by
 obtain⟨nm,ps,rt,bl,pl⟩:=f
 have hv2:=hv
 obtain⟨vp,vb,rfl,⟨ao,c,rfl,h1,_⟩,h2⟩:=hv
 obtain⟨bo,cb,rfl,_⟩:=h2
 exact preds_try nm ps rt pl bl ao bo c cb w hv2 hF hT
theorem succs_read {B:Nat} {f:Fun} {w:World} {v:Value} (h:RowsO B w (succsF f) v):∃ao c,v= .slice ao f.2.2.2.1.length c∧RowsR w ao (succsF f):=by
 obtain⟨ao,c,e,h1,_⟩:=h.read
 exact⟨ao,c,by rw [e,succsF_len],h1⟩
theorem orderP_try (nm:List UInt8) (ps:List Int) (rt pl:Int) (bl:List (List Ins)) (ao bo:Option Addr) (c cb:Nat) (w:World)
  (hv:FunV w (nm,ps,rt,bl,pl) (.agg #[.string (bs nm),.slice ao ps.length c,.int .i64 rt,.slice bo bl.length cb,.int .i64 pl])) (hF:Ful (nm,ps,rt,bl,pl)) (hT:Tos (nm,ps,rt,bl,pl)) (h0:0 < bl.length):
  Calls Tryz.prog 94 #[.agg #[.string (bs nm),.slice ao ps.length c,.int .i64 rt,.slice bo bl.length cb,.int .i64 pl]] w fun e w'=>∃u,e= .returned u∧w'.ownsRow w.heap.size 3 1 u (orderF (nm,ps,rt,bl,pl)).length (ints (orderF (nm,ps,rt,bl,pl)))∧Below w.heap.size w w':=by
 have b0:=below_box w (.cells #[.string (bs nm),.slice ao ps.length c,.int .i64 rt,.slice bo bl.length cb,.int .i64 pl] 36)
 have X0:=hide (L5.Box.new w [.string (bs nm),.slice ao ps.length c,.int .i64 rt,.slice bo bl.length cb,.int .i64 pl] 36)
 have HC:=hide (succs_any (nm,ps,rt,bl,pl) _ _ (hv.below b0) hF hT)
 have HO:=hide (fun no nc w hr=>order_any (nm,ps,rt,bl,pl) no nc w hr hF hT h0)
 have B0:=hide b0
 clear b0 hv hF hT h0
 go_enter Tryz.func94,Tryz.ntmps94
 go_upto_region 1 with fail
 show Code.wp _ _ _ _ (w.alloc (.cells #[.string (bs nm),.slice ao ps.length c,.int .i64 rt,.slice bo bl.length cb,.int .i64 pl] 36))
 replace X0:Hid (L5.Box (w.alloc (.cells #[.string (bs nm),.slice ao ps.length c,.int .i64 rt,.slice bo bl.length cb,.int .i64 pl] 36)) w.heap.size [.string (bs nm),.slice ao ps.length c,.int .i64 rt,.slice bo bl.length cb,.int .i64 pl]):=X0
 generalize w.alloc (.cells #[.string (bs nm),.slice ao ps.length c,.int .i64 rt,.slice bo bl.length cb,.int .i64 pl] 36)=W at *
 obtain⟨x0,x1,x2,x3,x4⟩:_∧_∧_∧_∧_:=⟨X0.out.2 0 _ rfl,X0.out.2 1 _ rfl,X0.out.2 2 _ rfl,X0.out.2 3 _ rfl,X0.out.2 4 _ rfl⟩
 go_wp2_with fail
 refine HC.out.mono ?_;rintro e w1 ⟨v,rfl,hr,b1⟩
 obtain⟨no,nc,rfl,hrr⟩:=succs_read hr
 have HO1:=hide (HO.out no nc w1 hrr)
 have B1:=hide b1
 clear x0 x1 x2 x3 x4 hr hrr b1 HC HO
 go_wp2_with fail
 refine HO1.out.mono ?_;rintro e w2 ⟨u,rfl,hu,b2⟩
 have HE:=hide (And.intro (own_base hu (Nat.le_trans B0.out.size B1.out.size)) (below_step B0.out (below_step B1.out b2)))
 clear hu b2 HO1
 go_wp2_with fail
 go_ret
 exact⟨_,rfl,HE.out.1,HE.out.2⟩
theorem orderP_any (f:Fun) (v:Value) (w:World) (hv:FunV w f v) (hF:Ful f) (hT:Tos f) (h0:0 < f.2.2.2.1.length):
  Calls Tryz.prog 94 #[v] w fun e w'=>∃u,e= .returned u∧w'.ownsRow w.heap.size 3 1 u (orderF f).length (ints (orderF f))∧Below w.heap.size w w':=by
 obtain⟨nm,ps,rt,bl,pl⟩:=f
 have hv2:=hv
 obtain⟨vp,vb,rfl,⟨ao,c,rfl,h1,_⟩,h2⟩:=hv
 obtain⟨bo,cb,rfl,_⟩:=h2
 exact orderP_try nm ps rt pl bl ao bo c cb w hv2 hF hT h0
def fillTo (n I:Nat):List Int:=List.replicate I (-1) ++ List.replicate (n - I) 0
theorem fillTo_len {n I:Nat} (h:I≤n):(fillTo n I).length=n:=by simp [fillTo];omega
theorem fillTo_set {n I:Nat} (h:I < n):(fillTo n I).set I (-1)=fillTo n (I+1):=by
 unfold fillTo
 obtain⟨M,hM⟩:∃M,n - I=M+1:=⟨n - I - 1,by omega⟩
 rw [List.set_append_right _ _ (by simp),List.length_replicate,Nat.sub_self,hM,List.replicate_succ,List.set_cons_zero,Nat.sub_add_eq,hM,Nat.add_sub_cancel,List.replicate_succ',List.append_assoc];rfl
theorem fillTo_end (n:Nat):fillTo n n=placesTo n []:=by rw [placesTo_nil];simp [fillTo]
theorem order_num {f:Fun} (hT:Tos f) (h0:0 < f.2.2.2.1.length):(orderF f).Nodup∧Num f.2.2.2.1.length (orderF f):=by
 obtain⟨h1,h2⟩:=post0_num hT h0
 exact⟨List.pairwise_reverse.2 (h1.imp fun h e=>h e.symm),fun m hm=>h2 m (List.mem_reverse.1 hm)⟩
theorem places_try (f:Fun) (no:Option Addr) (nc:Nat) (w:World) (hr:RowsR w no (succsF f)) (hF:Ful f) (hT:Tos f) (h0:0 < f.2.2.2.1.length):
  Calls Tryz.prog 127 #[.slice no f.2.2.2.1.length nc] w fun e w'=>∃g,e= .returned (.slice (some ⟨g,0,none⟩) f.2.2.2.1.length f.2.2.2.1.length)∧RowAt w' w.heap.size 3 g f.2.2.2.1.length (ints (placesF f))∧Below w.heap.size w w':=by
 obtain⟨i3,hi3,hz3,hz4,hz5⟩:=info_parts Tryz.info3
 have HR:=hide hr
 have HO:=hide (fun w hr=>order_any f no nc w hr hF hT h0)
 have hbl:f.2.2.2.1.length≤1000000:=hF.1
 have hol:=orderF_len hT h0
 obtain⟨hnd,hnu⟩:=order_num hT h0
 have HNd:=hide hnd
 have HNu:=hide hnu
 have HPl:=hide (placesF_to f)
 generalize orderF f=l at *
 generalize placesF f=pf at *
 generalize f.2.2.2.1.length=N at *
 clear hr hF hT h0 hnd hnu
 go_enter Tryz.func127,Tryz.ntmps127
 go_upto_region 2 with (at_make;refine wpList_make_full _ rfl _ _ 33 rfl w.heap.size 3 i3 _ 1 Tryz.underlying33 hi3 hz3 hz4 .i64 .i64 N N N rfl rfl rfl rfl (by rw [hz5];omega) (by unfold maxLen;omega) (Nat.le_refl _) ?_;intro w1 own1 grow1;refine Hid.out ?_)
 rw [made_ints] at own1
 have R1:Hid (RowAt w1 w.heap.size 3 w.heap.size N (ints (fillTo N 0))):=hide (by
  have e:fillTo N 0=List.replicate N 0:=by simp [fillTo]
  rw [e];exact own1)
 have B1:=hide (grown_b grow1)
 clear own1 grow1
 generalize hg:w.heap.size=g at *
 refine hide ?_
 go_wp2_with fail
 go_loopw [12] (fun i wr=>∃I:Nat,I≤N∧i= .int .i64 I∧Hid (RowAt wr g 3 g N (ints (fillTo N I)))∧Hid (Below g w wr)) (fun i _=>N - (intOf i).toNat)
 case atStart=>exact⟨0,Nat.zero_le _,rfl,R1,B1⟩
 case round=>
  clear R1 B1
  obtain⟨I,hI,rfl,HA,HW⟩:=hrel
  by_cases hit:I < N
  ·have hiI:(I:Int) < N:=by omega
   obtain⟨x,hx⟩:∃x,(fillTo N I)[I]? =some x:=⟨_,List.getElem?_eq_getElem (by rw [fillTo_len hI];exact hit)⟩
   have c1:=HA.out.cell (ints_at hx)
   have z1:=HA.out.frozen I
   have HE:Hid (RowAt (wr.setCell ⟨g,I,none⟩ (.int .i64 (-1))) g 3 g N (ints (fillTo N (I+1)))):=hide (by rw [←fillTo_set hit,←ints_set];exact HA.out.set I _)
   have HE2:Hid (Below g w (wr.setCell ⟨g,I,none⟩ (.int .i64 (-1)))):=hide (HW.out.setCell (p:=⟨g,I,none⟩) (Nat.le_refl _) _)
   clear hx
   go_wp2_with fail
   go_roundw
   case rel=>exact⟨I+1,by omega,by go_num,HE,HE2⟩
   case measure=>simp [intOf];omega
  ·obtain rfl:I=N:=by omega
   have HA0:Hid (RowAt wr g 3 g I (ints (placesTo I (l.take 0)))):=hide (by have:=HA.out;rw [fillTo_end] at this;exact this)
   have HRr:Hid (RowsR wr no (succsF f)):=hide (HR.out.below (by rw [hg];exact HW.out))
   have HO1:=hide (HO.out wr HRr.out)
   have hgl:g < wr.heap.size:=HA.out.lt.2
   clear HA
   go_wp2_with fail
   refine HO1.out.mono ?_;rintro e w2 ⟨u,rfl,hu,b2⟩
   have HA2:=hide (HA0.out.below b2)
   have HW2:Hid (Below g w w2):=hide (HW.out.trans (b2.mono (by omega)))
   have HU:=hide hu
   obtain⟨uo,uc,rfl⟩:=own_len hu
   clear hu b2 HO1 HA0 HRr HW
   go_wp2_with fail
   generalize wr.heap.size=B at *
   go_loopw [22] (fun i wr=>∃J:Nat,J≤l.length∧i= .int .i64 J∧Hid (RowAt wr g 3 g I (ints (placesTo I (l.take J))))∧Hid (Below g w wr)∧Hid (wr.ownsRow B 3 1 (.slice uo l.length uc) l.length (ints l))) (fun i _=>l.length - (intOf i).toNat)
   case atStart=>exact⟨0,Nat.zero_le _,rfl,HA2,HW2,HU⟩
   case round=>
    clear HA2 HW2 HU
    obtain⟨J,hJ,rfl,HA,HW,HU⟩:=hrel
    by_cases hjt:J < l.length
    ·have hjI:(J:Int) < l.length:=by omega
     obtain⟨m,hm⟩:∃m,l[J]? =some m:=⟨_,List.getElem?_eq_getElem hjt⟩
     obtain⟨hm0,hm1⟩:=HNu.out m (List.mem_of_getElem? hm)
     obtain⟨M,rfl⟩:∃M:Nat,m=(M:Int):=⟨m.toNat,by omega⟩
     have hMI:M < I:=by omega
     have hfr:=take_fresh HNd.out hm
     obtain⟨gl,rfl,c9,_⟩:=own_cell HU.out hm
     obtain⟨x,hx⟩:∃x,(placesTo I (l.take J))[M]? =some x:=⟨_,List.getElem?_eq_getElem (by rw [placesTo_len];exact hMI)⟩
     have c1:=HA.out.cell (ints_at hx)
     have z1:=HA.out.frozen M
     have hlj:(l.take J).length=J:=by rw [List.length_take];omega
     have HE:Hid (RowAt (wr.setCell ⟨g,M,none⟩ (.int .i64 J)) g 3 g I (ints (placesTo I (l.take (J+1))))):=hide (by
      have e:=placesTo_snoc (n:=I) hfr
      rw [take_more hm,e,hlj,←ints_set]
      exact HA.out.set M _)
     have HE2:Hid (Below g w (wr.setCell ⟨g,M,none⟩ (.int .i64 J))):=hide (HW.out.setCell (p:=⟨g,M,none⟩) (Nat.le_refl _) _)
     have HE3:Hid ((wr.setCell ⟨g,M,none⟩ (.int .i64 J)).ownsRow B 3 1 (.slice (some ⟨gl,0,none⟩) l.length uc) l.length (ints l)):=hide (ownsRow_setCell_below HU.out (a:=⟨g,M,none⟩) hgl _)
     clear hx hm hfr hlj
     go_wp2_with fail
     go_roundw
     case rel=>exact⟨J+1,by omega,by go_num,HE,HE2,HE3⟩
     case measure=>simp [intOf];omega
    ·obtain rfl:J=l.length:=by omega
     have HE:Hid (RowAt wr w.heap.size 3 g I (ints pf)∧Below w.heap.size w wr):=hide (by
      refine⟨?_,by rw [hg];exact HW.out⟩
      have:=HA.out
      rw [List.take_length,←HPl.out] at this
      rw [hg];exact this)
     go_wp2_with fail
     go_ret
     exact⟨g,rfl,HE.out.1,HE.out.2⟩
def atF (f:Fun) (k:Int):Int:=placeL (orderF f) k
def pairsC (l:List (Int × Int)):List Value:=l.flatMap fun p=> [.int .i64 p.1,.int .i64 p.2]
def PairsO (w:World) (l:List (Int × Int)) (v:Value) (wr:World):Prop:=wr.ownsRow w.heap.size 89 2 v l.length (pairsC l)∧Below w.heap.size w wr
theorem PairsO.start (w:World):PairsO w [] (.slice none 0 0) w:=⟨World.ownsRow_nil _ _ _ _,Below.refl _ _⟩
theorem PairsO.step {w wr w2:World} {l:List (Int × Int)} {v v':Value} {x y:Int} {o:Obj} (h:PairsO w l v wr) (own:w2.ownsRow w.heap.size 89 2 v' (l.length+1) (pairsC l ++ [.int .i64 x,.int .i64 y])) (hg:(wr.alloc o).grownBy w2 v.ownBlock):PairsO w (l ++ [(x,y)]) v' w2:=by
 refine⟨by simpa [pairsC] using own,?_⟩
 refine Below.grown (h.2.alloc h.2.size o) hg (by simp;have:=h.2.size;omega) ?_
 intro k hk
 exact(h.1.lt k hk).1
theorem PairsO.below {w wr w2:World} {l:List (Int × Int)} {v:Value} (h:PairsO w l v wr) (b:Below wr.heap.size wr w2):PairsO w l v w2:=⟨own_below b _ _ _ _ _ _ h.1,below_step h.2 b⟩
theorem placesF_at {f:Fun} {k:Nat} (h:k < f.2.2.2.1.length):(placesF f)[k]? =some (atF f k):=by
 unfold placesF;rw [List.getElem?_map,List.getElem?_range h];rfl
theorem placesP_try (nm:List UInt8) (ps:List Int) (rt pl:Int) (bl:List (List Ins)) (ao bo:Option Addr) (c cb:Nat) (w:World)
  (hv:FunV w (nm,ps,rt,bl,pl) (.agg #[.string (bs nm),.slice ao ps.length c,.int .i64 rt,.slice bo bl.length cb,.int .i64 pl])) (hF:Ful (nm,ps,rt,bl,pl)) (hT:Tos (nm,ps,rt,bl,pl)) (h0:0 < bl.length):
  Calls Tryz.prog 97 #[.agg #[.string (bs nm),.slice ao ps.length c,.int .i64 rt,.slice bo bl.length cb,.int .i64 pl]] w fun e w'=>∃g,e= .returned (.slice (some ⟨g,0,none⟩) bl.length bl.length)∧RowAt w' w.heap.size 3 g bl.length (ints (placesF (nm,ps,rt,bl,pl)))∧Below w.heap.size w w':=by
 have b0:=below_box w (.cells #[.string (bs nm),.slice ao ps.length c,.int .i64 rt,.slice bo bl.length cb,.int .i64 pl] 36)
 have X0:=hide (L5.Box.new w [.string (bs nm),.slice ao ps.length c,.int .i64 rt,.slice bo bl.length cb,.int .i64 pl] 36)
 have HC:=hide (succs_any (nm,ps,rt,bl,pl) _ _ (hv.below b0) hF hT)
 have HO:=hide (fun no nc w hr=>places_try (nm,ps,rt,bl,pl) no nc w hr hF hT h0)
 have B0:=hide b0
 clear b0 hv hF hT h0
 go_enter Tryz.func97,Tryz.ntmps97
 go_upto_region 1 with fail
 show Code.wp _ _ _ _ (w.alloc (.cells #[.string (bs nm),.slice ao ps.length c,.int .i64 rt,.slice bo bl.length cb,.int .i64 pl] 36))
 replace X0:Hid (L5.Box (w.alloc (.cells #[.string (bs nm),.slice ao ps.length c,.int .i64 rt,.slice bo bl.length cb,.int .i64 pl] 36)) w.heap.size [.string (bs nm),.slice ao ps.length c,.int .i64 rt,.slice bo bl.length cb,.int .i64 pl]):=X0
 generalize w.alloc (.cells #[.string (bs nm),.slice ao ps.length c,.int .i64 rt,.slice bo bl.length cb,.int .i64 pl] 36)=W at *
 obtain⟨x0,x1,x2,x3,x4⟩:_∧_∧_∧_∧_:=⟨X0.out.2 0 _ rfl,X0.out.2 1 _ rfl,X0.out.2 2 _ rfl,X0.out.2 3 _ rfl,X0.out.2 4 _ rfl⟩
 go_wp2_with fail
 refine HC.out.mono ?_;rintro e w1 ⟨v,rfl,hr,b1⟩
 obtain⟨no,nc,rfl,hrr⟩:=succs_read hr
 have HO1:=hide (HO.out no nc w1 hrr)
 have B1:=hide b1
 clear x0 x1 x2 x3 x4 hr hrr b1 HC HO
 go_wp2_with fail
 refine HO1.out.mono ?_;rintro e w2 ⟨g,rfl,hu,b2⟩
 have HE:=hide (And.intro (hu.base (Nat.le_trans B0.out.size B1.out.size)) (below_step B0.out (below_step B1.out b2)))
 clear hu b2 HO1
 go_wp2_with fail
 go_ret
 exact⟨g,rfl,HE.out.1,HE.out.2⟩
theorem placesP_any (f:Fun) (v:Value) (w:World) (hv:FunV w f v) (hF:Ful f) (hT:Tos f) (h0:0 < f.2.2.2.1.length):
  Calls Tryz.prog 97 #[v] w fun e w'=>∃g,e= .returned (.slice (some ⟨g,0,none⟩) f.2.2.2.1.length f.2.2.2.1.length)∧RowAt w' w.heap.size 3 g f.2.2.2.1.length (ints (placesF f))∧Below w.heap.size w w':=by
 obtain⟨nm,ps,rt,bl,pl⟩:=f
 have hv2:=hv
 obtain⟨vp,vb,rfl,⟨ao,c,rfl,h1,_⟩,h2⟩:=hv
 obtain⟨bo,cb,rfl,_⟩:=h2
 exact placesP_try nm ps rt pl bl ao bo c cb w hv2 hF hT h0
end Go.Proofs.YtljkgcfnoegibaaGreatDoor
