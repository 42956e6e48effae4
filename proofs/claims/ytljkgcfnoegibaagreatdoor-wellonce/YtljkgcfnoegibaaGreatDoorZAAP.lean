/- Texts of one chain, joined. -/
import Derived.Test.YtljkgcfnoegibaaGreatDoorZAAN
import Derived.Test.YtljkgcfnoegibaaGreatDoorZAAO
import Derived.ChangeAlike
set_option maxHeartbeats 4000000
set_option maxRecDepth 20000
namespace Go.Proofs.YtljkgcfnoegibaaGreatDoor
open Go Go.RowKit
open G (Tok Er Ins Fun)
theorem zz (b:List Ins) (x:Ins) (aok:Option Addr) (capk:Nat) (W w:World) (hb:j7 W b (.slice aok b.length capk)) (bel:Below W.heap.size W w) (hx:b[b.length - 1]? =some x):
  Calls Tryz.prog 122 #[.slice aok b.length capk] w fun e w'=>(∃v,e= .returned v∧bX W x.2.2.2.2.2.1 v)∧w'=w:=by
 obtain⟨_,_,e',m1,m2,kk⟩:=hb;injection e' with e1 e2 e4;subst e1 e4;have hjt:b.length - 1 < b.length:=(List.getElem?_eq_some_iff.1 hx).1;rcases kk with kk | ⟨gi,oi,rfl,kk⟩
 ·subst kk;simp at hjt
 obtain⟨ai,ti,ca,ct,hv,r0,r1,r2,r3,r4,r5,r6,r7⟩:=(kk (b.length - 1) _ hx).val;have hgi:gi < W.heap.size:=(kk (b.length - 1) _ hx).1;replace r5:=(bel.cell (p:=⟨gi,oi+(b.length - 1) * 8+5,none⟩) hgi).trans r5;have HV:Hid (bX W x.2.2.2.2.2.1 (.slice ti x.2.2.2.2.2.1.length ct)):=ae (by
  obtain⟨a1,t1,c1,c2,e,s1,s2,s3,s4,s5,s6⟩:=hv;injection e with e;have e2:=congrArg (fun a=>a[5]?) e;simp at e2;rw [e2.1,e2.2];exact⟨t1,c2,rfl,s2,s5,s6⟩)
 obtain⟨J,hJ⟩:∃J,J=b.length - 1:=⟨_,rfl⟩;rw [←hJ] at r5;have hJI:(b.length:Int) - 1=(J:Int):=by omega
 have hJl:(J:Int) < b.length:=by omega
 unfold maxLen at m2;have hb0:((b.length:Int) == 0)=false:=beq_eq_false_iff_ne.2 (by omega);clear hv kk hx r0 r1 r2 r3 r4 r6 r7 hJ e2 bel;go_enter Tryz.func122,Tryz.ntmps122
 go_wp2_with fail
 go_ret;exact⟨⟨_,rfl,HV.out⟩,rfl⟩
theorem sQ (l:List Int) (n:Int):az (dI l) n=az l n:=by
 have key:∀(l acc:List Int),az (l.foldl jZ acc) n=(az acc n || az l n):=by
  intro l;induction l with
  |nil=>intro acc;simp [az]
  |cons m l ih=>
   intro acc;rw [List.foldl_cons,ih];have e:az (m :: l) n=(decide (m=n) || az l n):=rfl
   cases h:az acc m with
   |true=>
    rw [kF h,e];by_cases hm:m=n
    ·subst hm;rw [h];simp
    ·simp [hm]
   |false=>rw [nj h,en,e,Bool.or_assoc]
 simpa [dI,az] using key l []
def eW (f:Fun) (K:Nat) (acc:List Int):List (List Int):=(aD f).take K ++ acc :: List.replicate (f.2.2.2.1.length - K - 1) []
def iQ (f:Fun) (K:Nat):List (List Int):=(aD f).take K ++ List.replicate (f.2.2.2.1.length - K) []
theorem bI (f:Fun):(aD f).length=f.2.2.2.1.length:=by simp [aD]
theorem ia {f:Fun} {K:Nat} (h:K < f.2.2.2.1.length):(aD f)[K]? =some (aW f K):=by
 have hb:f.2.2.2.1[K]? =some f.2.2.2.1[K]:=List.getElem?_eq_getElem h;rw [ju hb];show(f.2.2.2.1.map _)[K]? =_;rw [List.getElem?_map,hb];rfl
theorem BI {f:Fun} {K:Nat} (h:K < f.2.2.2.1.length):iQ f K=eW f K []:=by
 unfold iQ eW;obtain⟨M,hM⟩:∃M,f.2.2.2.1.length - K=M+1:=⟨f.2.2.2.1.length - K - 1,by omega⟩;rw [hM,Nat.add_sub_cancel,List.replicate_succ]
theorem Cd {f:Fun} {K:Nat} (h:K < f.2.2.2.1.length):eW f K (aW f K)=iQ f (K+1):=by
 unfold iQ eW;rw [cV (ia h),List.append_assoc,Nat.sub_add_eq];rfl
theorem ym (f:Fun):iQ f f.2.2.2.1.length=aD f:=by
 unfold iQ;rw [Nat.sub_self,List.replicate_zero,List.append_nil,List.take_of_length_le (by rw [bI];exact Nat.le_refl _)]
theorem take_len {f:Fun} {K:Nat} (h:K < f.2.2.2.1.length):((aD f).take K).length=K:=by rw [List.length_take,bI];omega
theorem zD {f:Fun} {K:Nat} (acc:List Int) (h:K < f.2.2.2.1.length):(eW f K acc).length=f.2.2.2.1.length:=by
 unfold eW;rw [List.length_append,take_len h,List.length_cons,List.length_replicate];omega
theorem sV {f:Fun} {K:Nat} (acc:List Int) (h:K < f.2.2.2.1.length):(eW f K acc)[K]? =some acc:=by
 unfold eW;rw [List.getElem?_append_right (by rw [take_len h];exact Nat.le_refl _),take_len h,Nat.sub_self];rfl
theorem yO {f:Fun} {K:Nat} (acc acc':List Int) (h:K < f.2.2.2.1.length):(eW f K acc).set K acc'=eW f K acc':=by
 unfold eW;rw [List.set_append_right _ _ (by rw [take_len h];exact Nat.le_refl _),take_len h,Nat.sub_self];rfl
def ru (n K:Nat) (acc fr:List Int):Prop:=fr.length=n∧∀m:Nat,m < n→∃c:Int,fr[m]? =some c∧c≤(K:Int)+1∧(c=(K:Int)+1↔az acc m=true)
theorem ru.start (n:Nat):ru n 0 [] (List.replicate n 0):=by
 refine⟨by simp,fun m hm=>⟨0,by rw [List.getElem?_replicate,if_pos hm],by omega,?_⟩⟩;simp [az]
theorem ru.next {n K:Nat} {acc fr:List Int} (h:ru n K acc fr):ru n (K+1) [] fr:=by
 refine⟨h.1,fun m hm=> ?_⟩;obtain⟨c,h1,h2,_⟩:=h.2 m hm;refine⟨c,h1,by omega,?_⟩;simp [az];omega
theorem ru.put {n K:Nat} {acc fr:List Int} (h:ru n K acc fr) {M:Nat} (hM:M < n):ru n K (acc ++ [(M:Int)]) (fr.set M ((K:Int)+1)):=by
 refine⟨by simp [h.1],fun m hm=> ?_⟩;by_cases e:M=m
 ·subst e;refine⟨(K:Int)+1,by rw [List.getElem?_set,if_pos rfl,if_pos (by have:=h.1;omega)],Int.le_refl _,?_⟩;rw [en];simp
 ·obtain⟨c,h1,h2,h3⟩:=h.2 m hm;refine⟨c,by rw [List.getElem?_set_ne e];exact h1,h2,?_⟩;have:¬(M:Int)=(m:Int):=by omega
  rw [en,h3];simp [this]
def zM (B g1 g2:Nat) (W0:World) (n K:Nat) (acc:List Int) (ll:List (List Int)) (wr:World):Prop:=∃us fr,aS wr W0.heap.size 33 g1 n us∧fA B wr ll us∧aS wr W0.heap.size 3 g2 n (ints fr)∧ru n K acc fr∧Below W0.heap.size W0 wr∧B≤wr.heap.size
theorem Bc (nm:List UInt8) (ps:List Int) (rt pl:Int) (bl:List (List Ins)) (ao bo:Option Addr) (c cb:Nat) (w:World)
  (hv:cg w (nm,ps,rt,bl,pl) (.agg #[.string (bs nm),.slice ao ps.length c,.int .i64 rt,.slice bo bl.length cb,.int .i64 pl])) (hF:Ful (nm,ps,rt,bl,pl)) (hT:Tos (nm,ps,rt,bl,pl)):
  Calls Tryz.prog 95 #[.agg #[.string (bs nm),.slice ao ps.length c,.int .i64 rt,.slice bo bl.length cb,.int .i64 pl]] w fun e w'=>∃v,e= .returned v∧cF w.heap.size w' (aD (nm,ps,rt,bl,pl)) v∧Below w.heap.size w w':=by
 obtain⟨i0,hi0,hz0,hz1,hz2⟩:=info_parts Tryz.uD;obtain⟨i3,hi3,hz3,hz4,hz5⟩:=info_parts Tryz.cr;have b0:=ah w (.cells #[.string (bs nm),.slice ao ps.length c,.int .i64 rt,.slice bo bl.length cb,.int .i64 pl] 36);have X0:=ae (L5.Box.new w [.string (bs nm),.slice ao ps.length c,.int .i64 rt,.slice bo bl.length cb,.int .i64 pl] 36);have HV:=ae (hv.below b0);have B0:=ae b0;have HFu:=ae hF;have HTo:=ae hT;have hbl:bl.length≤1000000:=hF.1;clear b0 hv hF hT;go_enter Tryz.func95,Tryz.ntmps95
 go_upto_region 1 with fail
 show Code.wp _ _ _ _ (w.alloc (.cells #[.string (bs nm),.slice ao ps.length c,.int .i64 rt,.slice bo bl.length cb,.int .i64 pl] 36));replace X0:Hid (L5.Box (w.alloc (.cells #[.string (bs nm),.slice ao ps.length c,.int .i64 rt,.slice bo bl.length cb,.int .i64 pl] 36)) w.heap.size [.string (bs nm),.slice ao ps.length c,.int .i64 rt,.slice bo bl.length cb,.int .i64 pl]):=X0;generalize w.alloc (.cells #[.string (bs nm),.slice ao ps.length c,.int .i64 rt,.slice bo bl.length cb,.int .i64 pl] 36)=W at *;have HB:Hid (dy W bl (.slice bo bl.length cb)):=ae (by
  obtain⟨vp,vb,e,_,hB⟩:=HV.out;injection e with e;have e3:=congrArg (fun a=>a[3]?) e;simp at e3;rw [e3];exact hB)
 have x3:=X0.out.2 3 _ rfl;go_upto_region 2 with (at_make;refine wpList_make_full _ rfl _ _ 105 rfl W.heap.size 33 i0 _ 1 Tryz.underlying105 hi0 hz0 hz1 .i64 .i64 bl.length bl.length bl.length rfl rfl rfl rfl (by rw [hz2];omega) (by unfold maxLen;omega) (Nat.le_refl _) ?_;intro w1 own1 grow1;refine Hid.out ?_)
 rw [sB] at own1;have R1:Hid (aS w1 W.heap.size 33 W.heap.size bl.length (List.replicate bl.length (.slice none 0 0))):=ae own1;have B1:=ae (gq grow1);clear own1 grow1 x3;have x3:=(X0.out.below B1.out).2 3 _ rfl;have hs1:=B1.out.size;refine ae ?_;go_upto_region 3 with (at_make;refine wpList_make_full _ rfl _ _ 33 rfl W.heap.size 3 i3 _ 1 Tryz.underlying33 hi3 hz3 hz4 .i64 .i64 bl.length bl.length bl.length rfl rfl rfl rfl (by rw [hz5];omega) (by unfold maxLen;omega) hs1 ?_;intro w2 own2 grow2;refine Hid.out ?_)
 rw [fW] at own2;have R2:Hid (aS w2 W.heap.size 3 w1.heap.size bl.length (ints (List.replicate bl.length 0))):=ae own2;have B2:=ae (gq grow2);have R12:=ae (R1.out.below B2.out);have B12:=ae (af B1.out B2.out);have hg1:W.heap.size < w1.heap.size:=R1.out.lt.2;have hg2:w1.heap.size < w2.heap.size:=R2.out.lt.2;clear own2 grow2 x3 hs1;have x3:=(X0.out.below B12.out).2 3 _ rfl;have HSt:Hid (zM w2.heap.size W.heap.size w1.heap.size W bl.length 0 [] (iQ (nm,ps,rt,bl,pl) 0) w2):=ae ⟨_,_,R12.out,by
  have:=fA.start w2.heap.size w2 bl.length;exact this,R2.out,ru.start _,B12.out,Nat.le_refl _⟩
 clear R1 R2 B1 B2 R12 B12;generalize w2.heap.size=B at *;generalize w1.heap.size=g2 at *;generalize hg:W.heap.size=g1 at *;refine ae ?_;go_wp2_with fail
 clear x3;go_loopw [20] (fun i wr=>∃K:Nat,K≤bl.length∧i= .int .i64 K∧Hid (zM B g1 g2 W bl.length K [] (iQ (nm,ps,rt,bl,pl) K) wr)) (fun i _=>bl.length - (intOf i).toNat)
 case atStart=>exact⟨0,Nat.zero_le _,rfl,HSt⟩
 case round=>
  clear HSt;obtain⟨K,hK,rfl,HS⟩:=hrel;by_cases hkt:K < bl.length
  ·have hkI:(K:Int) < bl.length:=(by omega);obtain⟨b,hbK⟩:∃b,bl[K]? =some b:=⟨bl[K],List.getElem?_eq_getElem hkt⟩;have HWr:Hid (Below W.heap.size W wr):=ae (by obtain⟨us,fr,_,_,_,_,h,_⟩:=HS.out;exact h);obtain⟨_,_,e',l1,l2,l3⟩:=HB.out;injection e' with e1 e2 e4;subst e1 e4;rcases l3 with l3 | ⟨gc,oc,rfl,gk,h2⟩
   ·subst l3;simp at hkt
   obtain⟨vk,kd,kk⟩:=h2 K b hbK;have kk2:=kk;obtain⟨aok,capk,rfl,m1,m2,_⟩:=kk;have c1:=(HWr.out.cell (p:=⟨gc,oc+K,none⟩) gk).trans kd;obtain⟨x,hx,hlt,h63⟩:=HFu.out.last (List.mem_of_getElem? hbK);have HL:=ae (zz b x aok capk W wr kk2 HWr.out hx);have HNx:Hid (aW (nm,ps,rt,bl,pl) K=dI x.2.2.2.2.2.1):=ae (by rw [ju (f:=(nm,ps,rt,bl,pl)) hbK,hlt]);have HNu:Hid (Num bl.length x.2.2.2.2.2.1):=ae (by
    intro m hm;refine HTo.out K m ?_;rw [HNx.out,←bL,sQ,bL];exact hm)
   have HS0:Hid (zM B g1 g2 W bl.length K (dI (x.2.2.2.2.2.1.take 0)) (eW (nm,ps,rt,bl,pl) K (dI (x.2.2.2.2.2.1.take 0))) wr):=ae (by
    have:=HS.out;rw [BI hkt] at this;exact this)
   unfold maxLen at m2 l2;have HIL:Hid (∀v,bX W x.2.2.2.2.2.1 v→∃to ct,v= .slice to x.2.2.2.2.2.1.length ct∧Sl W to x.2.2.2.2.2.1):=ae (fun v ⟨to,ct,e,h,_⟩=>⟨to,ct,e,h⟩);generalize x.2.2.2.2.2.1=tt at *;clear kd kk2 h2 hbK e2 hx hlt HS;go_wp2_with fail
   refine HL.out.mono ?_;rintro e w9 ⟨⟨v,rfl,hiv⟩,hw9⟩;subst hw9;obtain⟨to,ct,rfl,hsl⟩:=HIL.out v hiv;have HSl:=ae hsl;clear hiv hsl HL HIL c1;go_wp2_with fail
   generalize w9=W9 at *;go_loopw [28] (fun i wr=>∃J:Nat,J≤tt.length∧i= .int .i64 J∧Hid (zM B g1 g2 W bl.length K (dI (tt.take J)) (eW (nm,ps,rt,bl,pl) K (dI (tt.take J))) wr)) (fun i _=>tt.length - (intOf i).toNat)
   case atStart=>exact⟨0,Nat.zero_le _,rfl,HS0⟩
   case round=>
    clear HS0;obtain⟨J,hJ,rfl,HS⟩:=hrel;by_cases hjt:J < tt.length
    ·have hjI:(J:Int) < tt.length:=(by omega);obtain⟨m,hm⟩:∃m,tt[J]? =some m:=⟨tt[J],List.getElem?_eq_getElem hjt⟩;obtain⟨hm0,hm1⟩:=HNu.out m (List.mem_of_getElem? hm);obtain⟨M,rfl⟩:∃M:Nat,m=(M:Int):=⟨m.toNat,by omega⟩;have hMl:M < bl.length:=(by omega);have HTk:=ae (pP hm);have hal:=nQ (tt.take J);rw [List.length_take] at hal;generalize dI (tt.take J)=acc at *;rcases HSl.out with e0 | ⟨tb,to2,rfl,t1,t2⟩
     ·subst e0;simp at hjt
     obtain⟨us,fr,q1,q2,q3,q4,q5,q6⟩:=HS.out;have c9:=(q5.cell (p:=⟨tb,to2+J,none⟩) t1).trans (t2 J _ hm);obtain⟨cM,f1,f2,f3⟩:=q4.2 M hMl;have c8:=q3.cell (ints_at f1);have HTh:=ae (sL M bl.length wr);have hth:iT M bl.length=true:=(by simp [iT];omega);rw [hth] at HTh;have Q1:=ae q1;have Q2:=ae q2;have Q3:=ae q3;have Q4:=ae q4;have Q5:=ae q5;clear t2 hm hth q1 q2 q3 q4 q5
     cases hh:az acc M with
     |true=>
      have hcc:(cM != (K:Int)+1)=false:=(by rw [f3.2 hh];simp);have HE:Hid (zM B g1 g2 W bl.length K (dI (tt.take (J+1))) (eW (nm,ps,rt,bl,pl) K (dI (tt.take (J+1)))) wr):=ae (by rw [HTk.out,kF hh];exact HS.out);replace hh:=ae hh;clear f1 f2 f3;go_wp2_with fail
      refine HTh.out.mono ?_;rintro e wA ⟨rfl,rfl⟩;go_wp2_with fail
      go_roundw
      case rel=>exact⟨J+1,by omega,by go_num,HE⟩
      case measure=>simp [intOf];omega
     |false=>
      have hcc:(cM != (K:Int)+1)=true:=by
       have:¬cM=(K:Int)+1:=fun e=>by rw [f3.1 e] at hh;cases hh
       simpa using this
      have z8:=Q3.out.frozen M;have HA:=ae (HTk.out.trans (nj hh));obtain⟨l,u,y1,y2,y3⟩:=Q2.out.at (i:=K) (by rw [zD _ hkt];exact hkt);rw [sV _ hkt] at y1;injection y1 with y1;subst y1;have Q2s:Hid (fA B (wr.setCell ⟨g2,M,none⟩ (.int .i64 ((K:Int)+1))) (eW (nm,ps,rt,bl,pl) K acc) us):=ae (Q2.out.put (p:=⟨g2,M,none⟩) hg2 _);have Q1s:Hid (aS (wr.setCell ⟨g2,M,none⟩ (.int .i64 ((K:Int)+1))) W.heap.size 33 g1 bl.length us):=ae (Q1.out.other (p:=⟨g2,M,none⟩) (by show g1≠g2;omega) _);have Q3s:Hid (aS (wr.setCell ⟨g2,M,none⟩ (.int .i64 ((K:Int)+1))) W.heap.size 3 g2 bl.length (ints (fr.set M ((K:Int)+1)))):=ae (by rw [←ints_set];exact Q3.out.set M _);have Q4s:=ae (Q4.out.put hMl);have Q5s:Hid (Below W.heap.size W (wr.setCell ⟨g2,M,none⟩ (.int .i64 ((K:Int)+1)))):=ae (Q5.out.setCell (p:=⟨g2,M,none⟩) (by show W.heap.size≤g2;omega) _);have Y3:Hid ((wr.setCell ⟨g2,M,none⟩ (.int .i64 ((K:Int)+1))).ownsRow B 3 1 u acc.length (ints acc)):=ae (ownsRow_setCell_below y3 (a:=⟨g2,M,none⟩) hg2 _);have hsz:(wr.setCell ⟨g2,M,none⟩ (.int .i64 ((K:Int)+1))).heap.size=wr.heap.size:=(by simp);have q6s:B≤(wr.setCell ⟨g2,M,none⟩ (.int .i64 ((K:Int)+1))).heap.size:=(by rw [hsz];exact q6);have Y2:=ae y2;replace hh:=ae hh;clear f1 f2 f3 y2 y3 hsz;go_upto_region 11 with (go_at_call 123;refine HTh.out.mono ?_;rintro e wA ⟨rfl,rfl⟩)
      show Code.wp _ _ _ _ (wA.setCell ⟨g2,M,none⟩ (.int .i64 ((K:Int)+1)));generalize wA.setCell ⟨g2,M,none⟩ (.int .i64 ((K:Int)+1))=wS at *;have k1:=Q1s.out.cell Y2.out;obtain⟨uo,uc,rfl⟩:=aL Y3.out;go_wp2_with (at_builtin;refine wpList_append_own_at _ rfl (.tmp 55) (.tmp 57) 33 rfl B 3 i3 _ 1 8 Tryz.underlying33 hi3 hz3 hz4 hz5 rfl (by decide) _ _ _ rfl (Y3.out.alloc _) ⟨wS.heap.size,0,none⟩ 1 1 [.int .i64 M] rfl rfl aM bt (by unfold maxLen;omega) (by omega) (by simp;omega) ?_;intro v2 wB own2 grow2 _ at2;refine Hid.out ?_)
      have far:∀g,g < B→some g≠(Value.slice uo acc.length uc).ownBlock:=fun g hg e=>by have:=(Y3.out.lt g e.symm).1;omega
      have P1:Hid (aS wB W.heap.size 33 g1 bl.length us):=ae ((Q1s.out.alloc _).kept grow2 (far g1 (by omega)));have P3:Hid (aS wB W.heap.size 3 g2 bl.length (ints (fr.set M ((K:Int)+1)))):=ae ((Q3s.out.alloc _).kept grow2 (far g2 hg2));have P2:=ae (Q2s.out.step (sV _ hkt) Y2.out own2 grow2 at2);rw [yO _ _ hkt] at P2;have P5:Hid (Below W.heap.size W wB):=ae (Below.grown (Q5s.out.alloc Q5s.out.size _) grow2 (by simp;omega) (fun k hk=>by have:=(Y3.out.lt k hk).1;omega));have P6:B≤wB.heap.size:=(by have:=grow2.size;simp at this;omega);have HE:Hid (zM B g1 g2 W bl.length K (dI (tt.take (J+1))) (eW (nm,ps,rt,bl,pl) K (dI (tt.take (J+1)))) (wB.setCell ⟨g1,K,none⟩ v2)):=ae (by
       rw [HA.out];exact⟨us.set K v2,_,P1.out.set K v2,P2.out.put (p:=⟨g1,K,none⟩) (by show g1 < B;omega) _,P3.out.other (p:=⟨g1,K,none⟩) (by show g2≠g1;omega) _,Q4s.out,P5.out.setCell (p:=⟨g1,K,none⟩) (by show W.heap.size≤g1;omega) _,by simpa using P6⟩)
      obtain⟨vo,vc,rfl⟩:=aL own2;have k2:=P1.out.cell Y2.out;have k3:=P1.out.frozen K;clear own2 grow2 at2 k1 far P1 P2 P3 P5 Q1s Q2s Q3s Q5s Y2 Y3;refine ae ?_;go_wp2_with fail
      go_roundw
      case rel=>exact⟨J+1,by omega,by go_num,HE⟩
      case measure=>simp [intOf];omega
    ·obtain rfl:J=tt.length:=(by omega);have HE:Hid (zM B g1 g2 W bl.length (K+1) [] (iQ (nm,ps,rt,bl,pl) (K+1)) wr):=ae (by
      obtain⟨us,fr,q1,q2,q3,q4,q5,q6⟩:=HS.out;rw [List.take_length] at q2 q4;exact⟨us,fr,q1,by rw [←Cd hkt,HNx.out];exact q2,q3,q4.next,q5,q6⟩)
     go_wp2_with fail
     go_roundw
     case rel=>exact⟨K+1,by omega,by go_num,HE⟩
     case measure=>simp [intOf];omega
  ·obtain rfl:K=bl.length:=(by omega);obtain⟨us,fr,q1,q2,q3,q4,q5,q6⟩:=HS.out;have HE:Hid (cF w.heap.size wr (aD (nm,ps,rt,bl,pl)) (.slice (some ⟨g1,0,none⟩) bl.length bl.length)∧Below w.heap.size w wr):=ae (by
    refine⟨?_,af B0.out q5⟩;have:=q2.rows q1 (by omega);have e:iQ (nm,ps,rt,bl,pl) bl.length=aD (nm,ps,rt,bl,pl):=ym (nm,ps,rt,bl,pl);rw [e] at this;exact this.base B0.out.size)
   clear q1 q2 q3 q4 q5 HS;go_wp2_with fail
   go_ret;exact⟨_,rfl,HE.out.1,HE.out.2⟩
def Mid (B:Nat) (W w:World):Prop:=W.heap.size≤w.heap.size∧∀k,B≤k→k < W.heap.size→w.heap[k]? =W.heap[k]?
theorem Mid.refl (B:Nat) (W:World):Mid B W W:=⟨Nat.le_refl _,fun _ _ _=>rfl⟩
theorem Mid.put {B:Nat} {W w:World} (h:Mid B W w) {p:Addr} (hp:p.block < B∨W.heap.size≤p.block) (u:Value):Mid B W (w.setCell p u):=
 ⟨by simpa using h.1,fun k h1 h2=>(Below.heap_setCell w p u k (by omega)).trans (h.2 k h1 h2)⟩
theorem Mid.alloc {B:Nat} {W w:World} (h:Mid B W w) (o:Obj):Mid B W (w.alloc o):=
 ⟨by have:=h.1;simp;omega,fun k h1 h2=>(Below.heap_alloc w o k (by have:=h.1;omega)).trans (h.2 k h1 h2)⟩
theorem Mid.grown {B:Nat} {W w w':World} {row:Option Nat} (h:Mid B W w) (hg:w.grownBy w' row) (hr:∀k,row=some k→k < B∨W.heap.size≤k):Mid B W w':=
 ⟨Nat.le_trans h.1 hg.size,fun k h1 h2=>(hg.block k (by have:=h.1;omega) (fun e=>by have:=hr k e.symm;omega)).trans (h.2 k h1 h2)⟩
theorem Mid.cell {B:Nat} {W w:World} (h:Mid B W w) {p:Addr} (h1:B≤p.block) (h2:p.block < W.heap.size):w.cell? p=W.cell? p:=World.cell?_of_block (w:=W) (h.2 p.block h1 h2)
theorem Hk {B e s n:Nat} {W w:World} {v:Value} {xs:List Value} (h:W.ownsRow B e s v n xs) (m:Mid B W w):w.ownsRow B e s v n xs:=by
 refine⟨h.1,?_⟩;rcases h.2 with hn | ⟨g,cap,cur,rfl,hb,hgg,rest⟩
 ·exact .inl hn
 ·exact .inr ⟨g,cap,cur,rfl,hb,(m.2 g hb (Array.getElem?_eq_some_iff.1 hgg).1).trans hgg,rest⟩
theorem cF.row {B n c:Nat} {w:World} {ll:List (List Int)} {ao:Option Addr} (h:cF B w ll (.slice ao n c)) {K:Nat} {l:List Int} (hl:ll[K]? =some l):
  ∃g lo lc,ao=some ⟨g,0,none⟩∧w.cell? ⟨g,K,none⟩=some (.slice lo l.length lc)∧w.ownsRow B 3 1 (.slice lo l.length lc) l.length (ints l)∧B≤g∧g < w.heap.size:=by
 obtain⟨us,h1,h2,h3⟩:=h;obtain⟨u,k1,k2⟩:=h3 K l hl;obtain⟨lo,lc,rfl⟩:=aL k2;have hK:=(List.getElem?_eq_some_iff.1 hl).1;rcases dn h1 with ⟨_,hn⟩ | ⟨g,cap,e,q1,q2,q3,q4,q5,q6⟩
 ·omega
 ·injection e with e1 e2 e3;exact⟨g,lo,lc,e1,q5 K _ k1,k2,q3,q4⟩
theorem vF {B n c:Nat} {w:World} {l:List Int} {ao:Option Addr} (h:w.ownsRow B 3 1 (.slice ao n c) l.length (ints l)) {j:Nat} {m:Int} (hm:l[j]? =some m):
  ∃g,ao=some ⟨g,0,none⟩∧w.cell? ⟨g,j,none⟩=some (.int .i64 m)∧g < w.heap.size:=by
 have hj:=(List.getElem?_eq_some_iff.1 hm).1;rcases dn h with ⟨_,hn⟩ | ⟨g,cap,e,q1,q2,q3,q4,q5,q6⟩
 ·omega
 ·injection e with e1 e2 e3;exact⟨g,e1,q5 j _ (ints_at hm),q4⟩
theorem yf (l:List Int):(dI l).Nodup:=by
 have key:∀(l acc:List Int),acc.Nodup→(l.foldl jZ acc).Nodup:=by
  intro l;induction l with
  |nil=>intro acc h;exact h
  |cons m l ih=>
   intro acc h;rw [List.foldl_cons];refine ih _ ?_
   cases hh:az acc m with
   |true=>rw [kF hh];exact h
   |false=>
    rw [nj hh];refine List.nodup_append.2 ⟨h,by simp,?_⟩;rintro x hx y hy rfl;simp at hy;subst hy;rw [bL.2 hx] at hh
    cases hh
 exact key l [] List.nodup_nil
theorem il {l:List Int} (h:l.Nodup) {j:Nat} {m:Int} (hm:l[j]? =some m):az (l.take j) m=false:=by
 cases hh:az (l.take j) m with
 |false=>rfl
 |true=>
  exfalso;have h1:=bL.1 hh;obtain⟨i,hi,e⟩:=List.mem_iff_getElem.1 h1;have hij:i < j:=by rw [List.length_take] at hi;omega
  obtain⟨hj,e2⟩:=List.getElem?_eq_some_iff.1 hm;rw [List.getElem_take] at e;exact absurd ((List.getElem_inj h).1 (e.trans e2.symm)) (by omega)
def ey (f:Fun) (K:Nat) (acc:List Int):List (List Int):=(List.range f.2.2.2.1.length).map fun(b:Nat)=>bM f b K ++ (if az acc b then [(K:Int)] else [])
theorem ib (f:Fun) (K:Nat) (acc:List Int):(ey f K acc).length=f.2.2.2.1.length:=by simp [ey]
theorem iq {f:Fun} (K:Nat) (acc:List Int) {M:Nat} (hM:M < f.2.2.2.1.length):(ey f K acc)[M]? =some (bM f M K ++ (if az acc M then [(K:Int)] else [])):=by
 unfold ey;rw [List.getElem?_map,List.getElem?_range hM];rfl
theorem vH (f:Fun):ey f 0 []=List.replicate f.2.2.2.1.length []:=by
 apply List.ext_getElem?;intro j;rw [List.getElem?_replicate];by_cases hj:j < f.2.2.2.1.length
 ·rw [iq _ _ hj,if_pos hj];simp [bM,az]
 ·rw [if_neg hj,List.getElem?_eq_none (by rw [ib];omega)]
theorem BH {f:Fun} {K M:Nat} {acc:List Int} (hM:M < f.2.2.2.1.length):(ey f K acc).set M (bM f M K ++ [(K:Int)])=ey f K (acc ++ [(M:Int)]):=by
 apply List.ext_getElem?;intro j;rw [List.getElem?_set,ib];by_cases hj:j < f.2.2.2.1.length
 ·rw [iq _ _ hj,iq _ _ hj];by_cases e:M=j
  ·subst e;rw [if_pos rfl,if_pos hM,en];simp
  ·have e2:¬(M:Int)=(j:Int):=(by omega);rw [if_neg e,en];simp [e2]
 ·have n1:∀acc,(ey f K acc)[j]? =none:=fun acc=>List.getElem?_eq_none (by rw [ib];omega);rw [n1,n1];by_cases e:M=j
  ·omega
  ·rw [if_neg e]
theorem xY (f:Fun) (K:Nat):ey f K (aW f K)=ey f (K+1) []:=by
 apply List.ext_getElem?;intro j;by_cases hj:j < f.2.2.2.1.length
 ·rw [iq _ _ hj,iq _ _ hj]
  cases hh:az (aW f K) j with
  |true=>rw [px hh];simp [az]
  |false=>rw [sO hh];simp [az]
 ·rw [List.getElem?_eq_none (by rw [ib];omega),List.getElem?_eq_none (by rw [ib];omega)]
theorem Bn (f:Fun):ey f f.2.2.2.1.length []=aK f:=by
 unfold ey aK;apply List.map_congr_left;intro b _;simp [az]
def ig (l:List Int) (i:Nat):List Int:=(List.range l.length).map fun p=>if p < i∨l.length≤p+i then l.getD (l.length - 1 - p) 0 else l.getD p 0
theorem fZ (l:List Int) (i:Nat):(ig l i).length=l.length:=by simp [ig]
theorem ji {l:List Int} (i:Nat) {p:Nat} (hp:p < l.length):(ig l i)[p]? =some (if p < i∨l.length≤p+i then l.getD (l.length - 1 - p) 0 else l.getD p 0):=by
 unfold ig;rw [List.getElem?_map,List.getElem?_range hp];rfl
theorem zQ (l:List Int):ig l 0=l:=by
 apply List.ext_getElem?;intro p;by_cases hp:p < l.length
 ·rw [ji _ hp,if_neg (by omega),List.getElem?_eq_getElem hp,List.getD_eq_getElem?_getD,List.getElem?_eq_getElem hp];rfl
 ·rw [List.getElem?_eq_none (by rw [fZ];omega),List.getElem?_eq_none (by omega)]
theorem Bb {l:List Int} {i:Nat} (h:l.length≤2 * i+1):ig l i=l.reverse:=by
 apply List.ext_getElem?;intro p;by_cases hp:p < l.length
 ·rw [ji _ hp,List.getElem?_reverse hp,List.getElem?_eq_getElem (by omega:l.length - 1 - p < l.length)];congr 1
  by_cases e:p < i∨l.length≤p+i
  ·rw [if_pos e,List.getD_eq_getElem?_getD,List.getElem?_eq_getElem (by omega:l.length - 1 - p < l.length)];rfl
  ·rw [if_neg e,List.getD_eq_getElem?_getD,List.getElem?_eq_getElem hp];have e2:l.length - 1 - p=p:=(by omega);simp only [e2];rfl
 ·rw [List.getElem?_eq_none (by rw [fZ];omega),List.getElem?_eq_none (by rw [List.length_reverse];omega)]
theorem yt {l:List Int} {i j:Nat} {x y:Int} (hj:j=l.length - 1 - i) (hij:i < j) (hx:(ig l i)[i]? =some x) (hy:(ig l i)[j]? =some y):((ig l i).set i y).set j x=ig l (i+1):=by
 have hi:i < l.length:=by omega
 have hjl:j < l.length:=by omega
 rw [ji _ hi,if_neg (by omega)] at hx;rw [ji _ hjl,if_neg (by omega)] at hy;injection hx with hx;injection hy with hy;subst hx hy;apply List.ext_getElem?;intro p;rw [List.getElem?_set,List.getElem?_set,List.length_set,fZ];by_cases hp:p < l.length
 ·rw [ji _ hp,ji _ hp];by_cases e1:j=p
  ·subst e1;rw [if_pos rfl,if_pos hjl,if_pos (by omega)];have e2:l.length - 1 - j=i:=(by omega);rw [e2]
  ·rw [if_neg e1];by_cases e2:i=p
   ·subst e2;rw [if_pos rfl,if_pos hi,if_pos (by omega),hj]
   ·rw [if_neg e2];by_cases e3:p < i∨l.length≤p+i
    ·rw [if_pos e3,if_pos (by omega)]
    ·rw [if_neg e3,if_neg (by omega)]
 ·rw [if_neg (by omega),if_neg (by omega),List.getElem?_eq_none (by rw [fZ];omega),List.getElem?_eq_none (by rw [fZ];omega)]
theorem Fw {B g n c i j:Nat} {w:World} {l:List Int} {x y:Int} (h:w.ownsRow B 3 1 (.slice (some ⟨g,0,none⟩) n c) n (ints l)):((w.setCell ⟨g,i,none⟩ (.int .i64 y)).setCell ⟨g,j,none⟩ (.int .i64 x)).drew.ownsRow B 3 1 (.slice (some ⟨g,0,none⟩) n c) n (ints ((l.set i y).set j x)):=by
 rw [←ints_set,←ints_set];exact br (L5.fB _) _ _ _ _ _ _ (World.ownsRow.stored (World.ownsRow.stored h i (.int .i64 y)).1 j (.int .i64 x)).1
theorem xN (l r:List Int) (hr:l.reverse=r) (B g c:Nat) (w:World) (h:w.ownsRow B 3 1 (.slice (some ⟨g,0,none⟩) l.length c) l.length (ints l)) (hl:l.length≤1000000):
  Calls Tryz.prog 144 #[.slice (some ⟨g,0,none⟩) l.length c] w fun e w'=>e= .returned (.tuple #[])∧w'.ownsRow B 3 1 (.slice (some ⟨g,0,none⟩) l.length c) l.length (ints r)∧Below B w w':=by
 have hB:B≤g:=(h.lt g rfl).1;replace hr:=ae hr;have H0:Hid (w.ownsRow B 3 1 (.slice (some ⟨g,0,none⟩) l.length c) l.length (ints (ig l 0))):=ae (by rw [zQ];exact h);clear h;go_enter Tryz.func144,Tryz.ntmps144
 go_wp2_with fail
 go_loopw [2,3] (fun i j wr=>∃I:Nat,2 * I≤l.length∧i= .int .i64 I∧j= .int .i64 ((l.length:Int) - 1 - I)∧Hid (wr.ownsRow B 3 1 (.slice (some ⟨g,0,none⟩) l.length c) l.length (ints (ig l I)))∧Hid (Below B w wr)) (fun i j _=>(intOf j - intOf i).toNat)
 case atStart=>exact⟨0,by omega,rfl,by go_num,H0,ae (Below.refl _ _)⟩
 case round=>
  clear H0;obtain⟨I,hI,rfl,rfl,HO,HW⟩:=hrel;by_cases hlt:2 * I+1 < l.length
  ·obtain⟨J,hJ⟩:∃J,J=l.length - 1 - I:=⟨_,rfl⟩;have hJI:(l.length:Int) - 1 - I=(J:Int):=(by omega);have hIJ:(I:Int) < (J:Int):=(by omega);have hJl:(J:Int) < l.length:=(by omega);have hIl:(I:Int) < l.length:=(by omega);obtain⟨x,hx⟩:∃x,(ig l I)[I]? =some x:=⟨_,List.getElem?_eq_getElem (by rw [fZ];omega)⟩;obtain⟨y,hy⟩:∃y,(ig l I)[J]? =some y:=⟨_,List.getElem?_eq_getElem (by rw [fZ];omega)⟩;have c1:wr.cell? ⟨g,I,none⟩=some (.int .i64 x):=(by rw [World.ownsRow.cellAt HO.out I (by omega)];exact ints_at hx);have c2:wr.cell? ⟨g,J,none⟩=some (.int .i64 y):=(by rw [World.ownsRow.cellAt HO.out J (by omega)];exact ints_at hy);have f1:=World.ownsRow.frozenAt HO.out I;have f2:=World.ownsRow.frozenAt HO.out J;have HR:=ae (yt hJ (by omega) hx hy);rw [hJI];clear hx hy hJ;go_wp2_with fail
   go_region
   have HE:Hid (((wr.setCell ⟨g,I,none⟩ (.int .i64 y)).setCell ⟨g,J,none⟩ (.int .i64 x)).drew.ownsRow B 3 1 (.slice (some ⟨g,0,none⟩) l.length c) l.length (ints (ig l (I+1)))):=ae (by rw [←HR.out];exact Fw HO.out);have HE2:Hid (Below B w ((wr.setCell ⟨g,I,none⟩ (.int .i64 y)).setCell ⟨g,J,none⟩ (.int .i64 x)).drew):=ae (((HW.out.setCell (p:=⟨g,I,none⟩) hB _).setCell (p:=⟨g,J,none⟩) hB _).drew);go_wp2_with fail
   go_roundw
   case rel=>exact⟨I+1,by omega,by go_num,by rw [←hJI];go_num,HE,HE2⟩
   case measure=>simp [intOf];omega
  ·have hnl:¬(I:Int) < (l.length:Int) - 1 - I:=(by omega);have HE:Hid (wr.ownsRow B 3 1 (.slice (some ⟨g,0,none⟩) l.length c) l.length (ints r)):=ae (by rw [←hr.out,←Bb (i:=I) (by omega)];exact HO.out);go_wp2_with fail
   go_end0
   exact⟨rfl,HE.out,HW.out⟩
theorem nE (f:Fun) (v:Value) (w:World) (hv:cg w f v) (hF:Ful f) (hT:Tos f):
  Calls Tryz.prog 95 #[v] w fun e w'=>∃u,e= .returned u∧cF w.heap.size w' (aD f) u∧Below w.heap.size w w':=by
 obtain⟨nm,ps,rt,bl,pl⟩:=f;have hv2:=hv;obtain⟨vp,vb,rfl,⟨ao,c,rfl,h1,_⟩,h2⟩:=hv;obtain⟨bo,cb,rfl,_⟩:=h2;exact Bc nm ps rt pl bl ao bo c cb w hv2 hF hT
def Cz (g1:Nat) (W w2:World) (n:Nat) (ll:List (List Int)) (B1:Nat) (wr:World):Prop:=∃us,aS wr W.heap.size 33 g1 n us∧fA w2.heap.size wr ll us∧Below W.heap.size W wr∧Mid B1 w2 wr
theorem Dm (nm:List UInt8) (ps:List Int) (rt pl:Int) (bl:List (List Ins)) (ao bo:Option Addr) (c cb:Nat) (w:World)
  (hv:cg w (nm,ps,rt,bl,pl) (.agg #[.string (bs nm),.slice ao ps.length c,.int .i64 rt,.slice bo bl.length cb,.int .i64 pl])) (hF:Ful (nm,ps,rt,bl,pl)) (hT:Tos (nm,ps,rt,bl,pl)):
  Calls Tryz.prog 66 #[.agg #[.string (bs nm),.slice ao ps.length c,.int .i64 rt,.slice bo bl.length cb,.int .i64 pl]] w fun e w'=>∃v,e= .returned v∧cF w.heap.size w' (aK (nm,ps,rt,bl,pl)) v∧Below w.heap.size w w':=by
 obtain⟨i0,hi0,hz0,hz1,hz2⟩:=info_parts Tryz.uD;obtain⟨i3,hi3,hz3,hz4,hz5⟩:=info_parts Tryz.cr;have b0:=ah w (.cells #[.string (bs nm),.slice ao ps.length c,.int .i64 rt,.slice bo bl.length cb,.int .i64 pl] 36);have X0:=ae (L5.Box.new w [.string (bs nm),.slice ao ps.length c,.int .i64 rt,.slice bo bl.length cb,.int .i64 pl] 36);have HV:=ae (hv.below b0);have B0:=ae b0;have HFu:=ae hF;have HTo:=ae hT;have hbl:bl.length≤1000000:=hF.1;clear b0 hv hF hT;go_enter Tryz.func66,Tryz.ntmps66
 go_upto_region 1 with fail
 show Code.wp _ _ _ _ (w.alloc (.cells #[.string (bs nm),.slice ao ps.length c,.int .i64 rt,.slice bo bl.length cb,.int .i64 pl] 36));replace X0:Hid (L5.Box (w.alloc (.cells #[.string (bs nm),.slice ao ps.length c,.int .i64 rt,.slice bo bl.length cb,.int .i64 pl] 36)) w.heap.size [.string (bs nm),.slice ao ps.length c,.int .i64 rt,.slice bo bl.length cb,.int .i64 pl]):=X0;generalize w.alloc (.cells #[.string (bs nm),.slice ao ps.length c,.int .i64 rt,.slice bo bl.length cb,.int .i64 pl] 36)=W at *;have x3:=X0.out.2 3 _ rfl;go_upto_region 2 with (at_make;refine wpList_make_full _ rfl _ _ 105 rfl W.heap.size 33 i0 _ 1 Tryz.underlying105 hi0 hz0 hz1 .i64 .i64 bl.length bl.length bl.length rfl rfl rfl rfl (by rw [hz2];omega) (by unfold maxLen;omega) (Nat.le_refl _) ?_;intro w1 own1 grow1;refine Hid.out ?_)
 rw [sB] at own1;have R1:Hid (aS w1 W.heap.size 33 W.heap.size bl.length (List.replicate bl.length (.slice none 0 0))):=ae own1;have B1:=ae (gq grow1);clear own1 grow1 x3;have hg1:W.heap.size < w1.heap.size:=R1.out.lt.2;obtain⟨x0,x1,x2,x3,x4⟩:_∧_∧_∧_∧_:=⟨(X0.out.below B1.out).2 0 _ rfl,(X0.out.below B1.out).2 1 _ rfl,(X0.out.below B1.out).2 2 _ rfl,(X0.out.below B1.out).2 3 _ rfl,(X0.out.below B1.out).2 4 _ rfl⟩;have HC:=ae (nE (nm,ps,rt,bl,pl) _ w1 (HV.out.below B1.out) HFu.out HTo.out);refine ae ?_;go_wp2_with fail
 refine HC.out.mono ?_;rintro e w2 ⟨v,rfl,hr,b2⟩;clear x0 x1 x2 x3 x4;have HR:=ae hr;obtain⟨so,sc,rfl⟩:=hr.len;have hsl:(aD (nm,ps,rt,bl,pl)).length=bl.length:=bI _;rw [hsl] at HR ⊢;have B12:=ae (af B1.out b2);have HSt:Hid (Cz W.heap.size W w2 bl.length (ey (nm,ps,rt,bl,pl) 0 []) w1.heap.size w2):=ae ⟨_,R1.out.below b2,by
  have:=fA.start w2.heap.size w2 bl.length;have e:=vH (nm,ps,rt,bl,pl);rw [e];exact this,B12.out,Mid.refl _ _⟩
 have hg2:w1.heap.size≤w2.heap.size:=b2.size;clear R1 B1 B12 b2 hr HC hsl;generalize w1.heap.size=Bq at *;generalize hg:W.heap.size=g1 at *;go_wp2_with fail
 go_loopw [15] (fun i wr=>∃K:Nat,K≤bl.length∧i= .int .i64 K∧Hid (Cz g1 W w2 bl.length (ey (nm,ps,rt,bl,pl) K []) Bq wr)) (fun i _=>bl.length - (intOf i).toNat)
 case atStart=>exact⟨0,Nat.zero_le _,rfl,HSt⟩
 case round=>
  clear HSt;obtain⟨K,hK,rfl,HS⟩:=hrel;by_cases hkt:K < bl.length
  ·have hkI:(K:Int) < bl.length:=(by omega);have HMi:Hid (Mid Bq w2 wr):=ae (by obtain⟨us,_,_,_,h⟩:=HS.out;exact h);obtain⟨gs,lo,lc,rfl,c0,hlw,hgs,hgt⟩:=HR.out.row (ia (f:=(nm,ps,rt,bl,pl)) hkt);have c1:=(HMi.out.cell (p:=⟨gs,K,none⟩) hgs hgt).trans c0;have HLw:=ae hlw;have HPn:Hid (ey (nm,ps,rt,bl,pl) K (aW (nm,ps,rt,bl,pl) K)=ey (nm,ps,rt,bl,pl) (K+1) []):=ae (xY _ K);have HNu:Hid (Num bl.length (aW (nm,ps,rt,bl,pl) K)):=ae (HTo.out K);have hll:(aW (nm,ps,rt,bl,pl) K).length≤1000000:=lx HFu.out hkt;have HNd:Hid (aW (nm,ps,rt,bl,pl) K).Nodup:=ae (yf _);have HS0:Hid (Cz g1 W w2 bl.length (ey (nm,ps,rt,bl,pl) K ((aW (nm,ps,rt,bl,pl) K).take 0)) Bq wr):=ae HS.out;have hpl:=fun M=>jV (nm,ps,rt,bl,pl) M K;generalize aW (nm,ps,rt,bl,pl) K=l at *;clear HMi c0 hlw HS;go_wp2_with fail
   clear c1;go_loopw [22] (fun i wr=>∃J:Nat,J≤l.length∧i= .int .i64 J∧Hid (Cz g1 W w2 bl.length (ey (nm,ps,rt,bl,pl) K (l.take J)) Bq wr)) (fun i _=>l.length - (intOf i).toNat)
   case atStart=>exact⟨0,Nat.zero_le _,rfl,HS0⟩
   case round=>
    clear HS0;obtain⟨J,hJ,rfl,HS⟩:=hrel;by_cases hjt:J < l.length
    ·have hjI:(J:Int) < l.length:=(by omega);obtain⟨m,hm⟩:∃m,l[J]? =some m:=⟨l[J],List.getElem?_eq_getElem hjt⟩;obtain⟨hm0,hm1⟩:=HNu.out m (List.mem_of_getElem? hm);obtain⟨M,rfl⟩:∃M:Nat,m=(M:Int):=⟨m.toNat,by omega⟩;have hMl:M < bl.length:=(by omega);have HTk:Hid (l.take (J+1)=l.take J ++ [(M:Int)]):=ae (cV hm);have hfr:=il HNd.out hm;obtain⟨us,q1,q2,q3,q4⟩:=HS.out;obtain⟨gl,rfl,c9,_⟩:=vF (Hk HLw.out q4) hm;obtain⟨row,u,y1,y2,y3⟩:=q2.at (i:=M) (by rw [ib];exact hMl);rw [iq _ _ hMl,hfr] at y1;simp only [Bool.false_eq_true,if_false,List.append_nil,Option.some.injEq] at y1;have hrl:=hpl M;have HPu:Hid ((ey (nm,ps,rt,bl,pl) K (l.take J)).set M (row ++ [(K:Int)])=ey (nm,ps,rt,bl,pl) K (l.take J ++ [(M:Int)])):=ae (by rw [←y1];exact BH hMl);have HPa:Hid ((ey (nm,ps,rt,bl,pl) K (l.take J))[M]? =some row):=ae (by rw [iq _ _ hMl,hfr,←y1];simp);rw [y1] at hrl;have c8:=q1.cell y2;have Q1:=ae q1;have Q2:=ae q2;have Q3:=ae q3;have Q4:=ae q4;have Y2:=ae y2;have Y3:=ae y3;obtain⟨uo,uc,rfl⟩:=aL y3;have hws:=q4.1;have hMI:(M:Int) < bl.length:=(by omega);clear hm q1 q2 q3 q4 y1 y2 y3 HS hfr hm0 hm1;go_wp2_with (at_builtin;refine wpList_append_own_at _ rfl (.tmp 31) (.tmp 33) 33 rfl w2.heap.size 3 i3 _ 1 8 Tryz.underlying33 hi3 hz3 hz4 hz5 rfl (by decide) _ _ _ rfl (Y3.out.alloc _) ⟨wr.heap.size,0,none⟩ 1 1 [.int .i64 K] rfl rfl aM bt (by unfold maxLen;omega) (by omega) (by simp;omega) ?_;intro v2 wB own2 grow2 _ at2;refine Hid.out ?_)
     have far:∀g,g < w2.heap.size→some g≠(Value.slice uo row.length uc).ownBlock:=fun g hg e=>by have:=(Y3.out.lt g e.symm).1;omega
     have P1:Hid (aS wB W.heap.size 33 g1 bl.length us):=ae ((Q1.out.alloc _).kept grow2 (far g1 (by omega)));have P2:=ae (Q2.out.step HPa.out Y2.out own2 grow2 at2);rw [HPu.out,←HTk.out] at P2;have P3:Hid (Below W.heap.size W wB):=ae (Below.grown (Q3.out.alloc Q3.out.size _) grow2 (by simp;omega) (fun k hk=>by have:=(Y3.out.lt k hk).1;omega));have P4:Hid (Mid Bq w2 wB):=ae ((Q4.out.alloc _).grown grow2 (fun k hk=> .inr (Y3.out.lt k hk).1));have HE:Hid (Cz g1 W w2 bl.length (ey (nm,ps,rt,bl,pl) K (l.take (J+1))) Bq (wB.setCell ⟨g1,M,none⟩ v2)):=ae (by
      exact⟨us.set M v2,P1.out.set M v2,P2.out.put (p:=⟨g1,M,none⟩) (by show g1 < w2.heap.size;omega) _,P3.out.setCell (p:=⟨g1,M,none⟩) (by show W.heap.size≤g1;omega) _,P4.out.put (p:=⟨g1,M,none⟩) (.inl (by show g1 < Bq;omega)) _⟩)
     obtain⟨vo,vc,rfl⟩:=aL own2;have k2:=P1.out.cell Y2.out;have k3:=P1.out.frozen M;clear own2 grow2 at2 far P1 P2 P3 P4 Q1 Q2 Q3 Q4 Y2 Y3 c8 c9;refine ae ?_;go_wp2_with fail
     go_roundw
     case rel=>exact⟨J+1,by omega,by go_num,HE⟩
     case measure=>simp [intOf];omega
    ·obtain rfl:J=l.length:=(by omega);have HE:Hid (Cz g1 W w2 bl.length (ey (nm,ps,rt,bl,pl) (K+1) []) Bq wr):=ae (by
      have:=HS.out;rw [List.take_length,HPn.out] at this;exact this)
     go_wp2_with fail
     go_roundw
     case rel=>exact⟨K+1,by omega,by go_num,HE⟩
     case measure=>simp [intOf];omega
  ·obtain rfl:K=bl.length:=(by omega);have HE:Hid (cF w.heap.size wr (aK (nm,ps,rt,bl,pl)) (.slice (some ⟨g1,0,none⟩) bl.length bl.length)∧Below w.heap.size w wr):=ae (by
    obtain⟨us,q1,q2,q3,q4⟩:=HS.out;refine⟨?_,af B0.out q3⟩;have:=q2.rows q1 (by omega);have e:ey (nm,ps,rt,bl,pl) bl.length []=aK (nm,ps,rt,bl,pl):=Bn (nm,ps,rt,bl,pl);rw [e] at this;exact this.base B0.out.size)
   go_wp2_with fail
   go_ret;exact⟨_,rfl,HE.out.1,HE.out.2⟩
theorem nN (f:Fun) (v:Value) (w:World) (hv:cg w f v) (hF:Ful f) (hT:Tos f):
  Calls Tryz.prog 66 #[v] w fun e w'=>∃u,e= .returned u∧cF w.heap.size w' (aK f) u∧Below w.heap.size w w':=by
 obtain⟨nm,ps,rt,bl,pl⟩:=f;have hv2:=hv;obtain⟨vp,vb,rfl,⟨ao,c,rfl,h1,_⟩,h2⟩:=hv;obtain⟨bo,cb,rfl,_⟩:=h2;exact Dm nm ps rt pl bl ao bo c cb w hv2 hF hT
end Go.Proofs.YtljkgcfnoegibaaGreatDoor
