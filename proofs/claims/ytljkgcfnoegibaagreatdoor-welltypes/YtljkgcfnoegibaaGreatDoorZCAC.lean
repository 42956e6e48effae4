/- Texts of one chain, joined. -/
import Derived.Test.YtljkgcfnoegibaaGreatDoorZAAN
import Derived.Test.YtljkgcfnoegibaaGreatDoorZCAB
set_option maxHeartbeats 4000000
set_option maxRecDepth 20000
namespace Go.Proofs.YtljkgcfnoegibaaGreatDoor
open Go Go.RowKit
open G (Tok Er Ins Fun)
theorem zu {f:Fun} {N:Nat} {path done l:List Int} {i:Nat} {m:Int} (h:l[i]? =some m):dm f N path done (l.take (i+1))=lg f N path (dm f N path done (l.take i)) m:=by
 unfold dm;rw [cV h,List.foldl_append];rfl
theorem uI {f:Fun} (hT:Tos f) (N:Nat) (path done:List Int):∀(l out:List Int),Num f.2.2.2.1.length l→Ext f.2.2.2.1.length done path out→Ext f.2.2.2.1.length done path (dm f N path out l):=by
 intro l;induction l with
 |nil=>intro out _ h;exact h
 |cons m l ih2=>
  intro out hl h;refine ih2 _ (fun x hx=>hl x (by simp [hx])) ?_;by_cases hc:az out m=true∨az path m=true
  ·rw [iF hc];exact h
  ·have hc1:az out m=false:=(by simpa using fun e=>hc (.inl e));have hc2:az path m=false:=(by simpa using fun e=>hc (.inr e));rw [g8 hc1 hc2];exact h.trans (uY hT N m out path (hl m (by simp)) (eO.1 hc1) (eO.1 hc2))
theorem n9 {w:World} {ops:Array Oper} {rest:List Oper} {o:Oper} {a:Act} {Q:Exit→Act→World→Prop} (hgd:o.guard=none) (s x:Operand)
  (ho:o.op= .call {callee:= .builtin .append,args:= #[s,x],argTypes:= #[33,33]}) (base B:Nat) (v vx:Value) (n:Nat) (xs:List Value) (l:List Int)
  (hs:a.eval s=v) (hown:w.ownsRow base 3 1 v n xs) (hx:a.eval x=vx) (hl:w.ownsRow B 3 1 vx l.length (ints l)) (h63:n+l.length≤4000000) (hbase:base≤w.heap.size)
  (h:∀v' w',w'.ownsRow base 3 1 v' (n+l.length) (xs ++ ints l)→w.grownBy w' v.ownBlock→wpList Tryz.prog ops Q rest (a.put o.dst v') w'):wpList Tryz.prog ops Q (o :: rest) a w:=by
 obtain⟨i0,hi0,hz0,hz1,hz2⟩:=info_parts Tryz.cr;rcases dn hl with ⟨rfl,hn⟩ | ⟨g,cap,rfl,h1,h2,h3,h4,h5,h6⟩
 ·refine wpList_append_own_none hgd s x 33 ho base 3 i0 1 Tryz.underlying33 hi0 v n xs hs hown hx ?_;refine h v w ?_ (World.grownBy.refl _ _);have e:l= []:=List.length_eq_zero_iff.1 hn;subst e;simpa [ints] using hown
 ·refine wpList_append_own w hgd s x 33 ho base 3 i0 _ 1 8 Tryz.underlying33 hi0 hz0 hz1 hz2 rfl (by decide) v n xs hs hown ⟨g,0,none⟩ l.length cap (ints l) hx (by simp [ints]) ?_ (eL l) (by unfold maxLen;omega) (by omega) hbase ?_
  ·intro j u hj;rw [Addr.add_lit,Nat.zero_add];exact h5 j u hj
  ·intro v' w' k1 k2 _;exact h v' w' k1 k2
theorem CH (nm:List UInt8) (ps:List Int) (rt pl:Int) (bl:List (List Ins)) (ao bo:Option Addr) (c cb:Nat) (hF:Ful (nm,ps,rt,bl,pl)) (hT:Tos (nm,ps,rt,bl,pl)):∀(N k:Nat) (done op:List Int) (vd vo:Value) (w:World),
  cg w (nm,ps,rt,bl,pl) (.agg #[.string (bs nm),.slice ao ps.length c,.int .i64 rt,.slice bo bl.length cb,.int .i64 pl])→
  w.ownsRow 0 3 1 vd done.length (ints done)→w.ownsRow 0 3 1 vo op.length (ints op)→N+op.length=bl.length→(op.Nodup∧Num bl.length op)→(done.Nodup∧Num bl.length done)→k < bl.length→(k:Int) ∉ done→(k:Int) ∉ op→
  Calls Tryz.prog 106 #[.agg #[.string (bs nm),.slice ao ps.length c,.int .i64 rt,.slice bo bl.length cb,.int .i64 pl],.int .i64 k,vd,vo] w fun e w'=>∃v,e= .returned v∧w'.ownsRow w.heap.size 3 1 v (cL (nm,ps,rt,bl,pl) N k done op).length (ints (cL (nm,ps,rt,bl,pl) N k done op))∧Below w.heap.size w w':=by
 intro N;induction N with
 |zero=>
  intro k done op vd vo w _ _ _ hN ho _ hk _ hko;exfalso;have h1:=dU bl.length ((k:Int) :: op) (List.nodup_cons.2 ⟨hko,ho.1⟩) (fun m hm=>by
   rcases List.mem_cons.1 hm with rfl | hm
   ·omega
   ·exact ho.2 m hm)
  simp at h1;omega
 |succ N ih=>
  intro k done op vd vo w hv hd ho hN hon hdn hk hkd hko;have IH:=ae ih;clear ih;obtain⟨do',dc,rfl⟩:=aL hd;obtain⟨oo,oc,rfl⟩:=aL ho;obtain⟨i0,hi0,hz0,hz1,hz2⟩:=info_parts Tryz.cr;have b0:=ah w (.cells #[.string (bs nm),.slice ao ps.length c,.int .i64 rt,.slice bo bl.length cb,.int .i64 pl] 36);have X0:=ae (L5.Box.new w [.string (bs nm),.slice ao ps.length c,.int .i64 rt,.slice bo bl.length cb,.int .i64 pl] 36);have HV:=ae (hv.below b0);have HD:=ae (br b0 _ _ _ _ _ _ hd);have HO:=ae (br b0 _ _ _ _ _ _ ho);have B0:=ae b0;have HFu:=ae hF;have HT:=ae hT;have hbl:bl.length≤1000000:=hF.1;have hop:op.length+1≤bl.length:=by omega
  have hdl:done.length≤bl.length:=dU _ _ hdn.1 hdn.2;have HON:=ae hon;have HDN:=ae hdn;have HKD:=ae hkd;have HKO:=ae hko;have HN:=ae hN;clear b0 hv hF hT hd ho hon hdn hkd hko hN;obtain⟨path,hpa⟩:∃path,path=op ++ [(k:Int)]:=⟨_,rfl⟩;obtain⟨l,hle⟩:∃l,l=aW (nm,ps,rt,bl,pl) k:=⟨_,rfl⟩;have HPN:Hid (path.Nodup∧Num bl.length path):=ae (by
   rw [hpa];refine⟨List.nodup_append.2 ⟨HON.out.1,by simp,by rintro x hx y hy rfl;simp at hy;exact HKO.out (hy ▸ hx)⟩,?_⟩;intro m hm;rcases List.mem_append.1 hm with hm | hm
   ·exact HON.out.2 m hm
   ·simp at hm;subst hm;omega)
  have HPL:Hid (N+path.length=bl.length):=ae (by have:=HN.out;rw [hpa];simp;omega);have hpl:path.length≤bl.length:=by rw [hpa];simp;omega
  rw [eB,Int.toNat_natCast,←hpa,←hle];have HPA:=ae hpa;have hll:l.length≤1000000:=by rw [hle];exact lx HFu.out hk
  have HLE:=ae hle;clear hpa hle;go_enter Tryz.func106,Tryz.ntmps106
  go_upto_region 1 with fail
  show Code.wp _ _ _ _ (w.alloc (.cells #[.string (bs nm),.slice ao ps.length c,.int .i64 rt,.slice bo bl.length cb,.int .i64 pl] 36));replace X0:Hid (L5.Box (w.alloc (.cells #[.string (bs nm),.slice ao ps.length c,.int .i64 rt,.slice bo bl.length cb,.int .i64 pl] 36)) w.heap.size [.string (bs nm),.slice ao ps.length c,.int .i64 rt,.slice bo bl.length cb,.int .i64 pl]):=X0;generalize w.alloc (.cells #[.string (bs nm),.slice ao ps.length c,.int .i64 rt,.slice bo bl.length cb,.int .i64 pl] 36)=W at *;have hB0:=B0.out.size;go_wp2_with (at_builtin;refine n9 rfl (.tmp 14) (.tmp 15) rfl W.heap.size 0 (.slice none 0 0) _ 0 [] op rfl (World.ownsRow_nil _ _ _ _) rfl HO.out (by omega) (Nat.le_refl _) ?_;intro v1 w1 own1 grow1;refine Hid.out ?_)
  have G1:Hid (w1.ownsRow W.heap.size 3 1 v1 op.length (ints op)∧Below W.heap.size W w1):=ae ⟨by simpa using own1,Below.grown (Below.refl _ _) grow1 (Nat.le_refl _) (by intro b hb;simp [Value.ownBlock] at hb)⟩;clear own1 grow1;have hs1:=G1.out.2.size;refine ae ?_;go_wp2_with (at_builtin;refine wpList_append_own _ rfl (.tmp 17) (.tmp 19) 33 rfl W.heap.size 3 i0 _ 1 8 Tryz.underlying33 hi0 hz0 hz1 hz2 rfl (by decide) _ _ _ rfl (G1.out.1.alloc _) ⟨w1.heap.size,0,none⟩ 1 1 [.int .i64 k] rfl rfl aM bt (by unfold maxLen;omega) (by omega) (by simp;omega) ?_;intro v2 w2 own2 grow2 _;refine Hid.out ?_)
  have G2:Hid (Grw W path v2 w2):=ae (by rw [HPA.out];exact Grw.step G1.out own2 grow2);clear own2 grow2 G1 hs1;have X2:=ae (X0.out.below G2.out.2);obtain⟨x0,x1,x2,x3,x4⟩:_∧_∧_∧_∧_:=⟨X2.out.2 0 _ rfl,X2.out.2 1 _ rfl,X2.out.2 2 _ rfl,X2.out.2 3 _ rfl,X2.out.2 4 _ rfl⟩;have HNx:=ae (qi (nm,ps,rt,bl,pl) k _ w2 (HV.out.below G2.out.2) HFu.out hk);have HNu:=ae (HT.out k);rw [←HLE.out] at HNx HNu;clear HLE HPA HON HKO HN hop;refine ae ?_;go_wp2_with fail
  refine HNx.out.mono ?_;rintro e w3 ⟨u,rfl,hu,b3⟩;have G3:Hid (Grw W path v2 w3):=ae ⟨br b3 _ _ _ _ _ _ G2.out.1,af G2.out.2 b3⟩;obtain⟨uo,uc,rfl⟩:=aL hu;obtain⟨vo2,vc2,rfl⟩:=aL G3.out.1;have HL:=ae (aT hu (Nat.zero_le _));clear x0 x1 x2 x3 x4 hu b3 G2 X2 HNx;go_wp2_with fail
  go_loopw [10,12] (fun v i wr=>∃I:Nat,I≤l.length∧i= .int .i64 I∧Hid (wr.ownsRow 0 3 1 v (dm (nm,ps,rt,bl,pl) N path done (l.take I)).length (ints (dm (nm,ps,rt,bl,pl) N path done (l.take I))))∧Hid (Below w3.heap.size w3 wr)) (fun _ i _=>l.length - (intOf i).toNat)
  case atStart=>exact⟨0,Nat.zero_le _,rfl,ae (br G3.out.2 _ _ _ _ _ _ HD.out),ae (Below.refl _ _)⟩
  case round=>
   obtain⟨I,hI,rfl,HG,HB⟩:=hrel;by_cases hit:I < l.length
   ·obtain⟨m,hm⟩:∃m,l[I]? =some m:=⟨l[I],List.getElem?_eq_getElem hit⟩;have hiI:(I:Int) < l.length:=(by omega);have HTk:=ae (zu (f:=(nm,ps,rt,bl,pl)) (N:=N) (path:=path) (done:=done) hm);have HEx:Hid (Ext bl.length done path (dm (nm,ps,rt,bl,pl) N path done (l.take I))):=ae (uI HT.out N path done _ _ (fun x hx=>HNu.out x (List.mem_of_mem_take hx)) (Ext.refl _ _ _));have hm0:=HNu.out m (List.mem_of_getElem? hm);have hm1:m < bl.length:=hm0.2;have hm2:0≤m:=hm0.1;have HLw:=ae (br HB.out _ _ _ _ _ _ HL.out);have HPw:=ae (br HB.out _ _ _ _ _ _ G3.out.1);rcases dn HLw.out with ⟨e0,hn⟩ | ⟨gl,capl,e0,l1,l2,l3,l4,l5,l6⟩
    ·omega
    injection e0 with e1 e2 e3;subst e1 e3;have c1:=l5 I _ (ints_at hm);have HWw:=ae (af G3.out.2 HB.out);generalize hout:dm (nm,ps,rt,bl,pl) N path done (l.take I)=out at *;obtain⟨go,oc2,rfl,so1,so2,so3⟩:=dG HG.out;obtain⟨gp,pc2,e0,sp1,sp2,sp3⟩:=dG HPw.out;injection e0 with e1 e2 e3;subst e1 e3;have HH1:=ae (eC out m go oc2 wr so1 (Nat.le_trans so2 so3));have HH2:=ae (eC path m vo2 vc2 wr sp1 (Nat.le_trans sp2 sp3));clear so1 so2 so3 sp1 sp2 sp3 l1 l2 l3 l5 l6 hm hm0 hout e2;go_wp2_with fail
    refine HH1.out.mono ?_;rintro e w8 ⟨rfl,rfl⟩
    cases h1:az out m with
    |true=>
     have HE:=HTk.out;rw [iF (.inl h1)] at HE;replace HE:=ae HE;replace h1:=ae h1;go_wp2_with fail
     go_roundw
     case rel=>exact⟨I+1,by omega,by go_num,by rw [HE.out];exact HG,HB⟩
     case measure=>simp [intOf];omega
    |false=>
     go_wp2_with fail
     refine HH2.out.mono ?_;rintro e w9 ⟨rfl,rfl⟩
     cases h2:az path m with
     |true=>
      have HE:=HTk.out;rw [iF (.inr h2)] at HE;replace HE:=ae HE;replace h1:=ae h1;replace h2:=ae h2;go_wp2_with fail
      go_roundw
      case rel=>exact⟨I+1,by omega,by go_num,by rw [HE.out];exact HG,HB⟩
      case measure=>simp [intOf];omega
     |false=>
      have HE:=HTk.out;rw [g8 h1 h2] at HE;replace HE:=ae HE;have hmn:((m.toNat:Nat):Int)=m:=(by omega);have hmb:m.toNat < bl.length:=(by omega);have HC:Hid (Calls Tryz.prog 106 #[.agg #[.string (bs nm),.slice ao ps.length c,.int .i64 rt,.slice bo bl.length cb,.int .i64 pl],.int .i64 m,.slice go out.length oc2,.slice vo2 path.length vc2] w9.drew fun e w'=>∃v,e= .returned v∧w'.ownsRow w9.drew.heap.size 3 1 v (cL (nm,ps,rt,bl,pl) N m out path).length (ints (cL (nm,ps,rt,bl,pl) N m out path))∧Below w9.drew.heap.size w9.drew w'):=ae (by
       have bd:=L5.fB w9;have:=IH.out m.toNat out path (.slice go out.length oc2) (.slice vo2 path.length vc2) w9.drew (HV.out.below (af HWw.out bd)) (br bd _ _ _ _ _ _ HG.out) (br bd _ _ _ _ _ _ (aT HPw.out (Nat.zero_le _))) HPL.out HPN.out (HEx.out.num HDN.out.1 HDN.out.2) hmb (by rw [hmn];exact eO.1 h1) (by rw [hmn];exact eO.1 h2);rwa [hmn] at this)
      replace h1:=ae h1;replace h2:=ae h2;have q0:w.heap.size < w9.heap.size:=(X0.out.below HWw.out).1;obtain⟨x0,x1,x2,x3,x4⟩:_∧_∧_∧_∧_:=⟨(X0.out.below HWw.out).2 0 _ rfl,(X0.out.below HWw.out).2 1 _ rfl,(X0.out.below HWw.out).2 2 _ rfl,(X0.out.below HWw.out).2 3 _ rfl,(X0.out.below HWw.out).2 4 _ rfl⟩;go_wp2_with fail
      go_region_held3 (fun w'=>w'.cell? ⟨w.heap.size,0,none⟩=some (.string (bs nm))∧w'.cell? ⟨w.heap.size,1,none⟩=some (.slice ao ps.length c)∧w'.cell? ⟨w.heap.size,2,none⟩=some (.int .i64 rt)∧w'.cell? ⟨w.heap.size,3,none⟩=some (.slice bo bl.length cb)∧w'.cell? ⟨w.heap.size,4,none⟩=some (.int .i64 pl)∧w'.cell? ⟨gl,I,none⟩=some (.int .i64 m))
       (first
        |(go_keep;done)
        |(exact⟨(b9.cell (p:=⟨_,_,none⟩) q0).trans x0,(b9.cell (p:=⟨_,_,none⟩) q0).trans x1,(b9.cell (p:=⟨_,_,none⟩) q0).trans x2,(b9.cell (p:=⟨_,_,none⟩) q0).trans x3,(b9.cell (p:=⟨_,_,none⟩) q0).trans x4,(b9.cell (p:=⟨_,_,none⟩) l4).trans c1⟩))
       ((first
        |(go_at_call 106;refine HC.out.mono ?_;rintro e wA ⟨v9,rfl,o9,b9⟩)))
      have bA:=Below.qv b9;have HE2:Hid (wA.ownsRow 0 3 1 v9 (dm (nm,ps,rt,bl,pl) N path done (l.take (I+1))).length (ints (dm (nm,ps,rt,bl,pl) N path done (l.take (I+1))))):=ae (by rw [HE.out];exact aT o9 (Nat.zero_le _));have HB2:=ae (af HB.out bA);clear o9 b9 bA;go_wp2_with fail
      go_roundw
      case rel=>exact⟨I+1,by omega,by go_num,HE2,HB2⟩
      case measure=>simp [intOf];omega
   ·obtain rfl:I=l.length:=(by omega);have hex:Ext bl.length done path (dm (nm,ps,rt,bl,pl) N path done l):=uI HT.out N path done _ _ HNu.out (Ext.refl _ _ _);have hol:(dm (nm,ps,rt,bl,pl) N path done l).length≤bl.length:=dU _ _ (hex.num HDN.out.1 HDN.out.2).1 (hex.num HDN.out.1 HDN.out.2).2;replace HG:=HG.out;rw [List.take_length] at HG;obtain⟨out,hout⟩:∃out,out=dm (nm,ps,rt,bl,pl) N path done l:=⟨_,rfl⟩;rw [←hout] at HG hol;replace HG:=ae HG;have HOu:=ae hout;clear hex hout;have HWw:=ae (af G3.out.2 HB.out);have hsW:=HWw.out.size;go_wp2_with (at_builtin;refine n9 rfl (.tmp 55) (.tmp 56) rfl W.heap.size 0 (.slice none 0 0) _ 0 [] out rfl (World.ownsRow_nil _ _ _ _) rfl HG.out (by omega) hsW ?_;intro v5 w5 own5 grow5;refine Hid.out ?_)
    have G5:Hid (Grw W out v5 w5):=ae ⟨by simpa using own5,Below.grown HWw.out grow5 hsW (by intro b hb;simp [Value.ownBlock] at hb)⟩;clear own5 grow5;have hs5:=G5.out.2.size;refine ae ?_;go_wp2_with (at_builtin;refine wpList_append_own _ rfl (.tmp 58) (.tmp 60) 33 rfl W.heap.size 3 i0 _ 1 8 Tryz.underlying33 hi0 hz0 hz1 hz2 rfl (by decide) _ _ _ rfl (G5.out.1.alloc _) ⟨w5.heap.size,0,none⟩ 1 1 [.int .i64 k] rfl rfl aM bt (by unfold maxLen;omega) (by omega) (by simp;omega) ?_;intro v6 w6 own6 grow6 _;refine Hid.out ?_)
    have G6:Hid (Grw W (out ++ [(k:Int)]) v6 w6):=ae (Grw.step G5.out own6 grow6);clear own6 grow6 G5;have HF2:=ae (aT G6.out.1 hB0);rw [HOu.out] at HF2;refine ae ?_;go_wp2_with fail
    go_ret;exact⟨_,rfl,HF2.out,af B0.out G6.out.2⟩
theorem BL (f:Fun) (v:Value) (w:World) (hv:cg w f v) (hF:Ful f) (hT:Tos f) (h0:0 < f.2.2.2.1.length):
  Calls Tryz.prog 106 #[v,.int .i64 0,.slice none 0 0,.slice none 0 0] w fun e w'=>∃u,e= .returned u∧w'.ownsRow w.heap.size 3 1 u (cL f f.2.2.2.1.length 0 [] []).length (ints (cL f f.2.2.2.1.length 0 [] []))∧Below w.heap.size w w':=by
 obtain⟨nm,ps,rt,bl,pl⟩:=f;have hv2:=hv;obtain⟨vp,vb,rfl,⟨ao,c,rfl,h1,_⟩,h2⟩:=hv;obtain⟨bo,cb,rfl,_⟩:=h2;exact CH nm ps rt pl bl ao bo c cb hF hT bl.length 0 [] [] (.slice none 0 0) (.slice none 0 0) w hv2 (World.ownsRow_nil _ _ _ _) (World.ownsRow_nil _ _ _ _) (by simp) ⟨List.nodup_nil,fun m hm=>by simp at hm⟩ ⟨List.nodup_nil,fun m hm=>by simp at hm⟩ h0 (by simp) (by simp)
theorem Ej {l:List Int} {i:Nat} {m:Int} (h:l[l.length - 1 - i]? =some m) (hi:i < l.length):l.reverse.take (i+1)=l.reverse.take i ++ [m]:=by
 refine cV ?_;rw [List.getElem?_reverse hi];exact h
theorem zx (nm:List UInt8) (ps:List Int) (rt pl:Int) (bl:List (List Ins)) (ao bo:Option Addr) (c cb:Nat) (w:World)
  (hv:cg w (nm,ps,rt,bl,pl) (.agg #[.string (bs nm),.slice ao ps.length c,.int .i64 rt,.slice bo bl.length cb,.int .i64 pl])) (hF:Ful (nm,ps,rt,bl,pl)) (hT:Tos (nm,ps,rt,bl,pl)) (h0:0 < bl.length):
  Calls Tryz.prog 77 #[.agg #[.string (bs nm),.slice ao ps.length c,.int .i64 rt,.slice bo bl.length cb,.int .i64 pl]] w fun e w'=>∃u,e= .returned u∧w'.ownsRow w.heap.size 3 1 u (aC (nm,ps,rt,bl,pl)).length (ints (aC (nm,ps,rt,bl,pl)))∧Below w.heap.size w w':=by
 obtain⟨i0,hi0,hz0,hz1,hz2⟩:=info_parts Tryz.cr;have b0:=ah w (.cells #[.string (bs nm),.slice ao ps.length c,.int .i64 rt,.slice bo bl.length cb,.int .i64 pl] 36);have X0:=ae (L5.Box.new w [.string (bs nm),.slice ao ps.length c,.int .i64 rt,.slice bo bl.length cb,.int .i64 pl] 36);have HP:=ae (BL (nm,ps,rt,bl,pl) _ _ (hv.below b0) hF hT h0);have B0:=ae b0;have hol:=gj hT h0;have hbl:bl.length≤1000000:=hF.1;unfold aC at hol ⊢;rw [List.length_reverse] at hol;replace hol:(cL (nm,ps,rt,bl,pl) bl.length 0 [] []).length≤bl.length:=hol;replace HP:Hid (Calls Tryz.prog 106 #[.agg #[.string (bs nm),.slice ao ps.length c,.int .i64 rt,.slice bo bl.length cb,.int .i64 pl],.int .i64 0,.slice none 0 0,.slice none 0 0] _ fun e w'=>∃u,e= .returned u∧w'.ownsRow _ 3 1 u (cL (nm,ps,rt,bl,pl) bl.length 0 [] []).length (ints (cL (nm,ps,rt,bl,pl) bl.length 0 [] []))∧Below _ _ w'):=HP;show Calls _ _ _ _ fun e w'=>∃u,e= .returned u∧w'.ownsRow w.heap.size 3 1 u (cL (nm,ps,rt,bl,pl) bl.length 0 [] []).reverse.length (ints (cL (nm,ps,rt,bl,pl) bl.length 0 [] []).reverse)∧Below w.heap.size w w';generalize cL (nm,ps,rt,bl,pl) bl.length 0 [] []=l at *;clear hv hF hT h0 b0;go_enter Tryz.func77,Tryz.ntmps77
 go_upto_region 1 with fail
 show Code.wp _ _ _ _ (w.alloc (.cells #[.string (bs nm),.slice ao ps.length c,.int .i64 rt,.slice bo bl.length cb,.int .i64 pl] 36));replace X0:Hid (L5.Box (w.alloc (.cells #[.string (bs nm),.slice ao ps.length c,.int .i64 rt,.slice bo bl.length cb,.int .i64 pl] 36)) w.heap.size [.string (bs nm),.slice ao ps.length c,.int .i64 rt,.slice bo bl.length cb,.int .i64 pl]):=X0;generalize w.alloc (.cells #[.string (bs nm),.slice ao ps.length c,.int .i64 rt,.slice bo bl.length cb,.int .i64 pl] 36)=W at *;obtain⟨x0,x1,x2,x3,x4⟩:_∧_∧_∧_∧_:=⟨X0.out.2 0 _ rfl,X0.out.2 1 _ rfl,X0.out.2 2 _ rfl,X0.out.2 3 _ rfl,X0.out.2 4 _ rfl⟩;go_wp2_with fail
 refine HP.out.mono ?_;rintro e w1 ⟨u,rfl,hu,b1⟩;have HU:=ae hu;have B1:=ae b1;obtain⟨uo,uc,rfl⟩:=aL hu;clear hu b1 HP x0 x1 x2 x3 x4;go_wp2_with fail
 go_loopw [4,5] (fun v i wr=>∃I:Nat,I≤l.length∧i= .int .i64 ((l.length:Int) - 1 - I)∧Hid (Grw w1 (l.reverse.take I) v wr)) (fun _ i _=>(intOf i+1).toNat)
 case atStart=>exact⟨0,Nat.zero_le _,by go_num,ae (Grw.start _)⟩
 case round=>
  obtain⟨I,hI,rfl,HG⟩:=hrel;by_cases hit:I < l.length
  ·obtain⟨m,hm⟩:∃m,l[l.length - 1 - I]? =some m:=⟨_,List.getElem?_eq_getElem (by omega)⟩;have HR:=ae (Ej hm hit);rcases dn HU.out with ⟨e0,hn⟩ | ⟨gl,capl,e0,l1,l2,l3,l4,l5,l6⟩
   ·omega
   injection e0 with e1 e2 e3;subst e1 e3;have c1:=(HG.out.2.cell (p:=⟨gl,l.length - 1 - I,none⟩) l4).trans (l5 _ _ (ints_at hm));obtain⟨J,hJ⟩:∃J,J=l.length - 1 - I:=⟨_,rfl⟩;have hJI:(l.length:Int) - 1 - I=(J:Int):=(by omega);rw [←hJ] at c1;rw [hJI];have hlen:(l.reverse.take I).length=I:=(by simp;omega);have hWs:=HG.out.2.size;have hJl:(J:Int) < l.length:=(by omega);clear l1 l2 l3 l5 l6 hm e2 hJ;go_wp2_with (at_builtin;refine wpList_append_own _ rfl (.tmp 15) (.tmp 20) 33 rfl w1.heap.size 3 i0 _ 1 8 Tryz.underlying33 hi0 hz0 hz1 hz2 rfl (by decide) _ _ _ rfl (HG.out.1.alloc _) ⟨wr.heap.size,0,none⟩ 1 1 [.int .i64 m] rfl rfl aM bt (by unfold maxLen;omega) (by omega) (by simp;omega) ?_;intro v2 w2 own2 grow2 _;refine Hid.out ?_)
   have HE:Hid (Grw w1 (l.reverse.take (I+1)) v2 w2):=ae (by rw [HR.out];exact HG.out.step own2 grow2);clear own2 grow2;refine ae ?_;go_wp2_with fail
   go_roundw
   case rel=>exact⟨I+1,by omega,by rw [←hJI];go_num,HE⟩
   case measure=>simp [intOf]
  ·obtain rfl:I=l.length:=(by omega);have HE:Hid (Grw w1 l.reverse _ wr):=ae (by have:=HG.out;rwa [List.take_of_length_le (by simp)] at this);have HF:=ae (aT HE.out.1 (Nat.le_trans B0.out.size B1.out.size));go_wp2_with fail
   go_ret;exact⟨_,rfl,HF.out,af B0.out (af B1.out HE.out.2)⟩
theorem yI (f:Fun) (v:Value) (w:World) (hv:cg w f v) (hF:Ful f) (hT:Tos f) (h0:0 < f.2.2.2.1.length):
  Calls Tryz.prog 77 #[v] w fun e w'=>∃u,e= .returned u∧w'.ownsRow w.heap.size 3 1 u (aC f).length (ints (aC f))∧Below w.heap.size w w':=by
 obtain⟨nm,ps,rt,bl,pl⟩:=f;have hv2:=hv;obtain⟨vp,vb,rfl,⟨ao,c,rfl,h1,_⟩,h2⟩:=hv;obtain⟨bo,cb,rfl,_⟩:=h2;exact zx nm ps rt pl bl ao bo c cb w hv2 hF hT h0
theorem qO {but m:Int} {met l:List Int} {i:Nat} (h:l[i]? =some m):aX but met (l.take (i+1))=ku but (aX but met (l.take i)) m:=by
 unfold aX;rw [cV h,List.foldl_append];rfl
theorem Ct (op:Int) (w:World):Calls Tryz.prog 76 #[.int .i64 op] w fun e w'=>e= .returned (.bool (fj op))∧w'=w:=by
 go_enter Tryz.func76,Tryz.ntmps76
 go_wp2
 all_goals (go_ret;refine⟨L5.aw ?_,rfl⟩;rw [Bool.eq_iff_iff];simp [fj];try omega)
theorem se {N:Nat} {t:List Int} {j:Nat} {m:Int} (h:t[j]? =some m):gT N (t.drop j)=(decide (m < 0∨(N:Int)≤m) || gT N (t.drop (j+1))):=by
 rw [jf h];rfl
theorem uF (nm:List UInt8) (ps:List Int) (rt pl:Int) (bl:List (List Ins)) (ao bo:Option Addr) (c cb:Nat) (w:World)
  (hv:cg w (nm,ps,rt,bl,pl) (.agg #[.string (bs nm),.slice ao ps.length c,.int .i64 rt,.slice bo bl.length cb,.int .i64 pl])):
  Calls Tryz.prog 42 #[.agg #[.string (bs nm),.slice ao ps.length c,.int .i64 rt,.slice bo bl.length cb,.int .i64 pl]] w fun e w'=>e= .returned (.agg #[.int .i64 (aH (nm,ps,rt,bl,pl)).1,.int .i64 (aH (nm,ps,rt,bl,pl)).2])∧Below w.heap.size w w':=by
 obtain⟨b0,h0,h1,hz0⟩:=si w #[.string (bs nm),.slice ao ps.length c,.int .i64 rt,.slice bo bl.length cb,.int .i64 pl];have H0:=ae h0;have H1:=ae h1;have HV:=ae (hv.below b0);have B0:=ae b0;have hbc:bl.length≤cb∧cb≤maxLen:=by
  obtain⟨vp,vb,e,_,⟨ao',c',e',h1,h2,_⟩⟩:=hv;injection e with e;have e3:=congrArg (fun a=>a[3]?) e;simp at e3;subst e3;injection e' with e1 e2 e3;subst e3;exact⟨h1,h2⟩
 have hz2:w.heap.size < ((w.alloc (.cells #[.string (bs nm),.slice ao ps.length c,.int .i64 rt,.slice bo bl.length cb,.int .i64 pl] 36)).alloc (.cells #[.int .i64 0,.int .i64 0] 29)).heap.size:=by omega
 unfold maxLen at hbc;clear b0 h0 h1 hv;go_enter Tryz.func42,Tryz.ntmps42
 go_upto_region 1 with fail
 show Code.wp _ _ _ _ ((w.alloc (.cells #[.string (bs nm),.slice ao ps.length c,.int .i64 rt,.slice bo bl.length cb,.int .i64 pl] 36)).alloc (.cells #[.int .i64 0,.int .i64 0] 29));generalize (w.alloc (.cells #[.string (bs nm),.slice ao ps.length c,.int .i64 rt,.slice bo bl.length cb,.int .i64 pl] 36)).alloc (.cells #[.int .i64 0,.int .i64 0] 29)=W at *;obtain⟨x0,x1,x2,x3,x4⟩:=jJ H0.out;by_cases hn0:bl.length=0
 ·have HE:Hid (aH (nm,ps,rt,bl,pl)=(15,0)):=ae (if_pos hn0);obtain⟨d0,d1,z0,z1⟩:=fu H1.out;go_wp2_with fail
  exact bodyPost_ret (v:= .agg #[.int .i64 15,.int .i64 0]) (by simp [results,Tryz.results42,go_sem,d0,d1]) rfl ⟨by rw [HE.out],dx B0.out (Below.refl _ _)⟩
 have hn1:((bl.length:Int) == 0)=false:=by simpa using hn0
 have HB:Hid (dy W bl (.slice bo bl.length cb)):=ae (by
  obtain⟨vp,vb,e,_,hB⟩:=HV.out;injection e with e;have e3:=congrArg (fun a=>a[3]?) e;simp at e3;rw [e3];exact hB)
 have HS:Hid (aH (nm,ps,rt,bl,pl)=shapedGo bl.length 0 bl):=ae (if_neg hn0);go_wp2_with fail
 clear x0 x1 x2 x3 x4;go_loopw [3] (fun i wr=>∃K:Nat,K≤bl.length∧i= .int .i64 K∧Hid (aH (nm,ps,rt,bl,pl)=shapedGo bl.length K (bl.drop K))∧Hid (Below W.heap.size W wr)) (fun i _=>bl.length - (intOf i).toNat)
 case atStart=>exact⟨0,Nat.zero_le _,rfl,HS,ae (Below.refl _ _)⟩
 case round=>
  obtain⟨K,hK,rfl,HR,HW⟩:=hrel;obtain⟨x0,x1,x2,x3,x4⟩:=jJ ((HW.out.block _ hz2).trans H0.out);by_cases hkt:K < bl.length
  ·obtain⟨b,hbK⟩:∃b,bl[K]? =some b:=⟨bl[K],List.getElem?_eq_getElem hkt⟩;have hkI:(K:Int) < bl.length:=(by omega);obtain⟨_,_,e',l1,l2,l3⟩:=HB.out;injection e' with e1 e2 e4;subst e1 e4;rcases l3 with l3 | ⟨gc,oc,rfl,gk,h2⟩
   ·subst l3;simp at hkt
   obtain⟨vk,kd,aok,capk,rfl,m1,m2,kk⟩:=h2 K b hbK;have c1:=(HW.out.cell (p:=⟨gc,oc+K,none⟩) gk).trans kd;have HR2:=ae (HR.out.trans (by rw [jf hbK]));have HKK:=ae kk;have KD:=ae kd;unfold maxLen at m2;clear kd kk h2 hbK e2 HR;go_wp2_with fail
   clear x0 x1 x2 x3 x4 c1;have HW0:=HW;clear HW;go_loopw [5] (fun i wq=>∃I:Nat,I≤b.length∧i= .int .i64 I∧Hid (blkGo bl.length b.length 0 b=blkGo bl.length b.length I (b.drop I))∧Hid (Below W.heap.size W wq)) (fun i _=>b.length - (intOf i).toNat)
   case atStart=>exact⟨0,Nat.zero_le _,rfl,ae rfl,HW0⟩
   case round=>
    clear HW0;obtain⟨I,hI,rfl,HI,HW⟩:=hrel;obtain⟨x0,x1,x2,x3,x4⟩:=jJ ((HW.out.block _ hz2).trans H0.out);have c1:=(HW.out.cell (p:=⟨gc,oc+K,none⟩) gk).trans KD.out;by_cases hit:I < b.length
    ·have hiI:(I:Int) < b.length:=(by omega);obtain⟨x,hx⟩:∃x,b[I]? =some x:=⟨b[I],List.getElem?_eq_getElem hit⟩;rcases HKK.out with e0 | ⟨gi,oi,rfl,kk⟩
     ·subst e0;simp at hit
     have HI2:=ae (HI.out.trans (by rw [jf hx]));obtain⟨ai,ti,ca,ct,hv,r0,r1,r2,r3,r4,r5,r6,r7⟩:=((kk I _ hx).below HW.out).val;obtain⟨op,id,nn,ty,ar,tt,na,pp⟩:=x;dsimp only at hv r0 r1 r2 r3 r4 r5 r6 r7
     have HSt:Hid (Sl wr ti tt∧tt.length≤maxLen):=ae (by
      obtain⟨a1,t1,c1,c2,e,s1,s2,_,_,s5,s6⟩:=hv;injection e with e;have e2:=congrArg (fun a=>a[5]?) e;simp at e2;rw [e2.1];exact⟨s2,Nat.le_trans s5 s6⟩)
     have B7:=ae (ah wr (.cells #[.int .i64 op,.int .i64 id,.int .i64 nn,.int .i64 ty,.slice ai ar.length ca,.slice ti tt.length ct,.string (bs na),.int .i64 pp] 47));have H7:=ae (heap_alloc_new wr (.cells #[.int .i64 op,.int .i64 id,.int .i64 nn,.int .i64 ty,.slice ai ar.length ca,.slice ti tt.length ct,.string (bs na),.int .i64 pp] 47));have hbn:¬b.length=0:=(by omega);have HBE:Hid (jw bl.length b=blkGo bl.length b.length 0 b):=ae (if_neg hbn);clear kk hx hv HI;go_wp2_with fail
     refine(Ct op _).mono ?_;rintro e w8 ⟨rfl,rfl⟩;have HW8:=ae (af HW.out B7.out);have hwl:wr.heap.size < (wr.alloc (.cells #[.int .i64 op,.int .i64 id,.int .i64 nn,.int .i64 ty,.slice ai ar.length ca,.slice ti tt.length ct,.string (bs na),.int .i64 pp] 47)).heap.size:=(by simp);obtain⟨s0,s1,s2,s3,s4,s5,s6,s7⟩:=ij H7.out;have HSt8:Hid (Sl (wr.alloc (.cells #[.int .i64 op,.int .i64 id,.int .i64 nn,.int .i64 ty,.slice ai ar.length ca,.slice ti tt.length ct,.string (bs na),.int .i64 pp] 47)) ti tt):=ae (HSt.out.1.below B7.out);have htl:tt.length≤maxLen:=HSt.out.2;unfold maxLen at htl;obtain⟨y0,y1,y2,y3,y4⟩:=jJ ((HW8.out.block _ hz2).trans H0.out);generalize wr.alloc (.cells #[.int .i64 op,.int .i64 id,.int .i64 nn,.int .i64 ty,.slice ai ar.length ca,.slice ti tt.length ct,.string (bs na),.int .i64 pp] 47)=W8 at *;clear x0 x1 x2 x3 x4 c1 r0 r1 r2 r3 r4 r5 r6 r7 B7 H7 HW HSt;have SS:=ae (And.intro s0 s5);by_cases hlast:I+1=b.length
     ·have hlI:((I:Int)+1 == (b.length:Int))=true:=by simpa using (by omega:(I:Int)+1=b.length)
      cases he:fj op with
      |false=>
       have HEE:Hid (aH (nm,ps,rt,bl,pl)=(15,(K:Int))):=ae (HR2.out.trans (dT (HBE.out.trans (HI2.out.trans (jk (by simp [he,hlast])))) (by decide)));obtain⟨d0,d1,z0,z1⟩:=fu ((HW8.out.block _ hz0).trans H1.out);go_wp2_with fail
       exact bodyPost_ret (v:= .agg #[.int .i64 15,.int .i64 (K:Int)]) (by simp [results,Tryz.results42,go_sem,d0,d1]) rfl ⟨by rw [HEE.out],dx B0.out HW8.out⟩
      |true=>
       have HEq:Hid (fj op=decide (I+1=b.length)):=ae (by simp [he,hlast]);have HBad:Hid (fT bl.length (op,id,nn,ty,ar,tt,na,pp)=true→aH (nm,ps,rt,bl,pl)=(7,(K:Int))):=ae (fun h=>HR2.out.trans (dT (HBE.out.trans (HI2.out.trans (jj HEq.out h))) (by decide)));have HOk:Hid (fT bl.length (op,id,nn,ty,ar,tt,na,pp)=false→blkGo bl.length b.length 0 b=blkGo bl.length b.length (I+1) (b.drop (I+1))):=ae (fun h=>HI2.out.trans (ix HEq.out h));replace he:=ae he;go_wp2_with fail
       clear s0 s1 s2 s3 s4 s5 s6 s7 y0 y1 y2 y3 y4;have S8:Hid (W8.cell? ⟨wr.heap.size,0,none⟩=some (.int .i64 op)∧W8.cell? ⟨wr.heap.size,5,none⟩=some (.slice ti tt.length ct)):=SS;generalize wr.heap.size=q at *;go_loopw [7] (fun i wq=>∃J:Nat,J≤tt.length∧i= .int .i64 J∧Hid (gT bl.length tt=gT bl.length (tt.drop J))∧Hid (Below W8.heap.size W8 wq)) (fun i _=>tt.length - (intOf i).toNat)
       case atStart=>exact⟨0,Nat.zero_le _,rfl,ae rfl,ae (Below.refl _ _)⟩
       case round=>
        obtain⟨J,hJ,rfl,HJ,HB9⟩:=hrel;have HW9:=ae (af HW8.out HB9.out);have s0:=(HB9.out.cell (p:=⟨q,0,none⟩) hwl).trans S8.out.1;have s5:=(HB9.out.cell (p:=⟨q,5,none⟩) hwl).trans S8.out.2;by_cases hjt:J < tt.length
        ·have hjI:(J:Int) < tt.length:=(by omega);by_cases hop:op=20
         ·have hop':(op != 20)=false:=(by simpa using hop);have HE:=ae (HOk.out (by simp [fT,hop]));go_wp2_with fail
          go_roundw
          case rel=>exact⟨I+1,by omega,by go_num,HE,HW9⟩
          case measure=>simp [intOf];omega
         ·have hop':(op != 20)=true:=(by simpa using hop);obtain⟨m,hm⟩:∃m,tt[J]? =some m:=⟨tt[J],List.getElem?_eq_getElem hjt⟩;rcases HSt8.out with e0 | ⟨tb,to2,rfl,t1,t2⟩
          ·subst e0;simp at hjt
          have c9:=(HB9.out.cell (p:=⟨tb,to2+J,none⟩) t1).trans (t2 J m hm);have HJ2:=ae (HJ.out.trans (se hm));obtain⟨y0,y1,y2,y3,y4⟩:=jJ ((HW9.out.block _ hz2).trans H0.out);have hq9:q < wr.heap.size:=Nat.lt_of_lt_of_le hwl HB9.out.size;have ht9:tb < wr.heap.size:=Nat.lt_of_lt_of_le t1 HB9.out.size;have hf9:w.heap.size < wr.heap.size:=Nat.lt_of_lt_of_le hz2 HW9.out.size;have f1:=fun x=>((L5.ax wr x).cell (p:=⟨q,5,none⟩) hq9).trans s5;have f2:=fun x=>((L5.ax wr x).cell (p:=⟨tb,to2+J,none⟩) ht9).trans c9;have f3:=fun x=>((L5.ax wr x).cell (p:=⟨w.heap.size,3,none⟩) hf9).trans y3;have HX:=ae (fun x=>af HW9.out (L5.ax wr x));have HX9:=ae (fun x=>af HB9.out (L5.ax wr x));clear t2 hm y0 y1 y2 y4 c9;by_cases hneg:m < 0
          ·have HE:=ae (HBad.out (by simp only [fT,HJ2.out];simp [hop,hneg]));go_wp2_with fail
           refine L5.aE (by kernel_rfl) (by kernel_rfl) ?_;repeat (go_big_quiet_step (fail))
           refine wpQuiet_nil ?_;rintro _ ⟨x,rfl⟩;obtain⟨d0,d1,z0,z1⟩:=fu (((HX.out x).block _ hz0).trans H1.out);go_wp2_with fail
           exact bodyPost_ret (v:= .agg #[.int .i64 7,.int .i64 (K:Int)]) (by simp [results,Tryz.results42,go_sem,d0,d1]) rfl ⟨by rw [HE.out],dx B0.out (HX.out x)⟩
          ·have hdn:decide (m < 0)=false:=(by simpa using hneg);by_cases hbig:(bl.length:Int)≤m
           ·have HE:=ae (HBad.out (by simp only [fT,HJ2.out];simp [hop,hneg,hbig]));go_wp2_with fail
            refine L5.aE (by kernel_rfl) (by kernel_rfl) ?_;repeat (go_big_quiet_step (fail))
            refine wpQuiet_nil ?_;rintro _ ⟨x,rfl⟩;obtain⟨d0,d1,z0,z1⟩:=fu (((HX.out x).block _ hz0).trans H1.out);go_wp2_with fail
            exact bodyPost_ret (v:= .agg #[.int .i64 7,.int .i64 (K:Int)]) (by simp [results,Tryz.results42,go_sem,d0,d1]) rfl ⟨by rw [HE.out],dx B0.out (HX.out x)⟩
           ·have HE:Hid (gT bl.length tt=gT bl.length (tt.drop (J+1))):=ae (by rw [HJ2.out];simp [hneg,hbig]);go_wp2_with fail
            refine L5.aE (by kernel_rfl) (by kernel_rfl) ?_;repeat (go_big_quiet_step (fail))
            refine wpQuiet_nil ?_;rintro _ ⟨x,rfl⟩;have HX9x:=ae (HX9.out x);go_wp2_with fail
            go_roundw
            case rel=>exact⟨J+1,by omega,by go_num,HE,HX9x⟩
            case measure=>simp [intOf];omega
        ·obtain rfl:J=tt.length:=(by omega);have HE:=ae (HOk.out (by simp only [fT,HJ.out,List.drop_length];simp [gT]));go_wp2_with fail
         go_roundw
         case rel=>exact⟨I+1,by omega,by go_num,HE,HW9⟩
         case measure=>simp [intOf];omega
     ·have hlI:((I:Int)+1 == (b.length:Int))=false:=beq_eq_false_iff_ne.2 (by omega)
      cases he:fj op with
      |true=>
       have HEE:Hid (aH (nm,ps,rt,bl,pl)=(15,(K:Int))):=ae (HR2.out.trans (dT (HBE.out.trans (HI2.out.trans (jk (by simp [he,hlast])))) (by decide)));obtain⟨d0,d1,z0,z1⟩:=fu ((HW8.out.block _ hz0).trans H1.out);go_wp2_with fail
       exact bodyPost_ret (v:= .agg #[.int .i64 15,.int .i64 (K:Int)]) (by simp [results,Tryz.results42,go_sem,d0,d1]) rfl ⟨by rw [HEE.out],dx B0.out HW8.out⟩
      |false=>
       have HEq:Hid (fj op=decide (I+1=b.length)):=ae (by simp [he,hlast]);have HBad:Hid (fT bl.length (op,id,nn,ty,ar,tt,na,pp)=true→aH (nm,ps,rt,bl,pl)=(7,(K:Int))):=ae (fun h=>HR2.out.trans (dT (HBE.out.trans (HI2.out.trans (jj HEq.out h))) (by decide)));have HOk:Hid (fT bl.length (op,id,nn,ty,ar,tt,na,pp)=false→blkGo bl.length b.length 0 b=blkGo bl.length b.length (I+1) (b.drop (I+1))):=ae (fun h=>HI2.out.trans (ix HEq.out h));replace he:=ae he;go_wp2_with fail
       clear s0 s1 s2 s3 s4 s5 s6 s7 y0 y1 y2 y3 y4;have S8:Hid (W8.cell? ⟨wr.heap.size,0,none⟩=some (.int .i64 op)∧W8.cell? ⟨wr.heap.size,5,none⟩=some (.slice ti tt.length ct)):=SS;generalize wr.heap.size=q at *;go_loopw [7] (fun i wq=>∃J:Nat,J≤tt.length∧i= .int .i64 J∧Hid (gT bl.length tt=gT bl.length (tt.drop J))∧Hid (Below W8.heap.size W8 wq)) (fun i _=>tt.length - (intOf i).toNat)
       case atStart=>exact⟨0,Nat.zero_le _,rfl,ae rfl,ae (Below.refl _ _)⟩
       case round=>
        obtain⟨J,hJ,rfl,HJ,HB9⟩:=hrel;have HW9:=ae (af HW8.out HB9.out);have s0:=(HB9.out.cell (p:=⟨q,0,none⟩) hwl).trans S8.out.1;have s5:=(HB9.out.cell (p:=⟨q,5,none⟩) hwl).trans S8.out.2;by_cases hjt:J < tt.length
        ·have hjI:(J:Int) < tt.length:=(by omega);by_cases hop:op=20
         ·have hop':(op != 20)=false:=(by simpa using hop);have HE:=ae (HOk.out (by simp [fT,hop]));go_wp2_with fail
          go_roundw
          case rel=>exact⟨I+1,by omega,by go_num,HE,HW9⟩
          case measure=>simp [intOf];omega
         ·have hop':(op != 20)=true:=(by simpa using hop);obtain⟨m,hm⟩:∃m,tt[J]? =some m:=⟨tt[J],List.getElem?_eq_getElem hjt⟩;rcases HSt8.out with e0 | ⟨tb,to2,rfl,t1,t2⟩
          ·subst e0;simp at hjt
          have c9:=(HB9.out.cell (p:=⟨tb,to2+J,none⟩) t1).trans (t2 J m hm);have HJ2:=ae (HJ.out.trans (se hm));obtain⟨y0,y1,y2,y3,y4⟩:=jJ ((HW9.out.block _ hz2).trans H0.out);have hq9:q < wr.heap.size:=Nat.lt_of_lt_of_le hwl HB9.out.size;have ht9:tb < wr.heap.size:=Nat.lt_of_lt_of_le t1 HB9.out.size;have hf9:w.heap.size < wr.heap.size:=Nat.lt_of_lt_of_le hz2 HW9.out.size;have f1:=fun x=>((L5.ax wr x).cell (p:=⟨q,5,none⟩) hq9).trans s5;have f2:=fun x=>((L5.ax wr x).cell (p:=⟨tb,to2+J,none⟩) ht9).trans c9;have f3:=fun x=>((L5.ax wr x).cell (p:=⟨w.heap.size,3,none⟩) hf9).trans y3;have HX:=ae (fun x=>af HW9.out (L5.ax wr x));have HX9:=ae (fun x=>af HB9.out (L5.ax wr x));clear t2 hm y0 y1 y2 y4 c9;by_cases hneg:m < 0
          ·have HE:=ae (HBad.out (by simp only [fT,HJ2.out];simp [hop,hneg]));go_wp2_with fail
           refine L5.aE (by kernel_rfl) (by kernel_rfl) ?_;repeat (go_big_quiet_step (fail))
           refine wpQuiet_nil ?_;rintro _ ⟨x,rfl⟩;obtain⟨d0,d1,z0,z1⟩:=fu (((HX.out x).block _ hz0).trans H1.out);go_wp2_with fail
           exact bodyPost_ret (v:= .agg #[.int .i64 7,.int .i64 (K:Int)]) (by simp [results,Tryz.results42,go_sem,d0,d1]) rfl ⟨by rw [HE.out],dx B0.out (HX.out x)⟩
          ·have hdn:decide (m < 0)=false:=(by simpa using hneg);by_cases hbig:(bl.length:Int)≤m
           ·have HE:=ae (HBad.out (by simp only [fT,HJ2.out];simp [hop,hneg,hbig]));go_wp2_with fail
            refine L5.aE (by kernel_rfl) (by kernel_rfl) ?_;repeat (go_big_quiet_step (fail))
            refine wpQuiet_nil ?_;rintro _ ⟨x,rfl⟩;obtain⟨d0,d1,z0,z1⟩:=fu (((HX.out x).block _ hz0).trans H1.out);go_wp2_with fail
            exact bodyPost_ret (v:= .agg #[.int .i64 7,.int .i64 (K:Int)]) (by simp [results,Tryz.results42,go_sem,d0,d1]) rfl ⟨by rw [HE.out],dx B0.out (HX.out x)⟩
           ·have HE:Hid (gT bl.length tt=gT bl.length (tt.drop (J+1))):=ae (by rw [HJ2.out];simp [hneg,hbig]);go_wp2_with fail
            refine L5.aE (by kernel_rfl) (by kernel_rfl) ?_;repeat (go_big_quiet_step (fail))
            refine wpQuiet_nil ?_;rintro _ ⟨x,rfl⟩;have HX9x:=ae (HX9.out x);go_wp2_with fail
            go_roundw
            case rel=>exact⟨J+1,by omega,by go_num,HE,HX9x⟩
            case measure=>simp [intOf];omega
        ·obtain rfl:J=tt.length:=(by omega);have HE:=ae (HOk.out (by simp only [fT,HJ.out,List.drop_length];simp [gT]));go_wp2_with fail
         go_roundw
         case rel=>exact⟨I+1,by omega,by go_num,HE,HW9⟩
         case measure=>simp [intOf];omega
    ·obtain rfl:I=b.length:=(by omega);have HE:=HI.out;rw [List.drop_length] at HE;by_cases hbn:b.length=0
     ·have hbn':((b.length:Int) == 0)=true:=(by simpa using hbn);have HEE:Hid (aH (nm,ps,rt,bl,pl)=(15,(K:Int))):=ae (HR2.out.trans (dT (if_pos hbn) (by decide)));obtain⟨d0,d1,z0,z1⟩:=fu ((HW.out.block _ hz0).trans H1.out);clear HE;go_wp2_with fail
      exact bodyPost_ret (v:= .agg #[.int .i64 15,.int .i64 (K:Int)]) (by simp [results,Tryz.results42,go_sem,d0,d1]) rfl ⟨by rw [HEE.out],dx B0.out HW.out⟩
     ·have hbn':((b.length:Int) == 0)=false:=(by simpa using hbn);have HEE:Hid (aH (nm,ps,rt,bl,pl)=shapedGo bl.length (K+1) (bl.drop (K+1))):=ae (HR2.out.trans (jc ((if_neg hbn).trans HE)));clear HE;go_wp2_with fail
      go_roundw
      case rel=>exact⟨K+1,by omega,by go_num,HEE,HW⟩
      case measure=>simp [intOf];omega
  ·obtain rfl:K=bl.length:=(by omega);have HE:=HR.out;rw [List.drop_length] at HE;replace HE:Hid (aH (nm,ps,rt,bl,pl)=(0,0)):=ae HE;obtain⟨d0,d1,z0,z1⟩:=fu ((HW.out.block _ hz0).trans H1.out);go_wp2_with fail
   exact bodyPost_ret (v:= .agg #[.int .i64 0,.int .i64 0]) (by simp [results,Tryz.results42,go_sem,d0,d1]) rfl ⟨by rw [HE.out],dx B0.out HW.out⟩
theorem vA (f:Fun) (v:Value) (w:World) (hv:cg w f v):
  Calls Tryz.prog 42 #[v] w fun e w'=>e= .returned (.agg #[.int .i64 (aH f).1,.int .i64 (aH f).2])∧Below w.heap.size w w':=by
 obtain⟨nm,ps,rt,bl,pl⟩:=f;have hv2:=hv;obtain⟨vp,vb,rfl,⟨ao,c,rfl,h1,_⟩,h2⟩:=hv;obtain⟨bo,cb,rfl,_⟩:=h2;exact uF nm ps rt pl bl ao bo c cb w hv2
end Go.Proofs.YtljkgcfnoegibaaGreatDoor
