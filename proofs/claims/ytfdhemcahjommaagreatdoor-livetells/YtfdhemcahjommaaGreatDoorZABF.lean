/- Texts of one chain, joined. -/
import Derived.Test.YtfdhemcahjommaaGreatDoorZABB
import Derived.Test.YtfdhemcahjommaaGreatDoorZABD
import Derived.Test.YtfdhemcahjommaaGreatDoorZABE
set_option maxHeartbeats 4000000
set_option maxRecDepth 100000
namespace Go.Proofs.YtfdhemcahjommaaGreatDoor
open Go Go.RowKit Go.Shelf
open G (Tok Er Ins Fun)
theorem sD {f:Fun} {b k:Nat} (hb:b < f.2.2.2.1.length) (h:(k:Int)∈aF f b):(b:Int)∈bg f k f.2.2.2.1.length:=by
 unfold bg;simp only [List.mem_map,List.mem_filter,List.mem_range];exact⟨b,⟨hb,aZ.2 h⟩,rfl⟩
theorem nI.Fl {V:List Int} {f:Fun} {H:Nat→Nat→Nat→Bool} {p p':Nat→Prop} (h:nI V f H p) (hp:∀b,b < f.2.2.2.1.length→¬p' b→¬p b):nI V f H p':=⟨h.1,h.2.1,fun k hk hn=>h.2.2 k hk (hp k hk hn)⟩
theorem AG (V:List Int) (f:Fun) {H:Nat→Nat→Nat→Bool} (hH:∀k p n,H k p n=false) {p:Nat→Prop} (hp:∀b,b < f.2.2.2.1.length→p b):nI V f H p:=
 ⟨fun k _ n h=>absurd h (by rw [hH];decide),fun k _ n h=>absurd h (by rw [hH];decide),fun k hk hn=>absurd (hp k hk) hn⟩
theorem LkW.fn {f:Fun} {V:List Int} {W lp:Nat} {wB w:World} {q:LkQ} (h:LkW f V W wB lp q w):∃nm pp lps cpp rt lb cb pl po cp,(w.cell? ⟨lp,0,none⟩=some (.string nm)∧w.cell? ⟨lp,1,none⟩=some (.slice pp lps cpp)∧w.cell? ⟨lp,2,none⟩=some (.int .i64 rt)∧w.cell? ⟨lp,3,none⟩=some (.slice lb f.2.2.2.1.length cb)∧w.cell? ⟨lp,4,none⟩=some (.int .i64 pl))∧
  bG w f (.agg #[.string nm,.slice pp lps cpp,.int .i64 rt,.slice lb f.2.2.2.1.length cb,.int .i64 pl])∧∀k,k < f.2.2.2.1.length→∃pb pq lo lc,po=some ⟨pb,pq,none⟩∧∀w',LkW f V W wB lp q w'→w'.cell? ⟨lp,7,none⟩=some (.slice po f.2.2.2.1.length cp)∧w'.cell? ⟨pb,pq+k,none⟩=some (.slice lo (bg f k f.2.2.2.1.length).length lc)∧Sl w' lo (bg f k f.2.2.2.1.length):=by
 obtain⟨G,C,R,CR,J,CJ,⟨gj,cj,gr,cr⟩,⟨nm,pp,lps,cpp,rt,lb,cb,pl⟩,⟨va,cv,so,cs,po,cp⟩⟩:=q;obtain⟨⟨hB,hfv,_,_,hpr,_⟩,⟨_,hlp⟩,_⟩:=h;refine⟨nm,pp,lps,cpp,rt,lb,cb,pl,po,cp,⟨?_,?_,?_,?_,?_⟩,hfv.below hB,fun k hk=> ?_⟩
 all_goals try simp [World.cell?,hlp,lkA]
 obtain⟨pb,pq,lo,lc,e,hpb,hc,hsl⟩:=yh hpr (tq hk);refine⟨pb,pq,e,lo,lc,fun w' hw'=> ?_⟩;obtain⟨⟨hB',_⟩,⟨_,hlp'⟩,_⟩:=hw';exact⟨by simp [hlp',lkA],(hB'.cell (p:=⟨pb,pq+k,none⟩) hpb).trans hc,hsl.below hB'⟩
theorem EK {f:Fun} {V:List Int} {W B lp:Nat} {q:LkQ} {w0 w2:World} {b1 go:Nat} {oc:Array Value} {H:Nat→Nat→Nat→Bool} (hk:Kf (iT f q) w0 w2) (hD:LkD f V W B H q w2) (hb:Boxed w2 b1 58 (.pointer (some ⟨lp,0,none⟩))) (hgo:w2.heap[go]? =some (.cells oc 3 (0,0))):
  StM f V W B lp q w0 b1 (w2.heap.size+1+1) (w2.heap.size+1+1+1) go w2.heap.size (w2.heap.size+1) oc [] 0 0 (fun _=>false) (fun _=>false) H ((((w2.alloc (.map #[] 0)).alloc (.map #[] 0)).alloc (.cells #[.map (some w2.heap.size)] 83)).alloc (.cells #[.map (some (w2.heap.size+1))] 83)):=by
 have c1:=ag w2 (.map #[] 0);have c2:=ag (w2.alloc (.map #[] 0)) (.map #[] 0);have c3:=ag ((w2.alloc (.map #[] 0)).alloc (.map #[] 0)) (.cells #[.map (some w2.heap.size)] 83);have c4:=ag (((w2.alloc (.map #[] 0)).alloc (.map #[] 0)).alloc (.cells #[.map (some w2.heap.size)] 83)) (.cells #[.map (some (w2.heap.size+1))] 83);have m1:=SMap.made w2;have m2:=SMap.made (w2.alloc (.map #[] 0));have x3:=Boxed.new ((w2.alloc (.map #[] 0)).alloc (.map #[] 0)) 83 (.map (some w2.heap.size));have x4:=Boxed.new (((w2.alloc (.map #[] 0)).alloc (.map #[] 0)).alloc (.cells #[.map (some w2.heap.size)] 83)) 83 (.map (some (w2.heap.size+1)));have b12:=af (af (af c1 c2) c3) c4;rw [World.size_alloc] at m2;rw [World.size_alloc,World.size_alloc] at x3;rw [World.size_alloc,World.size_alloc,World.size_alloc] at x4;refine⟨⟨hk.trans (Kf.bC (F:=iT f q) b12) fun _ h=> .inl h,hD.below b12⟩,⟨(b12.block _ hb.lt).trans hb,x3.alloc _,x4,(b12.block _ (Array.getElem?_eq_some_iff.1 hgo).1).trans hgo⟩,⟨(m1.kf (kZ (af (af c2 c3) c4)) fun e=>e),(m2.kf (kZ (af c3 c4)) fun e=>e)⟩,fun D hD=>by cases hD⟩
theorem Gi {f:Fun} {V:List Int} {W B lp:Nat} {q:LkQ} {w0 wr:World} {b1 b3 b4 go mr ma:Nat} {oc:Array Value} {Ds:List Nat} {na:Nat} {sa:Int→Bool} {H:Nat→Nat→Nat→Bool} (hl:LkL f q w0) (hn:StN w0 b1 b3 b4 go mr ma Ds)
  (h:StM f V W B lp q w0 b1 b3 b4 go mr ma oc Ds 0 na (fun _=>false) sa H wr):StM f V W B lp q w0 b1 b3 b4 go ma mr oc Ds na 0 sa (fun _=>false) H ((wr.setCell ⟨b3,0,none⟩ (.map (some ma))).setCell ⟨b4,0,none⟩ (.map (some mr))):=by
 obtain⟨⟨_,n3,n4,_⟩,_,n34,_⟩:=hn;obtain⟨⟨a1,a2⟩,⟨c1,c2,c3,c4⟩,⟨d1,d2⟩,d⟩:=h;have k1:=jK (w:=wr) b3 0 (.map (some ma));have k2:=jK (w:=wr.setCell ⟨b3,0,none⟩ (.map (some ma))) b4 0 (.map (some mr));have k:Kf (fun b=>b=b3∨b=b4) wr ((wr.setCell ⟨b3,0,none⟩ (.map (some ma))).setCell ⟨b4,0,none⟩ (.map (some mr))):=(k1.more (fun _ e=> .inl e)).trans k2 fun _ e=> .inl (.inr e);have hge:∀b,(b=b3∨b=b4)→w0.heap.size≤b:=by rintro b (rfl | rfl) <;> assumption
 have keep:∀(b:Nat) (o:Obj),wr.heap[b]? =some o→(∀v,o≠ .cells #[v] 83 (0,0))→((wr.setCell ⟨b3,0,none⟩ (.map (some ma))).setCell ⟨b4,0,none⟩ (.map (some mr))).heap[b]? =some o:=fun b o ho hne=>(k.2.2.2.2 b (Array.getElem?_eq_some_iff.1 ho).1 (by
  rintro (rfl | rfl)
  ·rw [show wr.heap[b]? =_ from c2] at ho;exact hne _ (Option.some.inj ho).symm
  ·rw [show wr.heap[b]? =_ from c3] at ho;exact hne _ (Option.some.inj ho).symm)).trans ho
 have smk:∀b n s,SMap wr b n s→SMap ((wr.setCell ⟨b3,0,none⟩ (.map (some ma))).setCell ⟨b4,0,none⟩ (.map (some mr))) b n s:=fun b n s hm=>by
  obtain⟨es,cl,he⟩:=hm.isMap;exact hm.same ((keep b _ he (fun v e=>by cases e)).trans he.symm)
 refine⟨⟨a1.trans k fun b hb=> .inr (hge b hb),a2.kf hl k hge⟩,⟨keep b1 _ c1 (fun v e=>by injection e with _ e _;cases e),((Boxed.set (.map (some ma)) c2).other n34 (.map (some mr))),Boxed.set (.map (some mr)) (c3.other n34.symm (.map (some ma))),keep go _ c4 (fun v e=>by injection e with _ e _;cases e)⟩,⟨smk _ _ _ d2,smk _ _ _ d1⟩,fun D hD=>keep D _ (d D hD) (fun v e=>by cases e)⟩
theorem A6 {f:Fun} {V:List Int} {W lp:Nat} {wB w:World} {q:LkQ} {H0:Nat→Nat→Nat→Bool} (hL:LkW f V W wB lp q w) (hD:LkD f V W wB.heap.size H0 q w) (hH0:∀k p n,H0 k p n=false) (hA:LkA f q) (hF:Ful f) (hT:Tos f) (hP:PhF f) (hM:Mod f) (h0:0 < f.2.2.2.1.length)
  (hR:∀k:Nat,k < f.2.2.2.1.length→(k:Int)∈aG f) (hs:V.Pairwise (· < ·)) (hAV:∀k,k < f.2.2.2.1.length→∀x∈ah f k,∀a∈x.2.2.2.2.1,a∈V) (hAl:∀k,k < f.2.2.2.1.length→∀x∈ah f k,x.2.2.2.2.1.length≤1000000) (hWV:V.length≤64 * W) (hW2:W≤1000000):
  CallsIn Fence.wide 5 Tryz.prog 28 #[.pointer (some ⟨lp,0,none⟩)] w fun e w'=>e= .returned (.tuple #[])∧∃Hf,(∀k,k < f.2.2.2.1.length→∀p,p≤(ah f k).length→Hf k p=hU V f k (fH f k p))∧LkD f V W wB.heap.size Hf q w'∧Kf (iT f q) w w':=by
 have h1:1≤5:=by omega
 have hmm:= @run_makeMap Tryz.prog;have hN:=hM.1;have HLt:=ae hD.lt;have HLW:=ae (fun w' (K:Kf (iT f q) w w')=>hL.kf K hD.set);have HG:=ae (fun w' H (K:Kf (iT f q) w w') (hD':LkD f V W wB.heap.size H q w') k (hk:k < f.2.2.2.1.length) (hI:∀b,b < f.2.2.2.1.length→Inn V (H b 0))=>
  zr (HLW.out w' K) hD' hA hT hP hM hk (by
   have:=(hF.2 _ (fq hk)).1
   cases hb:ah f k with
   |nil=>exact absurd hb this
   |cons x l=>simp) hs (hAV k hk) (hAl k hk) hI hWV hW2)
 obtain⟨hon,honum⟩:=qL hT h0;have honl:(aG f).length≤1000000:=by have:=cf _ _ hon honum;omega
 obtain⟨nm,pp,lps,cpp,rt,lb,cb,pl,po,cp,⟨k0,k1,k2,k3,k4⟩,hfv,HPr⟩:=hL.fn;have hlpw:=World.block_lt_of_cell? _ _ k0;have HPr2:=ae HPr;have b1':=ag w (.cells #[.pointer (some ⟨lp,0,none⟩)] 58);have CO:=ae (vD f _ (w.alloc (.cells #[.pointer (some ⟨lp,0,none⟩)] 58)) (hfv.below b1') hF hT h0);replace k0:=(b1'.cell (p:=⟨lp,0,none⟩) hlpw).trans k0;replace k1:=(b1'.cell (p:=⟨lp,1,none⟩) hlpw).trans k1;replace k2:=(b1'.cell (p:=⟨lp,2,none⟩) hlpw).trans k2;replace k3:=(b1'.cell (p:=⟨lp,3,none⟩) hlpw).trans k3;replace k4:=(b1'.cell (p:=⟨lp,4,none⟩) hlpw).trans k4;have hBx:=ae (Boxed.new w 58 (.pointer (some ⟨lp,0,none⟩)));have kB:=(Boxed.new w 58 (.pointer (some ⟨lp,0,none⟩))).cell;have B1:=ae b1';have HD:=ae hD;have HI0:=ae (fun p hp=>AG V f hH0 (p:=p) hp);have HT:=ae hT;have HP:=ae hP;have HRr:=ae hR;have Hon:=ae hon;have H00:=ae h0;have Honum:=ae honum;clear hL hD hH0 hA hF hP hM hs hAV hAl hWV HPr hfv b1' hT hR hon honum h0;refine callsIn_of_wp_marks Tryz.func28 rfl trivial ?_ rfl;simp only [Tryz.ntmps28,List.size_toArray,List.length_cons,List.length_nil,Nat.reduceAdd,Nat.reduceSub,Array.replicate_succ,Array.replicate_zero,List.push_toArray,List.append_toArray,List.nil_append,List.cons_append];refine(wpIn_wide (n:=5)).2 ?_;go_upto_region 1 with fail
 show Code.wp _ _ _ _ (w.alloc (.cells #[.pointer (some ⟨lp,0,none⟩)] 58));generalize w.alloc (.cells #[.pointer (some ⟨lp,0,none⟩)] 58)=W1 at *;go_wp2_with fail
 refine CO.out.mono ?_;rintro e w2 ⟨u,rfl,hrow,b2⟩;have B2:=ae (af B1.out b2);obtain⟨on,hone⟩:∃on,(aG f).length=on:=⟨_,rfl⟩;have Hone:=ae hone;have hon0:0 < on:=by
  rw [←hone];exact List.length_pos_of_mem (HRr.out 0 H00.out)
 obtain⟨oc,hoc⟩:∃oc,∃go cap,u= .slice (some ⟨go,0,none⟩) on cap∧w2.heap[go]? =some (.cells oc 3 (0,0))∧W1.heap.size≤go∧∀j,j < on→oc[j]? =some (.int .i64 ((aG f).getD j 0)):=by
  rw [hone] at hrow;rcases bV hrow with ⟨_,e⟩ | ⟨go,cap,rfl,_,_,hgB,_,hcell,_⟩
  ·omega
  ·obtain⟨oc,hk⟩:=cU hrow (g:=go) rfl;refine⟨oc,go,cap,rfl,hk,hgB,fun j hj=> ?_⟩;have e:=hcell j (.int .i64 ((aG f).getD j 0)) (by
    unfold ints;rw [List.getElem?_map,List.getElem?_eq_getElem (by omega),List.getD_eq_getElem?_getD,List.getElem?_eq_getElem (by omega)];rfl)
   simpa [World.cell?,hk] using e
 obtain⟨go,oc2,rfl,hgo,hgoB,hocv⟩:=hoc;rw [hone] at honl;obtain⟨gv,hgv⟩:∃gv:Nat→Int,∀j,(aG f).getD j 0=gv j:=⟨fun j=>(aG f).getD j 0,fun _=>rfl⟩;have Hgv:=ae hgv;have Hoc:Hid (∀j,j < on→oc[j]? =some (.int .i64 (gv j))):=ae (fun j hj=>by rw [hocv j hj,hgv]);have HBx2:=ae ((b2.block _ hBx.out.lt).trans hBx.out);have hszW1:w.heap.size < W1.heap.size:=hBx.out.lt;have Hgo:=ae hgo;clear hrow b2 hgo hocv hgv hone CO k0 k1 k2 k3 k4 kB hBx;go_wp2_with fail
 have hw2s:=B2.out.size;have S0:=ae (EK (Kf.bC (F:=iT f q) B2.out) (HD.out.below B2.out) HBx2.out Hgo.out);have HN0:Hid (StN w w.heap.size (w2.heap.size+1+1) (w2.heap.size+1+1+1) go w2.heap.size (w2.heap.size+1) []):=ae ⟨⟨by omega,by omega,by omega,by omega,by omega,by omega⟩,by omega,by omega,fun D hD=>(by cases hD),List.nodup_nil⟩;generalize (((w2.alloc (.map #[] 0)).alloc (.map #[] 0)).alloc (.cells #[.map (some w2.heap.size)] 83)).alloc (.cells #[.map (some (w2.heap.size+1))] 83)=W5 at *;obtain⟨mr,hmre⟩:∃n,w2.heap.size=n:=⟨_,rfl⟩;obtain⟨ma,hmae⟩:∃n,mr+1=n:=⟨_,rfl⟩;obtain⟨b3,hb3e⟩:∃n,mr+1+1=n:=⟨_,rfl⟩;obtain⟨b4,hb4e⟩:∃n,mr+1+1+1=n:=⟨_,rfl⟩;rw [hmre] at S0 HN0 ⊢;rw [hb4e,hb3e,hmae] at S0 HN0 ⊢;have HOb:=ae (fun j (hj:j < on)=>by
  have hjl:j < (aG f).length:=by rw [Hone.out];exact hj
  have hm:(aG f).getD j 0∈aG f:=by rw [List.getD_eq_getElem?_getD,List.getElem?_eq_getElem hjl];exact List.getElem_mem hjl
  have:=Honum.out _ hm;rw [Hgv.out] at this hm;exact(⟨(gv j).toNat,by omega,by omega,by rw [Int.toNat_of_nonneg this.1];exact hm⟩:∃M:Nat,gv j=(M:Int)∧M < f.2.2.2.1.length∧(M:Int)∈aG f))
 clear hmre hmae hb3e hb4e HBx2 Hgo HD B1 B2 hgoB hszW1 hw2s;go_loopw [22] (fun iv wr=>∃I:Nat,I≤on∧iv= .int .i64 I∧Hid (StM f V W wB.heap.size lp q w w.heap.size b3 b4 go mr ma oc [] I 0 (fun x=>aA ((aG f).take I) x) (fun _=>false) H0 wr)) (fun iv _=>on - (intOf iv).toNat)
 case atStart=>exact⟨0,Nat.zero_le _,rfl,ae (by rw [List.take_zero];exact S0.out)⟩
 case round=>
  clear S0;obtain⟨I,hI,rfl,HS⟩:=hrel;by_cases hit:I < on
  ·have hiI:(I:Int) < on:=(by omega);have kb3:=HS.out.2.1.2.1.cell;obtain⟨M,hM,hMN,_⟩:=HOb.out I hit;have kgo:wr.cell? ⟨go,I,none⟩=some (.int .i64 (M:Int)):=(by simp [World.cell?,HS.out.2.1.2.2.2,Hoc.out I hit,hM]);obtain⟨w3,hr,hm3,hg3⟩:=HS.out.2.2.1.1.put (by unfold maxLen;omega) (sH (n:=M) (by omega));have hkf:=oL hg3;have S3:Hid (StM f V W wB.heap.size lp q w w.heap.size b3 b4 go mr ma oc [] (I+1) 0 (fun x=>aA ((aG f).take (I+1)) x) (fun _=>false) H0 w3):=ae (by
    have e:(fun x=>decide (x=(M:Int)) || aA ((aG f).take I) x)=fun x=>aA ((aG f).take (I+1)) x:=funext fun x=>by
     have hl:(aG f)[I]? =some (M:Int):=(by rw [←hM,←Hgv.out,List.getD_eq_getElem?_getD,List.getElem?_eq_getElem (by rw [Hone.out];exact hit)];rfl);rw [aV hl];unfold aA;rw [List.any_append,List.any_cons,List.any_nil,Bool.or_false,Bool.or_comm];congr 1
     rw [decide_eq_decide];exact eq_comm
    obtain⟨es,cl,hmap⟩:=HS.out.2.2.1.1.isMap;rw [←e];have hNo:∀(b:Nat) (cs:Array Value) (t:TypeId),wr.heap[b]? =some (.cells cs t (0,0))→¬b=mr:=fun b cs t h e=>by rw [e,hmap] at h;cases h
    refine HS.out.step hkf (HS.out.1.2.kf HLt.out hkf fun b hb=> ?_) (fun b hb=> .inr ?_) (hNo _ _ _ HS.out.2.1.1) (hNo _ _ _ HS.out.2.1.2.1) (hNo _ _ _ HS.out.2.1.2.2.1) (hNo _ _ _ HS.out.2.1.2.2.2) (fun D hD=>by cases hD) hm3 (HS.out.2.2.1.2.kf hkf (fun e=>HN0.out.2.1 e.symm))
    ·rw [hb];exact HN0.out.1.2.2.2.2.1
    ·rw [hb];exact HN0.out.1.2.2.2.2.1)
   clear hm3 hg3 hkf hM;go_wp2_with fail
   go_roundw
   case rel=>exact⟨I+1,by omega,by go_num,S3⟩
   case measure=>simp [intOf];omega
  ·obtain rfl:on=I:=(by omega);have S1:Hid (StM f V W wB.heap.size lp q w w.heap.size b3 b4 go mr ma oc [] on 0 (fun x=>aA (aG f) x) (fun _=>false) H0 wr):=ae (by have:=HS.out;rwa [List.take_of_length_le (by rw [Hone.out];exact Nat.le_refl _)] at this);clear HS hit;go_wp2_with fail
   refine zy (fun m a' w'=>∃(mr ma:Nat) (Ds:List Nat) (nr:Nat) (sr:Int→Bool) (H:Nat→Nat→Nat→Bool) (u5 u6 u7 u8 u9 u10 u11 u12 u13 u14 u15 u16 u17 u18 u19 u20 u21 u22 u23 u24 u25 u26 u27 u28 u29 u30 u31 u32 u33 u34 u35 u36 u37 u38 u39 u40 u41 u42 u43 u44 u45 u46 u47 u48 u49 u50 u51 u52 u53 u54 u55 u56 u57 u58 u59 u60 u61 u62 u63 u64 u65 u66 u67:Value),(Hid (StM f V W wB.heap.size lp q w w.heap.size b3 b4 go mr ma oc Ds nr 0 sr (fun _=>false) H w')∧Hid (StN w w.heap.size b3 b4 go mr ma Ds)∧Hid (nI V f H (fun b=>sr b=true))∧nr≤1000000000000∧2 * muS V f H+(if nr=0 then 0 else 1)≤m)∧
    a'= {tmps:=(.pointer (some ⟨lp,0,none⟩) :: .pointer (some ⟨w.heap.size,0,none⟩) :: .slice (some ⟨go,0,none⟩) on oc2 :: .pointer (some ⟨b3,0,none⟩) :: .pointer (some ⟨b4,0,none⟩) :: u5 :: u6 :: u7 :: u8 :: u9 :: u10 :: u11 :: u12 :: u13 :: u14 :: u15 :: u16 :: u17 :: u18 :: u19 :: u20 :: u21 :: u22 :: u23 :: u24 :: u25 :: u26 :: u27 :: u28 :: u29 :: u30 :: u31 :: u32 :: u33 :: u34 :: u35 :: u36 :: u37 :: u38 :: u39 :: u40 :: u41 :: u42 :: u43 :: u44 :: u45 :: u46 :: u47 :: u48 :: u49 :: u50 :: u51 :: u52 :: u53 :: u54 :: u55 :: u56 :: u57 :: u58 :: u59 :: u60 :: u61 :: u62 :: u63 :: u64 :: u65 :: u66 :: u67 :: []).toArray,defers:=Ds.map dfr}) (m0:=2 * muS V f H0+1) ?start ?round
   case start=>
    refine⟨mr,ma,[],on,_,H0,_,_,_,_,_,_,_,_,_,_,_,_,_,_,_,_,_,_,_,_,_,_,_,_,_,_,_,_,_,_,_,_,_,_,_,_,_,_,_,_,_,_,_,_,_,_,_,_,_,_,_,_,_,_,_,_,_,_,_,_,_,_,_,⟨S1,HN0,ae (HI0.out _ fun b hb=>aZ.2 (HRr.out b hb)),by omega,?_⟩,rfl⟩;split <;> omega
   case round=>
    clear S1 HN0 HI0;rintro m a' wr ⟨mr,ma,Ds,nr,sr,H,u5,u6,u7,u8,u9,u10,u11,u12,u13,u14,u15,u16,u17,u18,u19,u20,u21,u22,u23,u24,u25,u26,u27,u28,u29,u30,u31,u32,u33,u34,u35,u36,u37,u38,u39,u40,u41,u42,u43,u44,u45,u46,u47,u48,u49,u50,u51,u52,u53,u54,u55,u56,u57,u58,u59,u60,u61,u62,u63,u64,u65,u66,u67,⟨HS,HN,HInv,hnr,hm⟩,rfl⟩;obtain⟨c,hlen,hcn,hc0⟩:=HS.out.2.2.1.1.len;have kb3:=HS.out.2.1.2.1.cell;by_cases hc:c=0
    ·subst hc;have HInv0:nI V f H (fun _=>False):=HInv.out.Fl (fun b hb _ h=>by rw [hc0 rfl b (sH (by omega))] at h;cases h);go_wp2_with fail
     exact pI (v:= .tuple #[]) w.heap.size (fun w'=>results_none rfl _ _ _) Ds wr HN.out.2.2.2.2 (fun D hD=>⟨HN.out.2.2.2.1 D hD,HS.out.2.2.2 D hD⟩) (fun w' k=>⟨rfl,H,fun k hk p hp=>ET HT.out HP.out HInv0 hk hp,HS.out.1.2.kf HLt.out k (fun b hb=>hb),HS.out.1.1.trans k (fun b hb=> .inr hb)⟩)
    ·have hcI:(0:Int) < c:=(by omega);have hnr0:nr≠0:=(by omega);rw [if_neg hnr0] at hm;have HC:=ae (callsIn_wide.1 (Jp Fence.wide 5 trivial rfl (some ⟨go,0,none⟩) on oc2 wr));go_wp2_with fail
     refine HC.out.mono ?_;rintro e w1 ⟨rfl,hw1⟩;have HBs:=Boxed.new wr 25 (.slice (some ⟨go,0,none⟩) on oc2);have bb:=ag wr (.cells #[.slice (some ⟨go,0,none⟩) on oc2] 25);rw [←hw1] at HBs bb;have hs1:wr.heap.size < w1.heap.size:=HBs.lt;obtain⟨l0,lb1,lb3,lb4,lgo,lDs,lmr,lma⟩:=(HS.out.below bb).lts;have lmaB:=HS.out.lts.2.2.2.2.2.2.2;have lgoB:=HS.out.lts.2.2.2.2.1;have hw0:=HS.out.lts.1;have S1:=ae (HS.out.below bb);have HLn:=ae Hone.out;clear hw1 HC kb3 hlen hcn hc0 bb HS;obtain⟨Bs,hBse⟩:∃Bs,wr.heap.size=Bs:=⟨_,rfl⟩;rw [hBse] at HBs hs1 lmaB lgoB hw0;go_wp2_with fail
     clear hBse;rw [←Hone.out] at HBs;refine(wpIn_wide (n:=5)).1 ?_;refine wpIn_rangeFunc_ownG rfl h1 (gf:=70) (lb:= #[.pointer (some ⟨Bs,0,none⟩)]) rfl trivial (enters_of Tryz.func70 (by kernel_rfl) rfl)
      (AK Fence.wide 4 trivial rfl (by omega) (aG f) (by rw [Hone.out];exact honl) Bs go 0 oc2 w1 lgo HBs (fun j hj=>by
       have e:=Hoc.out j (by rw [←Hone.out];exact hj);rw [Nat.zero_add,Hgv.out];simp [World.cell?,S1.out.2.1.2.2.2,e]))
      KpO.trans (KT lgo hs1) (Below.refl _ _) (fun _=>rfl)
      (RgI f V W wB.heap.size lp q w w.heap.size b3 b4 go mr ma oc Ds nr sr (muS V f H) w1.heap.size (aG f)) (fun _ _ _=>False) (RgI.own HLt.out l0 lb1 lb3 lb4 lgo lDs lmr lma) (fun _ _ _ _ _ hs _ _=>hs) ?begin
      (fun x=>{tmps:=(.pointer (some ⟨lp,0,none⟩) :: .pointer (some ⟨w.heap.size,0,none⟩) :: .slice (some ⟨go,0,none⟩) on oc2 :: .pointer (some ⟨b3,0,none⟩) :: .pointer (some ⟨b4,0,none⟩) :: u5 :: u6 :: u7 :: .int .i64 (gv x.1) :: u9 :: u10 :: u11 :: u12 :: u13 :: u14 :: u15 :: u16 :: u17 :: u18 :: u19 :: u20 :: u21 :: u22 :: u23 :: u24 :: u25 :: u26 :: u27 :: u28 :: u29 :: .map (some mr) :: .int .i64 (c:Int) :: .bool true :: .slice (some ⟨go,0,none⟩) on oc2 :: .func (.func 70) #[] #[.pointer (some ⟨Bs,0,none⟩)] :: .int .i64 ((x.1:Nat):Int) :: .int .i64 (gv x.1) :: u37 :: u38 :: u39 :: u40 :: u41 :: u42 :: u43 :: u44 :: u45 :: u46 :: u47 :: u48 :: u49 :: u50 :: u51 :: u52 :: u53 :: u54 :: u55 :: u56 :: u57 :: u58 :: u59 :: u60 :: u61 :: u62 :: u63 :: u64 :: u65 :: u66 :: u67 :: []).toArray,defers:= []}) ?assign ?body ?done ?stop
     case begin=>
      exact⟨Nat.le_refl _,H,0,fun _=>false,S1.out,HInv.out.Fl (fun b _ hn h=>hn (.inl ⟨h,fun x hx=>by cases hx⟩)),Nat.zero_le _,.inl ⟨rfl,Nat.le_refl _⟩⟩
     case assign=>
      intro l x X K hK;have hsem:=Oper.semAt_some l;dsimp only [Bk]
      rw [Hgv.out];gi_wp2
      exact hK
     case body=>
      rintro l pre x X ⟨hXL,H',na,sa,hSt,hInv,hna,hmu⟩ hlt;have hsem:=Oper.semAt_some l;obtain⟨M,hM,hMN,hMo⟩:=HOb.out x.1 (by rw [←Hone.out];exact x.2);have hwf:=sH (n:=M) (by omega);have kb3:=hSt.2.1.2.1.cell;have hlk:=hSt.2.2.1.1.look hwf;obtain⟨X0,g1,g3,g4,ggo,gDs,gmr,gma⟩:=hSt.lts;have bX:=ag X (.cells #[] 84);have S2:=ae (hSt.below bX);have KF1:Hid (KeepsFrom w1.heap.size X (X.alloc (.cells #[] 84))):=ae ((KeepsOthers.alloc _ _).from _);have KO1:Hid (KpO go Bs X (X.alloc (.cells #[] 84))):=ae (vW (kZ bX) ggo (by omega) (fun e=>e) (fun e=>e));have hsz1:w1.heap.size≤(X.alloc (.cells #[] 84)).heap.size:=Nat.le_trans hXL bX.size;have HIn:=ae hInv;have HMu:=ae hmu;have hnp:na≤1000000000000:=(by have:=Nat.mul_le_mul_right 1000000 (show pre.length≤1000000 by rw [←Hone.out] at honl;omega);omega);have hnp1:na+1000000≤(pre ++ [x]).length * 1000000:=(by rw [List.length_append,List.length_singleton,Nat.add_mul];omega);have HPn:Hid (∀(s:Int→Bool) b,¬zP sr s (aG f) (pre ++ [x]) b→¬(b=M)→(∀y,sa y=true→s y=true)→¬zP sr sa (aG f) pre b):=ae (fun s b hn hbM hs hp=>hn (by
       rcases hp with ⟨p1,p2⟩ | p
       ·refine .inl ⟨p1,fun y hy=> ?_⟩;rcases List.mem_append.1 hy with hy | hy
        ·exact p2 y hy
        ·rw [List.mem_singleton.1 hy,Hgv.out,hM];omega
       ·exact .inr (hs _ p)))
      rw [hM];clear hInv hmu bX;by_cases hin:sr M=true
      ·rw [hin] at hlk;have CG:=ae (HG.out (X.alloc (.cells #[] 84)) H' S2.out.1.1 S2.out.1.2 M hMN (fun b hb=>Gq HIn.out hb));have kb1:=S2.out.2.1.1.cell;have ho:∀b,b≠M→gm V f H' M (fun _=>true) b=H' b:=fun b hb=>funext fun p=>if_neg (fun e=>hb e.1);have hStp:=ae (fun(pend':Nat→Prop) (hp:∀b,b < f.2.2.2.1.length→¬pend' b→(b=M∨¬zP sr sa (aG f) pre b)∧(gm V f H' M (fun _=>true) M 0=H' M 0∨(M:Int) ∉ aF f b))=>Ev HT.out HP.out HIn.out hMN ho (fun p _=>pa rfl) hp);have HE0:Hid (gm V f H' M (fun _=>true) M 0=fS V f (fun b=>H' b 0) M 0):=ae (pa rfl);obtain⟨pb,pq,lo,lc,rfl,hPr⟩:=HPr2.out M hMN;have kpl:(bg f M f.2.2.2.1.length).length≤1000000:=Nat.le_trans (kT _ _ _) hN;have HPd:=ae (fun i (hi:i < (bg f M f.2.2.2.1.length).length)=>by
        have hm:(bg f M f.2.2.2.1.length).getD i 0∈bg f M f.2.2.2.1.length:=(by rw [List.getD_eq_getElem?_getD,List.getElem?_eq_getElem hi];exact List.getElem_mem hi);have:=xK f M f.2.2.2.1.length _ hm;exact(⟨((bg f M f.2.2.2.1.length).getD i 0).toNat,by omega,by omega⟩:∃P:Nat,(bg f M f.2.2.2.1.length).getD i 0=(P:Int)∧P < f.2.2.2.1.length))
       have HNx:=ae (fun b (hb:b < f.2.2.2.1.length) (h:(M:Int)∈aF f b)=>sD hb h);generalize gm V f H' M (fun _=>true)=H2 at *;obtain⟨ps,hps⟩:∃ps,bg f M f.2.2.2.1.length=ps:=⟨_,rfl⟩;rw [hps] at hPr kpl HPd HNx;have HPm:=ae hPr;have HSl:=ae (fun w' (K:Kf (iT f q) w w')=>(hPr w' (HLW.out w' K)).2.2);obtain⟨pl,hpl⟩:∃pl,ps.length=pl:=⟨_,rfl⟩;have Hpl:=ae hpl;have CG2:Hid (Calls Tryz.prog 49 #[.pointer (some ⟨lp,0,none⟩),.int .i64 M] (X.alloc (.cells #[] 84)) fun e X2=>∃r:Bool,e= .returned (.bool r)∧X2.cell? ⟨w.heap.size,0,none⟩=some (.pointer (some ⟨lp,0,none⟩))∧X2.cell? ⟨lp,7,none⟩=some (.slice (some ⟨pb,pq,none⟩) f.2.2.2.1.length cp)∧X2.cell? ⟨pb,pq+M,none⟩=some (.slice lo pl lc)∧
         Hid (r=false→fS V f (fun b=>H' b 0) M 0=H' M 0)∧Hid (r=true→fS V f (fun b=>H' b 0) M 0≠H' M 0)∧Hid (StM f V W wB.heap.size lp q w w.heap.size b3 b4 go mr ma oc Ds nr na sr sa H2 X2)∧Hid (KeepsFrom w1.heap.size X X2)∧Hid (KpO go Bs X X2)∧w1.heap.size≤X2.heap.size):=ae (CG.out.mono (by
        rintro e X2 ⟨r,rfl,q1,q2,q3,q4⟩;have hno:∀b,w.heap.size≤b→¬iT f q b:=fun b hb h=>by have:=Ez HLt.out h;omega
        have hn1:=HN.out.1;have St:=S2.out.step q4 q3 (fun b hb=> .inl hb) (hno _ (Nat.le_refl _)) (hno _ hn1.2.1) (hno _ hn1.2.2.1) (hno _ hn1.2.2.2.1) (fun D hD=>hno _ (HN.out.2.2.2.1 D hD)) (S2.out.2.2.1.1.kf q4 (hno _ hn1.2.2.2.2.1)) (S2.out.2.2.1.2.kf q4 (hno _ hn1.2.2.2.2.2));have hPx:=hPr X2 (HLW.out X2 St.1.1);rw [hpl] at hPx;exact⟨r,rfl,St.2.1.1.cell,hPx.1,hPx.2.1,ae q1,ae q2,ae St,ae (KF1.out.trans (BS q4 fun b hb=>by have:=Ez HLt.out hb;omega)),
         ae (KO1.out.trans (vW q4 (by have:=(S2.out.lts).2.2.2.2.1;exact this) (by omega) (hno _ hn1.2.2.2.1) (hno _ (by omega)))),Nat.le_trans hsz1 q4.2.2.2.1⟩))
       rw [hpl] at kpl HPd;clear hPr hSt ho CG hpl hps;gi_wp2_with (refine⟨trivial,?_⟩;gi_at_call 49;refine(CallsIn.inRound l (callsIn_wide.2 CG2.out)).mono ?_;rintro e X2 ⟨r,rfl,kk1,kk2,kk3,Q1,Q2,S3,KF3,KO3,hsz3⟩)
       ·have hrt:r=true:=(by assumption);gi_loopw [57] (fun iv X'=>∃I:Nat,I≤pl∧iv= .int .i64 I∧Hid (StM f V W wB.heap.size lp q w w.heap.size b3 b4 go mr ma oc Ds nr (na+I) sr (fun y=>aA (ps.take I) y || sa y) H2 X')∧Hid (KeepsFrom w1.heap.size X X')∧Hid (KpO go Bs X X')∧w1.heap.size≤X'.heap.size) (fun iv _=>pl - (intOf iv).toNat)
        case atStart=>exact⟨0,Nat.zero_le _,rfl,ae (by rw [List.take_zero];exact S3.out),KF3,KO3,hsz3⟩
        case round=>
         clear S3 KF3 KO3 hsz3 kk1 kk2 kk3;obtain⟨I,hI,rfl,HS,HKF,HKO,hsz⟩:=hrel;by_cases hit:I < pl
         ·have hiI:(I:Int) < pl:=(by omega);obtain⟨P,hP,hPN⟩:=HPd.out I hit;obtain⟨y0,o0,rfl,cI⟩:=cX (HSl.out _ HS.out.1.1) (i:=I) (by rw [Hpl.out];exact hit);rw [hP] at cI;have kb4:=HS.out.2.1.2.2.1.cell;obtain⟨X3,hr,hm3,hg3⟩:=HS.out.2.2.1.2.put (by unfold maxLen;omega) (sH (n:=P) (by omega));have hkf:=oL hg3;obtain⟨es,cl,hmap⟩:=HS.out.2.2.1.2.isMap;have hNo:∀(b:Nat) (cs:Array Value) (t:TypeId),wr.heap[b]? =some (.cells cs t (0,0))→¬b=ma:=fun b cs t h e=>by rw [e,hmap] at h;cases h
          have hn1:=HN.out.1;have S5:Hid (StM f V W wB.heap.size lp q w w.heap.size b3 b4 go mr ma oc Ds nr (na+(I+1)) sr (fun y=>aA (ps.take (I+1)) y || sa y) H2 X3):=ae (by
           have e:(fun y=>decide (y=(P:Int)) || (aA (ps.take I) y || sa y))=fun y=>aA (ps.take (I+1)) y || sa y:=funext fun y=>by
            have hl:ps[I]? =some (P:Int):=(by rw [←hP,List.getD_eq_getElem?_getD,List.getElem?_eq_getElem (by rw [Hpl.out];exact hit)];rfl);rw [aV hl];unfold aA;rw [List.any_append,List.any_cons,List.any_nil,Bool.or_false,←Bool.or_assoc];congr 1
            rw [Bool.or_comm];congr 1
            rw [decide_eq_decide];exact eq_comm
           rw [←e,←Nat.add_assoc];exact HS.out.step hkf (HS.out.1.2.kf HLt.out hkf fun b hb=>by rw [hb];exact hn1.2.2.2.2.2) (fun b hb=> .inr (by rw [hb];exact hn1.2.2.2.2.2)) (hNo _ _ _ HS.out.2.1.1) (hNo _ _ _ HS.out.2.1.2.1) (hNo _ _ _ HS.out.2.1.2.2.1) (hNo _ _ _ HS.out.2.1.2.2.2)
            (fun D' hD' e=>by have:=HS.out.2.2.2 D' hD';rw [e,hmap] at this;cases this) (HS.out.2.2.1.1.kf hkf (fun e=>HN.out.2.1 e)) hm3)
          have KF5:Hid (KeepsFrom w1.heap.size X X3):=ae (HKF.out.trans (KeepsFrom.of_grownBy hg3 (fun j e=>by cases e;exact lma)));have KO5:Hid (KpO go Bs X X3):=ae (HKO.out.trans (vW hkf (by omega) (by omega) (hNo _ _ _ HS.out.2.1.2.2.2) (by omega)));have hsz5:=Nat.le_trans hsz hg3.size;clear hm3 hg3 hkf hmap hNo hP HKF HKO hn1;gi_wp2
          go_roundw
          case rel=>exact⟨I+1,by omega,by go_num,S5,KF5,KO5,hsz5⟩
          case measure=>simp [intOf];omega
         ·obtain rfl:pl=I:=(by omega);have hfull:ps.take pl=ps:=List.take_of_length_le (by rw [Hpl.out];exact Nat.le_refl _);have hst:=hStp.out (zP sr (fun y=>aA (ps.take pl) y || sa y) (aG f) (pre ++ [x])) (fun b hb hn=>by
           refine⟨?_,.inr fun h=>hn (.inr (by show(aA (ps.take pl) (b:Int) || sa b)=true;rw [hfull,aZ.2 (HNx.out b hb h),Bool.true_or]))⟩;by_cases e:b=M
           ·exact .inl e
           ·exact .inr (HPn.out _ b hn e fun y hy=>by rw [hy,Bool.or_true]))
          have hlt2:muS V f H2 < muS V f H':=Kc hst.2 hMN (by rw [HE0.out];exact yF _ _ _ _ _) (by rw [HE0.out];exact Q2.out hrt);have hmu2:(na+pl=0∧muS V f H2≤muS V f H)∨muS V f H2 < muS V f H:= .inr (by rcases HMu.out with q | q <;> omega);have HFin:=ae hst.1;have HMu2:=ae hmu2;have hbd:na+pl≤(pre ++ [x]).length * 1000000:=Nat.le_trans (by omega) hnp1;clear hst hlt2 hmu2 hit hfull;gi_wp2
          exact⟨HKF.out,HKO.out,hsz,H2,na+pl,_,HS.out,HFin.out,hbd,HMu2.out⟩
       ·have hrf:r=false:=(by assumption);have hst:=hStp.out (zP sr sa (aG f) (pre ++ [x])) (fun b hb hn=>by
         refine⟨?_,.inl (HE0.out.trans (Q1.out hrf))⟩;by_cases e:b=M
         ·exact .inl e
         ·exact .inr (HPn.out _ b hn e fun y hy=>hy))
        have hle:=Ka (V:=V) hst.2;exact⟨KF3.out,KO3.out,hsz3,H2,na,sa,S3.out,hst.1,Nat.le_trans (Nat.le_add_right _ _) hnp1,by rcases HMu.out with ⟨q1,q2⟩ | q;exact .inl ⟨q1,Nat.le_trans hle q2⟩;exact .inr (Nat.lt_of_le_of_lt hle q)⟩
      ·have hin':sr M=false:=(by simpa using hin);rw [hin'] at hlk;gi_wp2
       refine⟨trivial,?_⟩;gi_wp2
       refine⟨KF1.out,KO1.out,hsz1,H',na,sa,S2.out,HIn.out.Fl fun b hb hn hp=> ?_,Nat.le_trans (Nat.le_add_right _ _) hnp1,HMu.out⟩;by_cases e:b=M
       ·subst e;rcases hp with ⟨p1,_⟩ | p
        ·exact hin p1
        ·exact hn (.inr p)
       ·exact HPn.out sa b hn e (fun _ h=>h) hp
     case done=>
      rintro D ys X hDs hS ⟨_,H',na,sa,hSt,hInv,hna,hmu⟩ hK;have hSt2:StM f V W wB.heap.size lp q w w.heap.size b3 b4 go mr ma oc (D :: Ds) nr na sr sa H' X:=⟨hSt.1,hSt.2.1,hSt.2.2.1,fun D' hD'=>by
       rcases List.mem_cons.1 hD' with rfl | hD'
       ·exact hK
       ·exact hSt.2.2.2 D' hD'⟩
      have HN2:Hid (StN w w.heap.size b3 b4 go mr ma (D :: Ds)):=ae ⟨HN.out.1,HN.out.2.1,HN.out.2.2.1,fun D' hD'=>by
       rcases List.mem_cons.1 hD' with rfl | hD'
       ·omega
       ·exact HN.out.2.2.2.1 D' hD',List.nodup_cons.2 ⟨fun hD'=>by have:=lDs D hD';omega,HN.out.2.2.2.2⟩⟩
      obtain⟨w3,hcl,hm3,hg3⟩:=hSt.2.2.1.1.clear;have hkf:=oL hg3;obtain⟨es,cl,hmap⟩:=hSt.2.2.1.1.isMap;have hNo:∀(b:Nat) (cs:Array Value) (t:TypeId),X.heap[b]? =some (.cells cs t (0,0))→¬b=mr:=fun b cs t h e=>by rw [e,hmap] at h;cases h
      have S3:=ae (hSt2.step hkf (hSt.1.2.kf HLt.out hkf fun b hb=>by rw [hb];exact HN.out.1.2.2.2.2.1) (fun b hb=> .inr (by rw [hb];exact HN.out.1.2.2.2.2.1)) (hNo _ _ _ hSt.2.1.1) (hNo _ _ _ hSt.2.1.2.1) (hNo _ _ _ hSt.2.1.2.2.1) (hNo _ _ _ hSt.2.1.2.2.2)
       (fun D' hD' e=>by have:=hSt2.2.2.2 D' hD';rw [e,hmap] at this;cases this) hm3 (hSt.2.2.1.2.kf hkf (fun e=>HN.out.2.1 e.symm)))
      have S4:=ae (Gi HLt.out HN2.out S3.out);have kb3:=hSt.2.1.2.1.cell;have kc3:=S3.out.2.1.2.1.cell;have kc4:=S3.out.2.1.2.2.1.cell;have kf3:=S3.out.2.1.2.1.frozen;have kf4:=S3.out.2.1.2.2.1.frozen;have kd4:=(S3.out.2.1.2.2.1.other HN2.out.2.2.1.symm (.map (some ma))).cell;have ke4:=(S3.out.2.1.2.2.1.other HN2.out.2.2.1.symm (.map (some ma))).frozen;have HIn:=ae hInv;have HMu:=ae hmu;have hyl:ys.length=(aG f).length:=(by have:=congrArg List.length hS;simpa using this);have hna2:na≤1000000000000:=(by rw [hyl,Hone.out] at hna;have:=Nat.mul_le_mul_right 1000000 honl;omega);have HS':=ae hS;clear hSt hSt2 hInv hmu hna hm3 hg3 hkf hmap hNo hyl hS;go_wp2_with fail
      refine⟨2 * muS V f H'+(if na=0 then 0 else 1),?_,ma,mr,D :: Ds,na,sa,H',_,_,_,_,_,_,_,_,_,_,_,_,_,_,_,_,_,_,_,_,_,_,_,_,_,_,_,_,_,_,_,_,_,_,_,_,_,_,_,_,_,_,_,_,_,_,_,_,_,_,_,_,_,_,_,_,_,_,_,_,_,_,_,⟨S4,ae ⟨⟨HN2.out.1.1,HN2.out.1.2.1,HN2.out.1.2.2.1,HN2.out.1.2.2.2.1,HN2.out.1.2.2.2.2.2,HN2.out.1.2.2.2.2.1⟩,HN2.out.2.1.symm,HN2.out.2.2⟩,ae (HIn.out.Fl fun b hb hnot hp=> ?_),hna2,Nat.le_refl _⟩,rfl⟩
      ·rcases HMu.out with ⟨q1,q2⟩ | q
       ·rw [if_pos q1];omega
       ·split <;> omega
      ·rcases hp with ⟨_,hall⟩ | h
       ·obtain⟨j,hj,e⟩:=List.mem_iff_getElem.1 (HRr.out b hb);have hjm:j∈ys.map (·.1):=(by rw [HS'.out];exact List.mem_reverse.2 (List.mem_range.2 hj));obtain⟨y,hy,hye⟩:=List.mem_map.1 hjm;refine hall y hy ?_;rw [hye,List.getD_eq_getElem?_getD,List.getElem?_eq_getElem hj];exact e
       ·exact hnot h
     case stop=>
      rintro D c pre W _ _ h _;exact h.elim
open Go Go.RowKit
theorem DQ {P:Program} {c:Code} {Q:Exit→Act→World→Prop} {a:Act} {w:World} {A:Value→Act} (R:Value→World→Prop) (hr:∀(K:Act→World→Prop),(∀x W,R x W→K (A x) W)→c.wp P (Exit.then K (fun _ _ _=>False)) a w) (h:∀x W,R x W→Q .normal (A x) W):c.wp P Q a w:=
 Code.wp_mono (fun e a w q=>by
  unfold Exit.then at q;split at q
  ·obtain⟨x,rfl,q⟩:=q;exact h _ _ q
  ·exact q.elim) (hr (fun a' w'=>∃x,a'=A x∧R x w') fun x _ h=>⟨x,rfl,h⟩)
theorem EJ {ops:Array Oper} {o:Oper} {a:Act} {w:World} {K:Act→World→Prop} {Q:Exit→Act→World→Prop} {E:Prop} (hgd:o.guard=none) (x y:Operand) (t:Array TypeId)
  (ho:o.op= .call {callee:= .value (.func 50),args:= #[x,y],argTypes:=t}) (vx vy:Value) (R:Value→World→Prop) (hx:a.eval x=vx) (hy:a.eval y=vy) (h:Calls Tryz.prog 50 #[vx,vy] w fun e w'=>∃u,e= .returned u∧R u w') (hk:∀u w',R u w'→K (a.put o.dst u) w'):if Region.wanted o (yielded ops a.tmps)=true then Oper.wp Tryz.prog o a w K Q else E:=by
 have hw:Region.wanted o (yielded ops a.tmps)=true:=by simp [Region.wanted,hgd]
 rw [if_pos hw];have hr:(execOp a.eval o).run Tryz.prog w= .ok (.enter 50 #[vx,vy]) w:=by
  subst hx hy;simp [execOp,ho,go_sem]
 unfold Oper.wp;rw [hr];exact h.mono fun e w' ⟨u,he,hk2⟩=>by subst he;exact hk _ _ hk2
def eL (f:Fun) (b:Nat) (w:World):Prop:=∃(B W:Nat) (G C:Nat→Nat→Nat) (R CR:Nat→Nat) (gr cr:Nat) (va:Option Addr) (cv:Nat),
 w.heap[b]? =some (.cells #[.slice va (aS f).length cv,.slice (some ⟨gr,0,none⟩) f.2.2.2.1.length cr] 66 (0,0))∧Sl w va (aS f)∧kQ w∧(W≤100000∧(aS f).length≤64 * W)∧
 w.ownsRow B 61 1 (.slice (some ⟨gr,0,none⟩) f.2.2.2.1.length cr) f.2.2.2.1.length ((List.range f.2.2.2.1.length).map fun k=> .slice (some ⟨R k,0,none⟩) ((ah f k).length+1) (CR k))∧
 (∀k,k < f.2.2.2.1.length→w.ownsRow B 72 1 (.slice (some ⟨R k,0,none⟩) ((ah f k).length+1) (CR k)) ((ah f k).length+1) ((List.range ((ah f k).length+1)).map fun p=>gG (G k p) (C k p) W))∧
 ∀k,k < f.2.2.2.1.length→∀p,p≤(ah f k).length→aP w B (G k p) (C k p) W (hU (aS f) f k (fH f k p))
theorem eL.below {f:Fun} {b:Nat} {w w':World} (h:eL f b w) (k:Below w.heap.size w w'):eL f b w':=by
 obtain⟨B,W,G,C,R,CR,gr,cr,va,cv,h1,h2,h3,h4,h5,h6,h7⟩:=h;exact⟨B,W,G,C,R,CR,gr,cr,va,cv,(k.block b (Array.getElem?_eq_some_iff.1 h1).1).trans h1,h2.below k,h3.below k,h4,aB k _ _ _ _ _ _ h5,fun i hi=>aB k _ _ _ _ _ _ (h6 i hi),fun i hi p hp=>(h7 i hi p hp).below k⟩
theorem nC (V:List Int) (P:Int→Bool) (m:Nat):V.length≤m→dE V (fun n=>decide (n < V.length) && P (V.getD n 0)) m=V.filter P:=by
 intro hm;obtain⟨d,rfl⟩:∃d,m=V.length+d:=⟨m - V.length,by omega⟩;rw [jg d fun i h1 _=>by rw [decide_eq_false (by omega)];rfl];have key:∀n,n≤V.length→dE V (fun n=>decide (n < V.length) && P (V.getD n 0)) n=(V.take n).filter P:=by
  intro n;induction n with
  |zero=>intro _;simp [dE]
  |succ n ih=>
   intro h;have hn:V[n]? =some (V.getD n 0):=(by rw [List.getD_eq_getElem?_getD,List.getElem?_eq_getElem (by omega)];rfl);rw [kV,ih (by omega),aV hn,List.filter_append,decide_eq_true (by omega:n < V.length),Bool.true_and];congr 1
   generalize V.getD n 0=y
   cases h:P y <;> simp [h]
 rw [key _ (Nat.le_refl _),List.take_of_length_le (Nat.le_refl _)]
theorem LkD.Md {f:Fun} {V:List Int} {W B:Nat} {H:Nat→Nat→Nat→Bool} {q:LkQ} {w:World} (h:LkD f V W B H q w):lE B w (iT f q):=by
 rintro b ⟨k,p,hk,hp,rfl⟩ _;obtain⟨cs,hc⟩:=(h.1 k hk p hp).kind;exact⟨(h.1 k hk p hp).lt.1,sC hc⟩
theorem LkW.live {f:Fun} {W lp:Nat} {wB w:World} {q:LkQ} {H:Nat→Nat→Nat→Bool} (hL:LkW f (aS f) W wB lp q w) (hD:LkD f (aS f) W wB.heap.size H q w) (hH:∀k,k < f.2.2.2.1.length→∀p,p≤(ah f k).length→H k p=hU (aS f) f k (fH f k p)) (hT:kQ w) (h1:W≤100000) (h2:(aS f).length≤64 * W):
  ∃va cv gr cr,w.cell? ⟨lp,5,none⟩=some (.slice va (aS f).length cv)∧w.cell? ⟨lp,9,none⟩=some (.slice (some ⟨gr,0,none⟩) f.2.2.2.1.length cr)∧eL f w.heap.size (w.alloc (.cells #[.slice va (aS f).length cv,.slice (some ⟨gr,0,none⟩) f.2.2.2.1.length cr] 66)):=by
 have hv:=hL.val;obtain⟨G,C,R,CR,J,CJ,⟨gj,cj,gr,cr⟩,⟨nm,pp,lps,cpp,rt,lb,cb,pl⟩,⟨va,cv,so,cs,po,cp⟩⟩:=q;obtain⟨_,⟨_,hlp⟩,_,hr,hR⟩:=hL;have b:=ag w (.cells #[.slice va (aS f).length cv,.slice (some ⟨gr,0,none⟩) f.2.2.2.1.length cr] 66);exact⟨va,cv,gr,cr,(jS hlp).2.1,(jS hlp).2.2.2.2.2,wB.heap.size,W,G,C,R,CR,gr,cr,va,cv,heap_alloc_new w _,hv.2.1.below b,hT.below b,⟨h1,h2⟩,aB b _ _ _ _ _ _ hr,fun k hk=>aB b _ _ _ _ _ _ (hR k hk),fun k hk p hp=>by rw [←hH k hk p hp];exact(hD.1 k hk p hp).below b⟩
def Lo (f:Fun) (b k:Nat) (w:World) (e:Ending) (w':World):Prop:=w'=w∧∃r cr,e= .returned (.slice (some ⟨r,0,none⟩) ((ah f k).length+1) cr)∧∃B W va cv,(w.cell? ⟨b,0,none⟩=some (.slice va (aS f).length cv)∧Sl w va (aS f)∧kQ w∧W≤100000∧(aS f).length≤64 * W)∧
 ∀p,p≤(ah f k).length→∃g c,w.cell? ⟨r,p,none⟩=some (.slice (some ⟨g,0,none⟩) W c)∧aP w B g c W (hU (aS f) f k (fH f k p))
theorem qB {f:Fun} {b k:Nat} {w:World} (h:eL f b w) (hk:k < f.2.2.2.1.length):
  Calls Tryz.prog 30 #[.pointer (some ⟨b,0,none⟩),.int .i64 k] w (Lo f b k w):=by
 obtain⟨B,W,G,C,R,CR,gr,cr,va,cv,h1,h2,h3,h4,h5,h6,h7⟩:=h;have c1:w.cell? ⟨b,1,none⟩=some (.slice (some ⟨gr,0,none⟩) f.2.2.2.1.length cr):=by simp [World.cell?,h1]
 have c0:w.cell? ⟨b,0,none⟩=some (.slice va (aS f).length cv):=by simp [World.cell?,h1]
 have ck:=gX h5 hk;have HF:=ae (show ∃B W va cv,(w.cell? ⟨b,0,none⟩=some (.slice va (aS f).length cv)∧Sl w va (aS f)∧kQ w∧W≤100000∧(aS f).length≤64 * W)∧
   ∀p,p≤(ah f k).length→∃g c,w.cell? ⟨R k,p,none⟩=some (.slice (some ⟨g,0,none⟩) W c)∧aP w B g c W (hU (aS f) f k (fH f k p)) from
  ⟨B,W,va,cv,⟨c0,h2,h3,h4⟩,fun p hp=>⟨G k p,C k p,gX (h6 k hk) (by omega),h7 k hk p hp⟩⟩)
 clear h1 h2 h3 h4 h5 h6 h7 c0;obtain⟨N,hN⟩:∃N,f.2.2.2.1.length=N:=⟨_,rfl⟩;rw [hN] at hk c1;have hkI:(k:Int) < N:=by omega
 have hk0:¬(k:Int) < 0:=by omega
 obtain⟨m,hm⟩:∃m,(ah f k).length+1=m:=⟨_,rfl⟩;have Hm:=ae hm;rw [hm] at ck;clear hm hN;go_enter Tryz.func30,Tryz.ntmps30
 go_wp2_with fail
 go_ret;exact⟨rfl,R k,CR k,by rw [Hm.out];rfl,HF.out⟩
theorem pC {f:Fun} {b k p:Nat} {w:World} (h:eL f b w) (hk:k < f.2.2.2.1.length) (hp:p≤(ah f k).length):
  Calls Tryz.prog 29 #[.pointer (some ⟨b,0,none⟩),.int .i64 k,.int .i64 p] w (ky w ((aS f).filter (bf f k (fH f k p))) (eL f b)):=by
 have HL:=ae h;have HC:=ae (qB h hk);clear h hk;go_enter Tryz.func29,Tryz.ntmps29
 go_wp2_with fail
 refine HC.out.mono ?_;rintro e w1 ⟨rfl,r,cr,rfl,B,W,va,cv,⟨c0,h2,h3,hW1,hW2⟩,hS⟩;obtain⟨g,c,cp,hs⟩:=hS p hp;have e:dE (aS f) (hU (aS f) f k (fH f k p)) (64 * W)=(aS f).filter (bf f k (fH f k p)):=nC (aS f) (bf f k (fH f k p)) (64 * W) hW2;have HS:=ae (GN (hs.below (L5.bu w1)) (h2.below (L5.bu w1)) (cv:=cv) (fun n _ hb=>by unfold hU at hb;simp only [Bool.and_eq_true,decide_eq_true_eq] at hb;exact hb.1) (h3.below (L5.bu w1)) hW1);rw [e] at HS;have hl:((aS f).filter (bf f k (fH f k p))).length≤6400000:=Nat.le_trans (List.length_filter_le _ _) (by omega);have HQ:=ae hl;clear HC hS hs h2 h3 e hl;obtain⟨m,hm⟩:∃m,(ah f k).length+1=m:=⟨_,rfl⟩;have hpm:(p:Int) < m:=by omega
 have hp0:¬(p:Int) < 0:=by omega
 rw [hm];generalize (aS f).filter (bf f k (fH f k p))=L at *;obtain⟨vl,hvl⟩:∃n,(aS f).length=n:=⟨_,rfl⟩;rw [hvl] at c0 HS hW2;clear hm hvl;go_upto_region 4 with fail
 apply DQ (R:=fun u w'=>w'.ownsRow w1.drew.heap.size 3 1 u L.length (ints L)∧Below w1.drew.heap.size w1.drew w')
 ·intro K0 HK0;go_region_law ((refine EJ rfl (.tmp 22) (.tmp 26) _ rfl (.slice (some ⟨g,0,none⟩) W c) (.slice va vl cv) _ rfl rfl HS.out ?_);intro u9 w9 hR9)
  all_goals exact HK0 u9 w9 hR9
 intro u w2 hw2;have HR:Hid (bT w2 L u∧eL f b w2∧Below w1.heap.size w1 w2):=ae (by
  obtain⟨o1,o2⟩:=hw2;have b2:=af (L5.bu w1) o2;obtain⟨ao,c,rfl⟩:=aI o1;refine⟨⟨ao,c,rfl,xS o1,?_⟩,HL.out.below b2,b2⟩;rcases o1.2 with ⟨e,h0⟩ | ⟨_,cap,_,e,_,_,h1,h2,_⟩
  ·injection e with _ _ e;rw [h0,e];exact⟨Nat.le_refl _,Nat.zero_le _⟩
  ·injection e with _ _ e;subst e;exact⟨h1,h2⟩)
 clear hw2 HS;go_wp2_with fail
 go_ret;exact⟨u,rfl,HR.out⟩
theorem Iv {f:Fun} {b k:Nat} {w:World} (h:eL f b w) (hk:k < f.2.2.2.1.length):
  Calls Tryz.prog 10 #[.pointer (some ⟨b,0,none⟩),.int .i64 k] w (ky w ((aS f).filter (bf f k 0)) (eL f b)):=by
 have HC:Hid (Calls Tryz.prog 29 #[.pointer (some ⟨b,0,none⟩),.int .i64 k,.int .i64 (0:Int)] w (ky w ((aS f).filter (bf f k 0)) (eL f b))):=ae (pC (p:=0) h hk (Nat.zero_le _));clear h hk;go_enter Tryz.func10,Tryz.ntmps10
 go_wp2_with fail
 refine HC.out.mono ?_;rintro e w1 ⟨u,rfl,h⟩;have HH:=ae h;clear h HC;go_wp2_with fail
 go_ret;exact⟨u,rfl,HH.out⟩
theorem Gn {f:Fun} {b k:Nat} {w:World} (h:eL f b w) (hk:k < f.2.2.2.1.length) (hl:(ah f k).length≤1000000):
  Calls Tryz.prog 11 #[.pointer (some ⟨b,0,none⟩),.int .i64 k] w (ky w ((aS f).filter (bf f k (fH f k (ah f k).length))) (eL f b)):=by
 have HC:=ae (pC h hk (Nat.le_refl (ah f k).length));have HW:=ae (qB h hk);clear h hk;obtain⟨bl,hbl⟩:∃n,(ah f k).length=n:=⟨_,rfl⟩;rw [hbl] at HC hl ⊢;have Hbl:=ae hbl;clear hbl;go_enter Tryz.func11,Tryz.ntmps11
 go_wp2_with fail
 refine HW.out.mono ?_;rintro e w1 ⟨rfl,r,cr,rfl,_⟩;rw [Hbl.out];have ha:((bl+1:Nat):Int) - 1=bl:=by omega
 go_wp2_with fail
 refine HC.out.mono ?_;rintro e w1 ⟨u,rfl,h⟩;have HH:=ae h;clear h HC;go_wp2_with fail
 go_ret;exact⟨u,rfl,HH.out⟩
theorem Hg {f:Fun} {b k i:Nat} {w:World} (h:eL f b w) (hk:k < f.2.2.2.1.length) (hi:i < (ah f k).length) (hl:(ah f k).length≤1000000):
  Calls Tryz.prog 15 #[.pointer (some ⟨b,0,none⟩),.int .i64 k,.int .i64 i] w (ky w ((aS f).filter (bf f k (gz f k i))) (eL f b)):=by
 have HC:Hid (Calls Tryz.prog 29 #[.pointer (some ⟨b,0,none⟩),.int .i64 k,.int .i64 ((i:Int)+1)] w (ky w ((aS f).filter (bf f k (gz f k i))) (eL f b))):=ae (pC (p:=i+1) h hk hi);have hil:i≤1000000:=by omega
 have hi0:¬(i:Int) < 0:=by omega
 clear h hk hi hl;go_enter Tryz.func15,Tryz.ntmps15
 go_wp2_with fail
 refine HC.out.mono ?_;rintro e w1 ⟨u,rfl,h⟩;have HH:=ae h;clear h HC;go_wp2_with fail
 go_ret;exact⟨u,rfl,HH.out⟩
end Go.Proofs.YtfdhemcahjommaaGreatDoor
