/- Texts of one chain, joined. -/
import Derived.Test.YtaiaakklokahjaaGreatDoorZWaBD
set_option maxHeartbeats 4000000
set_option maxRecDepth 100000
namespace Go.Proofs.YtaiaakklokahjaaGreatDoor
open Go Go.RowKit Go.Shelf
open G (Tok Er Ins Fun)
theorem rI {f:Fun} {b k:Nat} (hb:b < f.2.2.2.1.length) (h:(k:Int)∈aB f b):(b:Int)∈aY f k f.2.2.2.1.length:=by
 unfold aY;simp only [List.mem_map,List.mem_filter,List.mem_range];exact⟨b,⟨hb,aZ.2 h⟩,rfl⟩
theorem nJ.GQ {V:List Int} {f:Fun} {H:Nat→Nat→Nat→Bool} {p p':Nat→Prop} (h:nJ V f H p) (hp:∀b,b < f.2.2.2.1.length→¬p' b→¬p b):nJ V f H p':=⟨h.1,h.2.1,fun k hk hn=>h.2.2 k hk (hp k hk hn)⟩
theorem Ah (V:List Int) (f:Fun) {H:Nat→Nat→Nat→Bool} (hH:∀k p n,H k p n=false) {p:Nat→Prop} (hp:∀b,b < f.2.2.2.1.length→p b):nJ V f H p:=
 ⟨fun k _ n h=>absurd h (by rw [hH];decide),fun k _ n h=>absurd h (by rw [hH];decide),fun k hk hn=>absurd (hp k hk) hn⟩
theorem LkW.fn {f:Fun} {V:List Int} {W lp:Nat} {wB w:World} {q:LkQ} (h:LkW f V W wB lp q w):∃nm pp lps cpp rt lb cb pl po cp,(w.cell? ⟨lp,0,none⟩=some (.string nm)∧w.cell? ⟨lp,1,none⟩=some (.slice pp lps cpp)∧w.cell? ⟨lp,2,none⟩=some (.int .i64 rt)∧w.cell? ⟨lp,3,none⟩=some (.slice lb f.2.2.2.1.length cb)∧w.cell? ⟨lp,4,none⟩=some (.int .i64 pl))∧
  bS w f (.agg #[.string nm,.slice pp lps cpp,.int .i64 rt,.slice lb f.2.2.2.1.length cb,.int .i64 pl])∧∀k,k < f.2.2.2.1.length→∃pb pq lo lc,po=some ⟨pb,pq,none⟩∧∀w',LkW f V W wB lp q w'→w'.cell? ⟨lp,7,none⟩=some (.slice po f.2.2.2.1.length cp)∧w'.cell? ⟨pb,pq+k,none⟩=some (.slice lo (aY f k f.2.2.2.1.length).length lc)∧Sl w' lo (aY f k f.2.2.2.1.length):=by
 obtain⟨G,C,R,CR,J,CJ,⟨gj,cj,gr,cr⟩,⟨nm,pp,lps,cpp,rt,lb,cb,pl⟩,⟨va,cv,so,cs,po,cp⟩⟩:=q;obtain⟨⟨hB,hfv,_,_,hpr,_⟩,⟨_,hlp⟩,_⟩:=h;refine⟨nm,pp,lps,cpp,rt,lb,cb,pl,po,cp,⟨?_,?_,?_,?_,?_⟩,hfv.below hB,fun k hk=> ?_⟩
 all_goals try simp [World.cell?,hlp,lkA]
 obtain⟨pb,pq,lo,lc,e,hpb,hc,hsl⟩:=xS hpr (uQ hk);refine⟨pb,pq,e,lo,lc,fun w' hw'=> ?_⟩;obtain⟨⟨hB',_⟩,⟨_,hlp'⟩,_⟩:=hw';exact⟨by simp [hlp',lkA],(hB'.cell (p:=⟨pb,pq+k,none⟩) hpb).trans hc,hsl.below hB'⟩
theorem Es {f:Fun} {V:List Int} {W B lp:Nat} {q:LkQ} {w0 w2:World} {b1 go:Nat} {oc:Array Value} {H:Nat→Nat→Nat→Bool} (hk:Kf (iV f q) w0 w2) (hD:LkD f V W B H q w2) (hb:Boxed w2 b1 63 (.pointer (some ⟨lp,0,none⟩))) (hgo:w2.heap[go]? =some (.cells oc 3 (0,0))):
  StM f V W B lp q w0 b1 (w2.heap.size+1+1) (w2.heap.size+1+1+1) go w2.heap.size (w2.heap.size+1) oc [] 0 0 (fun _=>false) (fun _=>false) H ((((w2.alloc (.map #[] 0)).alloc (.map #[] 0)).alloc (.cells #[.map (some w2.heap.size)] 103)).alloc (.cells #[.map (some (w2.heap.size+1))] 103)):=by
 have c1:=af w2 (.map #[] 0);have c2:=af (w2.alloc (.map #[] 0)) (.map #[] 0);have c3:=af ((w2.alloc (.map #[] 0)).alloc (.map #[] 0)) (.cells #[.map (some w2.heap.size)] 103);have c4:=af (((w2.alloc (.map #[] 0)).alloc (.map #[] 0)).alloc (.cells #[.map (some w2.heap.size)] 103)) (.cells #[.map (some (w2.heap.size+1))] 103);have m1:=SMap.made w2;have m2:=SMap.made (w2.alloc (.map #[] 0));have x3:=Boxed.new ((w2.alloc (.map #[] 0)).alloc (.map #[] 0)) 103 (.map (some w2.heap.size));have x4:=Boxed.new (((w2.alloc (.map #[] 0)).alloc (.map #[] 0)).alloc (.cells #[.map (some w2.heap.size)] 103)) 103 (.map (some (w2.heap.size+1)));have b12:=ae (ae (ae c1 c2) c3) c4;rw [World.size_alloc] at m2;rw [World.size_alloc,World.size_alloc] at x3;rw [World.size_alloc,World.size_alloc,World.size_alloc] at x4;refine⟨⟨hk.trans (Kf.br (F:=iV f q) b12) fun _ h=> .inl h,hD.below b12⟩,⟨(b12.block _ hb.lt).trans hb,x3.alloc _,x4,(b12.block _ (Array.getElem?_eq_some_iff.1 hgo).1).trans hgo⟩,⟨(m1.kf (kK (ae (ae c2 c3) c4)) fun e=>e),(m2.kf (kK (ae c3 c4)) fun e=>e)⟩,fun D hD=>by cases hD⟩
theorem GV {f:Fun} {V:List Int} {W B lp:Nat} {q:LkQ} {w0 wr:World} {b1 b3 b4 go mr ma:Nat} {oc:Array Value} {Ds:List Nat} {na:Nat} {sa:Int→Bool} {H:Nat→Nat→Nat→Bool} (hl:LkL f q w0) (hn:StN w0 b1 b3 b4 go mr ma Ds)
  (h:StM f V W B lp q w0 b1 b3 b4 go mr ma oc Ds 0 na (fun _=>false) sa H wr):StM f V W B lp q w0 b1 b3 b4 go ma mr oc Ds na 0 sa (fun _=>false) H ((wr.setCell ⟨b3,0,none⟩ (.map (some ma))).setCell ⟨b4,0,none⟩ (.map (some mr))):=by
 obtain⟨⟨_,n3,n4,_⟩,_,n34,_⟩:=hn;obtain⟨⟨a1,a2⟩,⟨c1,c2,c3,c4⟩,⟨d1,d2⟩,d⟩:=h;have k1:=jM (w:=wr) b3 0 (.map (some ma));have k2:=jM (w:=wr.setCell ⟨b3,0,none⟩ (.map (some ma))) b4 0 (.map (some mr));have k:Kf (fun b=>b=b3∨b=b4) wr ((wr.setCell ⟨b3,0,none⟩ (.map (some ma))).setCell ⟨b4,0,none⟩ (.map (some mr))):=(k1.more (fun _ e=> .inl e)).trans k2 fun _ e=> .inl (.inr e);have hge:∀b,(b=b3∨b=b4)→w0.heap.size≤b:=by rintro b (rfl | rfl) <;> assumption
 have keep:∀(b:Nat) (o:Obj),wr.heap[b]? =some o→(∀v,o≠ .cells #[v] 103 (0,0))→((wr.setCell ⟨b3,0,none⟩ (.map (some ma))).setCell ⟨b4,0,none⟩ (.map (some mr))).heap[b]? =some o:=fun b o ho hne=>(k.2.2.2.2 b (Array.getElem?_eq_some_iff.1 ho).1 (by
  rintro (rfl | rfl)
  ·rw [show wr.heap[b]? =_ from c2] at ho;exact hne _ (Option.some.inj ho).symm
  ·rw [show wr.heap[b]? =_ from c3] at ho;exact hne _ (Option.some.inj ho).symm)).trans ho
 have smk:∀b n s,SMap wr b n s→SMap ((wr.setCell ⟨b3,0,none⟩ (.map (some ma))).setCell ⟨b4,0,none⟩ (.map (some mr))) b n s:=fun b n s hm=>by
  obtain⟨es,cl,he⟩:=hm.isMap;exact hm.same ((keep b _ he (fun v e=>by cases e)).trans he.symm)
 refine⟨⟨a1.trans k fun b hb=> .inr (hge b hb),a2.kf hl k hge⟩,⟨keep b1 _ c1 (fun v e=>by injection e with _ e _;cases e),((Boxed.set (.map (some ma)) c2).other n34 (.map (some mr))),Boxed.set (.map (some mr)) (c3.other n34.symm (.map (some ma))),keep go _ c4 (fun v e=>by injection e with _ e _;cases e)⟩,⟨smk _ _ _ d2,smk _ _ _ d1⟩,fun D hD=>keep D _ (d D hD) (fun v e=>by cases e)⟩
theorem zk {f:Fun} {V:List Int} {W lp:Nat} {wB w:World} {q:LkQ} {H0:Nat→Nat→Nat→Bool} (hL:LkW f V W wB lp q w) (hD:LkD f V W wB.heap.size H0 q w) (hH0:∀k p n,H0 k p n=false) (hA:LkA f q) (hF:Ful f) (hT:Tos f) (hP:PhF f) (hM:Mod f) (h0:0 < f.2.2.2.1.length)
  (hR:∀k:Nat,k < f.2.2.2.1.length→(k:Int)∈aE f) (hs:V.Pairwise (· < ·)) (hAV:∀k,k < f.2.2.2.1.length→∀x∈ag f k,∀a∈x.2.2.2.2.1,a∈V) (hAl:∀k,k < f.2.2.2.1.length→∀x∈ag f k,x.2.2.2.2.1.length≤1000000) (hWV:V.length≤64 * W) (hW2:W≤1000000):
  CallsIn Fence.wide 5 Tryz.prog 34 #[.pointer (some ⟨lp,0,none⟩)] w fun e w'=>e= .returned (.tuple #[])∧∃Hf,(∀k,k < f.2.2.2.1.length→∀p,p≤(ag f k).length→Hf k p=gP V f k (fA f k p))∧LkD f V W wB.heap.size Hf q w'∧Kf (iV f q) w w':=by
 have h1:1≤5:=by omega
 have hmm:= @run_makeMap Tryz.prog;have hN:=hM.1;have HLt:=aa hD.lt;have HLW:=aa (fun w' (K:Kf (iV f q) w w')=>hL.kf K hD.set);have HG:=aa (fun w' H (K:Kf (iV f q) w w') (hD':LkD f V W wB.heap.size H q w') k (hk:k < f.2.2.2.1.length) (hI:∀b,b < f.2.2.2.1.length→Inn V (H b 0))=>
  Bo (HLW.out w' K) hD' hA hT hP hM hk (by
   have:=(hF.2 _ (gY hk)).1
   cases hb:ag f k with
   |nil=>exact absurd hb this
   |cons x l=>simp) hs (hAV k hk) (hAl k hk) hI hWV hW2)
 obtain⟨hon,honum⟩:=qF hT h0;have honl:(aE f).length≤1000000:=by have:=cH _ _ hon honum;omega
 obtain⟨nm,pp,lps,cpp,rt,lb,cb,pl,po,cp,⟨k0,k1,k2,k3,k4⟩,hfv,HPr⟩:=hL.fn;have hlpw:=World.block_lt_of_cell? _ _ k0;have HPr2:=aa HPr;have b1':=af w (.cells #[.pointer (some ⟨lp,0,none⟩)] 63);have CO:=aa (xj f _ (w.alloc (.cells #[.pointer (some ⟨lp,0,none⟩)] 63)) (hfv.below b1') hF hT h0);replace k0:=(b1'.cell (p:=⟨lp,0,none⟩) hlpw).trans k0;replace k1:=(b1'.cell (p:=⟨lp,1,none⟩) hlpw).trans k1;replace k2:=(b1'.cell (p:=⟨lp,2,none⟩) hlpw).trans k2;replace k3:=(b1'.cell (p:=⟨lp,3,none⟩) hlpw).trans k3;replace k4:=(b1'.cell (p:=⟨lp,4,none⟩) hlpw).trans k4;have hBx:=aa (Boxed.new w 63 (.pointer (some ⟨lp,0,none⟩)));have kB:=(Boxed.new w 63 (.pointer (some ⟨lp,0,none⟩))).cell;have B1:=aa b1';have HD:=aa hD;have HI0:=aa (fun p hp=>Ah V f hH0 (p:=p) hp);have HT:=aa hT;have HP:=aa hP;have HRr:=aa hR;have Hon:=aa hon;have H00:=aa h0;have Honum:=aa honum;clear hL hD hH0 hA hF hP hM hs hAV hAl hWV HPr hfv b1' hT hR hon honum h0;refine callsIn_of_wp_marks Tryz.func34 rfl trivial ?_ rfl;simp only [Tryz.ntmps34,List.size_toArray,List.length_cons,List.length_nil,Nat.reduceAdd,Nat.reduceSub,Array.replicate_succ,Array.replicate_zero,List.push_toArray,List.append_toArray,List.nil_append,List.cons_append];refine(wpIn_wide (n:=5)).2 ?_;go_upto_region 1 with fail
 show Code.wp _ _ _ _ (w.alloc (.cells #[.pointer (some ⟨lp,0,none⟩)] 63));generalize w.alloc (.cells #[.pointer (some ⟨lp,0,none⟩)] 63)=W1 at *;go_wp2_with fail
 refine CO.out.mono ?_;rintro e w2 ⟨u,rfl,hrow,b2⟩;have B2:=aa (ae B1.out b2);obtain⟨on,hone⟩:∃on,(aE f).length=on:=⟨_,rfl⟩;have Hone:=aa hone;have hon0:0 < on:=by
  rw [←hone];exact List.length_pos_of_mem (HRr.out 0 H00.out)
 obtain⟨oc,hoc⟩:∃oc,∃go cap,u= .slice (some ⟨go,0,none⟩) on cap∧w2.heap[go]? =some (.cells oc 3 (0,0))∧W1.heap.size≤go∧∀j,j < on→oc[j]? =some (.int .i64 ((aE f).getD j 0)):=by
  rw [hone] at hrow;rcases bY hrow with ⟨_,e⟩ | ⟨go,cap,rfl,_,_,hgB,_,hcell,_⟩
  ·omega
  ·obtain⟨oc,hk⟩:=cz hrow (g:=go) rfl;refine⟨oc,go,cap,rfl,hk,hgB,fun j hj=> ?_⟩;have e:=hcell j (.int .i64 ((aE f).getD j 0)) (by
    unfold ints;rw [List.getElem?_map,List.getElem?_eq_getElem (by omega),List.getD_eq_getElem?_getD,List.getElem?_eq_getElem (by omega)];rfl)
   simpa [World.cell?,hk] using e
 obtain⟨go,oc2,rfl,hgo,hgoB,hocv⟩:=hoc;rw [hone] at honl;obtain⟨gv,hgv⟩:∃gv:Nat→Int,∀j,(aE f).getD j 0=gv j:=⟨fun j=>(aE f).getD j 0,fun _=>rfl⟩;have Hgv:=aa hgv;have Hoc:Hid (∀j,j < on→oc[j]? =some (.int .i64 (gv j))):=aa (fun j hj=>by rw [hocv j hj,hgv]);have HBx2:=aa ((b2.block _ hBx.out.lt).trans hBx.out);have hszW1:w.heap.size < W1.heap.size:=hBx.out.lt;have Hgo:=aa hgo;clear hrow b2 hgo hocv hgv hone CO k0 k1 k2 k3 k4 kB hBx;go_wp2_with fail
 have hw2s:=B2.out.size;have S0:=aa (Es (Kf.br (F:=iV f q) B2.out) (HD.out.below B2.out) HBx2.out Hgo.out);have HN0:Hid (StN w w.heap.size (w2.heap.size+1+1) (w2.heap.size+1+1+1) go w2.heap.size (w2.heap.size+1) []):=aa ⟨⟨by omega,by omega,by omega,by omega,by omega,by omega⟩,by omega,by omega,fun D hD=>(by cases hD),List.nodup_nil⟩;generalize (((w2.alloc (.map #[] 0)).alloc (.map #[] 0)).alloc (.cells #[.map (some w2.heap.size)] 103)).alloc (.cells #[.map (some (w2.heap.size+1))] 103)=W5 at *;obtain⟨mr,hmre⟩:∃n,w2.heap.size=n:=⟨_,rfl⟩;obtain⟨ma,hmae⟩:∃n,mr+1=n:=⟨_,rfl⟩;obtain⟨b3,hb3e⟩:∃n,mr+1+1=n:=⟨_,rfl⟩;obtain⟨b4,hb4e⟩:∃n,mr+1+1+1=n:=⟨_,rfl⟩;rw [hmre] at S0 HN0 ⊢;rw [hb4e,hb3e,hmae] at S0 HN0 ⊢;have HOb:=aa (fun j (hj:j < on)=>by
  have hjl:j < (aE f).length:=by rw [Hone.out];exact hj
  have hm:(aE f).getD j 0∈aE f:=by rw [List.getD_eq_getElem?_getD,List.getElem?_eq_getElem hjl];exact List.getElem_mem hjl
  have:=Honum.out _ hm;rw [Hgv.out] at this hm;exact(⟨(gv j).toNat,by omega,by omega,by rw [Int.toNat_of_nonneg this.1];exact hm⟩:∃M:Nat,gv j=(M:Int)∧M < f.2.2.2.1.length∧(M:Int)∈aE f))
 clear hmre hmae hb3e hb4e HBx2 Hgo HD B1 B2 hgoB hszW1 hw2s;go_loopw [22] (fun iv wr=>∃I:Nat,I≤on∧iv= .int .i64 I∧Hid (StM f V W wB.heap.size lp q w w.heap.size b3 b4 go mr ma oc [] I 0 (fun x=>ay ((aE f).take I) x) (fun _=>false) H0 wr)) (fun iv _=>on - (intOf iv).toNat)
 case atStart=>exact⟨0,Nat.zero_le _,rfl,aa (by rw [List.take_zero];exact S0.out)⟩
 case round=>
  clear S0;obtain⟨I,hI,rfl,HS⟩:=hrel;by_cases hit:I < on
  ·have hiI:(I:Int) < on:=(by omega);have kb3:=HS.out.2.1.2.1.cell;obtain⟨M,hM,hMN,_⟩:=HOb.out I hit;have kgo:wr.cell? ⟨go,I,none⟩=some (.int .i64 (M:Int)):=(by simp [World.cell?,HS.out.2.1.2.2.2,Hoc.out I hit,hM]);obtain⟨w3,hr,hm3,hg3⟩:=HS.out.2.2.1.1.put (by unfold maxLen;omega) (sf (n:=M) (by omega));have hkf:=oG hg3;have S3:Hid (StM f V W wB.heap.size lp q w w.heap.size b3 b4 go mr ma oc [] (I+1) 0 (fun x=>ay ((aE f).take (I+1)) x) (fun _=>false) H0 w3):=aa (by
    have e:(fun x=>decide (x=(M:Int)) || ay ((aE f).take I) x)=fun x=>ay ((aE f).take (I+1)) x:=funext fun x=>by
     have hl:(aE f)[I]? =some (M:Int):=(by rw [←hM,←Hgv.out,List.getD_eq_getElem?_getD,List.getElem?_eq_getElem (by rw [Hone.out];exact hit)];rfl);rw [aR hl];unfold ay;rw [List.any_append,List.any_cons,List.any_nil,Bool.or_false,Bool.or_comm];congr 1
     rw [decide_eq_decide];exact eq_comm
    obtain⟨es,cl,hmap⟩:=HS.out.2.2.1.1.isMap;rw [←e];have hNo:∀(b:Nat) (cs:Array Value) (t:TypeId),wr.heap[b]? =some (.cells cs t (0,0))→¬b=mr:=fun b cs t h e=>by rw [e,hmap] at h;cases h
    refine HS.out.step hkf (HS.out.1.2.kf HLt.out hkf fun b hb=> ?_) (fun b hb=> .inr ?_) (hNo _ _ _ HS.out.2.1.1) (hNo _ _ _ HS.out.2.1.2.1) (hNo _ _ _ HS.out.2.1.2.2.1) (hNo _ _ _ HS.out.2.1.2.2.2) (fun D hD=>by cases hD) hm3 (HS.out.2.2.1.2.kf hkf (fun e=>HN0.out.2.1 e.symm))
    ·rw [hb];exact HN0.out.1.2.2.2.2.1
    ·rw [hb];exact HN0.out.1.2.2.2.2.1)
   clear hm3 hg3 hkf hM;go_wp2_with fail
   go_roundw
   case rel=>exact⟨I+1,by omega,by go_num,S3⟩
   case measure=>simp [intOf];omega
  ·obtain rfl:on=I:=(by omega);have S1:Hid (StM f V W wB.heap.size lp q w w.heap.size b3 b4 go mr ma oc [] on 0 (fun x=>ay (aE f) x) (fun _=>false) H0 wr):=aa (by have:=HS.out;rwa [List.take_of_length_le (by rw [Hone.out];exact Nat.le_refl _)] at this);clear HS hit;go_wp2_with fail
   refine AX (fun m a' w'=>∃(mr ma:Nat) (Ds:List Nat) (nr:Nat) (sr:Int→Bool) (H:Nat→Nat→Nat→Bool) (u5 u6 u7 u8 u9 u10 u11 u12 u13 u14 u15 u16 u17 u18 u19 u20 u21 u22 u23 u24 u25 u26 u27 u28 u29 u30 u31 u32 u33 u34 u35 u36 u37 u38 u39 u40 u41 u42 u43 u44 u45 u46 u47 u48 u49 u50 u51 u52 u53 u54 u55 u56 u57 u58 u59 u60 u61 u62 u63 u64 u65 u66 u67:Value),(Hid (StM f V W wB.heap.size lp q w w.heap.size b3 b4 go mr ma oc Ds nr 0 sr (fun _=>false) H w')∧Hid (StN w w.heap.size b3 b4 go mr ma Ds)∧Hid (nJ V f H (fun b=>sr b=true))∧nr≤1000000000000∧2 * muS V f H+(if nr=0 then 0 else 1)≤m)∧
    a'= {tmps:=(.pointer (some ⟨lp,0,none⟩) :: .pointer (some ⟨w.heap.size,0,none⟩) :: .slice (some ⟨go,0,none⟩) on oc2 :: .pointer (some ⟨b3,0,none⟩) :: .pointer (some ⟨b4,0,none⟩) :: u5 :: u6 :: u7 :: u8 :: u9 :: u10 :: u11 :: u12 :: u13 :: u14 :: u15 :: u16 :: u17 :: u18 :: u19 :: u20 :: u21 :: u22 :: u23 :: u24 :: u25 :: u26 :: u27 :: u28 :: u29 :: u30 :: u31 :: u32 :: u33 :: u34 :: u35 :: u36 :: u37 :: u38 :: u39 :: u40 :: u41 :: u42 :: u43 :: u44 :: u45 :: u46 :: u47 :: u48 :: u49 :: u50 :: u51 :: u52 :: u53 :: u54 :: u55 :: u56 :: u57 :: u58 :: u59 :: u60 :: u61 :: u62 :: u63 :: u64 :: u65 :: u66 :: u67 :: []).toArray,defers:=Ds.map dfr}) (m0:=2 * muS V f H0+1) ?start ?round
   case start=>
    refine⟨mr,ma,[],on,_,H0,_,_,_,_,_,_,_,_,_,_,_,_,_,_,_,_,_,_,_,_,_,_,_,_,_,_,_,_,_,_,_,_,_,_,_,_,_,_,_,_,_,_,_,_,_,_,_,_,_,_,_,_,_,_,_,_,_,_,_,_,_,_,_,⟨S1,HN0,aa (HI0.out _ fun b hb=>aZ.2 (HRr.out b hb)),by omega,?_⟩,rfl⟩;split <;> omega
   case round=>
    clear S1 HN0 HI0;rintro m a' wr ⟨mr,ma,Ds,nr,sr,H,u5,u6,u7,u8,u9,u10,u11,u12,u13,u14,u15,u16,u17,u18,u19,u20,u21,u22,u23,u24,u25,u26,u27,u28,u29,u30,u31,u32,u33,u34,u35,u36,u37,u38,u39,u40,u41,u42,u43,u44,u45,u46,u47,u48,u49,u50,u51,u52,u53,u54,u55,u56,u57,u58,u59,u60,u61,u62,u63,u64,u65,u66,u67,⟨HS,HN,HInv,hnr,hm⟩,rfl⟩;obtain⟨c,hlen,hcn,hc0⟩:=HS.out.2.2.1.1.len;have kb3:=HS.out.2.1.2.1.cell;by_cases hc:c=0
    ·subst hc;have HInv0:nJ V f H (fun _=>False):=HInv.out.GQ (fun b hb _ h=>by rw [hc0 rfl b (sf (by omega))] at h;cases h);go_wp2_with fail
     exact pa (v:= .tuple #[]) w.heap.size (fun w'=>results_none rfl _ _ _) Ds wr HN.out.2.2.2.2 (fun D hD=>⟨HN.out.2.2.2.1 D hD,HS.out.2.2.2 D hD⟩) (fun w' k=>⟨rfl,H,fun k hk p hp=>Cj HT.out HP.out HInv0 hk hp,HS.out.1.2.kf HLt.out k (fun b hb=>hb),HS.out.1.1.trans k (fun b hb=> .inr hb)⟩)
    ·have hcI:(0:Int) < c:=(by omega);have hnr0:nr≠0:=(by omega);rw [if_neg hnr0] at hm;have HC:=aa (callsIn_wide.1 (JE Fence.wide 5 trivial rfl (some ⟨go,0,none⟩) on oc2 wr));go_wp2_with fail
     refine HC.out.mono ?_;rintro e w1 ⟨rfl,hw1⟩;have HBs:=Boxed.new wr 26 (.slice (some ⟨go,0,none⟩) on oc2);have bb:=af wr (.cells #[.slice (some ⟨go,0,none⟩) on oc2] 26);rw [←hw1] at HBs bb;have hs1:wr.heap.size < w1.heap.size:=HBs.lt;obtain⟨l0,lb1,lb3,lb4,lgo,lDs,lmr,lma⟩:=(HS.out.below bb).lts;have lmaB:=HS.out.lts.2.2.2.2.2.2.2;have lgoB:=HS.out.lts.2.2.2.2.1;have hw0:=HS.out.lts.1;have S1:=aa (HS.out.below bb);have HLn:=aa Hone.out;clear hw1 HC kb3 hlen hcn hc0 bb HS;obtain⟨Bs,hBse⟩:∃Bs,wr.heap.size=Bs:=⟨_,rfl⟩;rw [hBse] at HBs hs1 lmaB lgoB hw0;go_wp2_with fail
     clear hBse;rw [←Hone.out] at HBs;refine(wpIn_wide (n:=5)).1 ?_;refine wpIn_rangeFunc_ownG rfl h1 (gf:=103) (lb:= #[.pointer (some ⟨Bs,0,none⟩)]) rfl trivial (enters_of Tryz.func103 (by kernel_rfl) rfl)
      (zi Fence.wide 4 trivial rfl (by omega) (aE f) (by rw [Hone.out];exact honl) Bs go 0 oc2 w1 lgo HBs (fun j hj=>by
       have e:=Hoc.out j (by rw [←Hone.out];exact hj);rw [Nat.zero_add,Hgv.out];simp [World.cell?,S1.out.2.1.2.2.2,e]))
      KpO.trans (KW lgo hs1) (Below.refl _ _) (fun _=>rfl)
      (RgI f V W wB.heap.size lp q w w.heap.size b3 b4 go mr ma oc Ds nr sr (muS V f H) w1.heap.size (aE f)) (fun _ _ _=>False) (RgI.own HLt.out l0 lb1 lb3 lb4 lgo lDs lmr lma) (fun _ _ _ _ _ hs _ _=>hs) ?begin
      (fun x=>{tmps:=(.pointer (some ⟨lp,0,none⟩) :: .pointer (some ⟨w.heap.size,0,none⟩) :: .slice (some ⟨go,0,none⟩) on oc2 :: .pointer (some ⟨b3,0,none⟩) :: .pointer (some ⟨b4,0,none⟩) :: u5 :: u6 :: u7 :: .int .i64 (gv x.1) :: u9 :: u10 :: u11 :: u12 :: u13 :: u14 :: u15 :: u16 :: u17 :: u18 :: u19 :: u20 :: u21 :: u22 :: u23 :: u24 :: u25 :: u26 :: u27 :: u28 :: u29 :: .map (some mr) :: .int .i64 (c:Int) :: .bool true :: .slice (some ⟨go,0,none⟩) on oc2 :: .func (.func 103) #[] #[.pointer (some ⟨Bs,0,none⟩)] :: .int .i64 ((x.1:Nat):Int) :: .int .i64 (gv x.1) :: u37 :: u38 :: u39 :: u40 :: u41 :: u42 :: u43 :: u44 :: u45 :: u46 :: u47 :: u48 :: u49 :: u50 :: u51 :: u52 :: u53 :: u54 :: u55 :: u56 :: u57 :: u58 :: u59 :: u60 :: u61 :: u62 :: u63 :: u64 :: u65 :: u66 :: u67 :: []).toArray,defers:= []}) ?assign ?body ?done ?stop
     case begin=>
      exact⟨Nat.le_refl _,H,0,fun _=>false,S1.out,HInv.out.GQ (fun b _ hn h=>hn (.inl ⟨h,fun x hx=>by cases hx⟩)),Nat.zero_le _,.inl ⟨rfl,Nat.le_refl _⟩⟩
     case assign=>
      intro l x X K hK;have hsem:=Oper.semAt_some l;dsimp only [Ax]
      rw [Hgv.out];gi_wp2
      exact hK
     case body=>
      rintro l pre x X ⟨hXL,H',na,sa,hSt,hInv,hna,hmu⟩ hlt;have hsem:=Oper.semAt_some l;obtain⟨M,hM,hMN,hMo⟩:=HOb.out x.1 (by rw [←Hone.out];exact x.2);have hwf:=sf (n:=M) (by omega);have kb3:=hSt.2.1.2.1.cell;have hlk:=hSt.2.2.1.1.look hwf;obtain⟨X0,g1,g3,g4,ggo,gDs,gmr,gma⟩:=hSt.lts;have bX:=af X (.cells #[] 104);have S2:=aa (hSt.below bX);have KF1:Hid (KeepsFrom w1.heap.size X (X.alloc (.cells #[] 104))):=aa ((KeepsOthers.alloc _ _).from _);have KO1:Hid (KpO go Bs X (X.alloc (.cells #[] 104))):=aa (vm (kK bX) ggo (by omega) (fun e=>e) (fun e=>e));have hsz1:w1.heap.size≤(X.alloc (.cells #[] 104)).heap.size:=Nat.le_trans hXL bX.size;have HIn:=aa hInv;have HMu:=aa hmu;have hnp:na≤1000000000000:=(by have:=Nat.mul_le_mul_right 1000000 (show pre.length≤1000000 by rw [←Hone.out] at honl;omega);omega);have hnp1:na+1000000≤(pre ++ [x]).length * 1000000:=(by rw [List.length_append,List.length_singleton,Nat.add_mul];omega);have HPn:Hid (∀(s:Int→Bool) b,¬Ab sr s (aE f) (pre ++ [x]) b→¬(b=M)→(∀y,sa y=true→s y=true)→¬Ab sr sa (aE f) pre b):=aa (fun s b hn hbM hs hp=>hn (by
       rcases hp with ⟨p1,p2⟩ | p
       ·refine .inl ⟨p1,fun y hy=> ?_⟩;rcases List.mem_append.1 hy with hy | hy
        ·exact p2 y hy
        ·rw [List.mem_singleton.1 hy,Hgv.out,hM];omega
       ·exact .inr (hs _ p)))
      rw [hM];clear hInv hmu bX;by_cases hin:sr M=true
      ·rw [hin] at hlk;have CG:=aa (HG.out (X.alloc (.cells #[] 104)) H' S2.out.1.1 S2.out.1.2 M hMN (fun b hb=>Ic HIn.out hb));have kb1:=S2.out.2.1.1.cell;have ho:∀b,b≠M→fS V f H' M (fun _=>true) b=H' b:=fun b hb=>funext fun p=>if_neg (fun e=>hb e.1);have hStp:=aa (fun(pend':Nat→Prop) (hp:∀b,b < f.2.2.2.1.length→¬pend' b→(b=M∨¬Ab sr sa (aE f) pre b)∧(fS V f H' M (fun _=>true) M 0=H' M 0∨(M:Int) ∉ aB f b))=>Ce HT.out HP.out HIn.out hMN ho (fun p _=>pC rfl) hp);have HE0:Hid (fS V f H' M (fun _=>true) M 0=fM V f (fun b=>H' b 0) M 0):=aa (pC rfl);obtain⟨pb,pq,lo,lc,rfl,hPr⟩:=HPr2.out M hMN;have kpl:(aY f M f.2.2.2.1.length).length≤1000000:=Nat.le_trans (kU _ _ _) hN;have HPd:=aa (fun i (hi:i < (aY f M f.2.2.2.1.length).length)=>by
        have hm:(aY f M f.2.2.2.1.length).getD i 0∈aY f M f.2.2.2.1.length:=(by rw [List.getD_eq_getElem?_getD,List.getElem?_eq_getElem hi];exact List.getElem_mem hi);have:=vE f M f.2.2.2.1.length _ hm;exact(⟨((aY f M f.2.2.2.1.length).getD i 0).toNat,by omega,by omega⟩:∃P:Nat,(aY f M f.2.2.2.1.length).getD i 0=(P:Int)∧P < f.2.2.2.1.length))
       have HNx:=aa (fun b (hb:b < f.2.2.2.1.length) (h:(M:Int)∈aB f b)=>rI hb h);generalize fS V f H' M (fun _=>true)=H2 at *;obtain⟨ps,hps⟩:∃ps,aY f M f.2.2.2.1.length=ps:=⟨_,rfl⟩;rw [hps] at hPr kpl HPd HNx;have HPm:=aa hPr;have HSl:=aa (fun w' (K:Kf (iV f q) w w')=>(hPr w' (HLW.out w' K)).2.2);obtain⟨pl,hpl⟩:∃pl,ps.length=pl:=⟨_,rfl⟩;have Hpl:=aa hpl;have CG2:Hid (Calls Tryz.prog 71 #[.pointer (some ⟨lp,0,none⟩),.int .i64 M] (X.alloc (.cells #[] 104)) fun e X2=>∃r:Bool,e= .returned (.bool r)∧X2.cell? ⟨w.heap.size,0,none⟩=some (.pointer (some ⟨lp,0,none⟩))∧X2.cell? ⟨lp,7,none⟩=some (.slice (some ⟨pb,pq,none⟩) f.2.2.2.1.length cp)∧X2.cell? ⟨pb,pq+M,none⟩=some (.slice lo pl lc)∧
         Hid (r=false→fM V f (fun b=>H' b 0) M 0=H' M 0)∧Hid (r=true→fM V f (fun b=>H' b 0) M 0≠H' M 0)∧Hid (StM f V W wB.heap.size lp q w w.heap.size b3 b4 go mr ma oc Ds nr na sr sa H2 X2)∧Hid (KeepsFrom w1.heap.size X X2)∧Hid (KpO go Bs X X2)∧w1.heap.size≤X2.heap.size):=aa (CG.out.mono (by
        rintro e X2 ⟨r,rfl,q1,q2,q3,q4⟩;have hno:∀b,w.heap.size≤b→¬iV f q b:=fun b hb h=>by have:=Dp HLt.out h;omega
        have hn1:=HN.out.1;have St:=S2.out.step q4 q3 (fun b hb=> .inl hb) (hno _ (Nat.le_refl _)) (hno _ hn1.2.1) (hno _ hn1.2.2.1) (hno _ hn1.2.2.2.1) (fun D hD=>hno _ (HN.out.2.2.2.1 D hD)) (S2.out.2.2.1.1.kf q4 (hno _ hn1.2.2.2.2.1)) (S2.out.2.2.1.2.kf q4 (hno _ hn1.2.2.2.2.2));have hPx:=hPr X2 (HLW.out X2 St.1.1);rw [hpl] at hPx;exact⟨r,rfl,St.2.1.1.cell,hPx.1,hPx.2.1,aa q1,aa q2,aa St,aa (KF1.out.trans (Dh q4 fun b hb=>by have:=Dp HLt.out hb;omega)),
         aa (KO1.out.trans (vm q4 (by have:=(S2.out.lts).2.2.2.2.1;exact this) (by omega) (hno _ hn1.2.2.2.1) (hno _ (by omega)))),Nat.le_trans hsz1 q4.2.2.2.1⟩))
       rw [hpl] at kpl HPd;clear hPr hSt ho CG hpl hps;gi_wp2_with (refine⟨trivial,?_⟩;gi_at_call 71;refine(CallsIn.inRound l (callsIn_wide.2 CG2.out)).mono ?_;rintro e X2 ⟨r,rfl,kk1,kk2,kk3,Q1,Q2,S3,KF3,KO3,hsz3⟩)
       ·have hrt:r=true:=(by assumption);gi_loopw [57] (fun iv X'=>∃I:Nat,I≤pl∧iv= .int .i64 I∧Hid (StM f V W wB.heap.size lp q w w.heap.size b3 b4 go mr ma oc Ds nr (na+I) sr (fun y=>ay (ps.take I) y || sa y) H2 X')∧Hid (KeepsFrom w1.heap.size X X')∧Hid (KpO go Bs X X')∧w1.heap.size≤X'.heap.size) (fun iv _=>pl - (intOf iv).toNat)
        case atStart=>exact⟨0,Nat.zero_le _,rfl,aa (by rw [List.take_zero];exact S3.out),KF3,KO3,hsz3⟩
        case round=>
         clear S3 KF3 KO3 hsz3 kk1 kk2 kk3;obtain⟨I,hI,rfl,HS,HKF,HKO,hsz⟩:=hrel;by_cases hit:I < pl
         ·have hiI:(I:Int) < pl:=(by omega);obtain⟨P,hP,hPN⟩:=HPd.out I hit;obtain⟨y0,o0,rfl,cI⟩:=dP (HSl.out _ HS.out.1.1) (i:=I) (by rw [Hpl.out];exact hit);rw [hP] at cI;have kb4:=HS.out.2.1.2.2.1.cell;obtain⟨X3,hr,hm3,hg3⟩:=HS.out.2.2.1.2.put (by unfold maxLen;omega) (sf (n:=P) (by omega));have hkf:=oG hg3;obtain⟨es,cl,hmap⟩:=HS.out.2.2.1.2.isMap;have hNo:∀(b:Nat) (cs:Array Value) (t:TypeId),wr.heap[b]? =some (.cells cs t (0,0))→¬b=ma:=fun b cs t h e=>by rw [e,hmap] at h;cases h
          have hn1:=HN.out.1;have S5:Hid (StM f V W wB.heap.size lp q w w.heap.size b3 b4 go mr ma oc Ds nr (na+(I+1)) sr (fun y=>ay (ps.take (I+1)) y || sa y) H2 X3):=aa (by
           have e:(fun y=>decide (y=(P:Int)) || (ay (ps.take I) y || sa y))=fun y=>ay (ps.take (I+1)) y || sa y:=funext fun y=>by
            have hl:ps[I]? =some (P:Int):=(by rw [←hP,List.getD_eq_getElem?_getD,List.getElem?_eq_getElem (by rw [Hpl.out];exact hit)];rfl);rw [aR hl];unfold ay;rw [List.any_append,List.any_cons,List.any_nil,Bool.or_false,←Bool.or_assoc];congr 1
            rw [Bool.or_comm];congr 1
            rw [decide_eq_decide];exact eq_comm
           rw [←e,←Nat.add_assoc];exact HS.out.step hkf (HS.out.1.2.kf HLt.out hkf fun b hb=>by rw [hb];exact hn1.2.2.2.2.2) (fun b hb=> .inr (by rw [hb];exact hn1.2.2.2.2.2)) (hNo _ _ _ HS.out.2.1.1) (hNo _ _ _ HS.out.2.1.2.1) (hNo _ _ _ HS.out.2.1.2.2.1) (hNo _ _ _ HS.out.2.1.2.2.2)
            (fun D' hD' e=>by have:=HS.out.2.2.2 D' hD';rw [e,hmap] at this;cases this) (HS.out.2.2.1.1.kf hkf (fun e=>HN.out.2.1 e)) hm3)
          have KF5:Hid (KeepsFrom w1.heap.size X X3):=aa (HKF.out.trans (KeepsFrom.of_grownBy hg3 (fun j e=>by cases e;exact lma)));have KO5:Hid (KpO go Bs X X3):=aa (HKO.out.trans (vm hkf (by omega) (by omega) (hNo _ _ _ HS.out.2.1.2.2.2) (by omega)));have hsz5:=Nat.le_trans hsz hg3.size;clear hm3 hg3 hkf hmap hNo hP HKF HKO hn1;gi_wp2
          go_roundw
          case rel=>exact⟨I+1,by omega,by go_num,S5,KF5,KO5,hsz5⟩
          case measure=>simp [intOf];omega
         ·obtain rfl:pl=I:=(by omega);have hfull:ps.take pl=ps:=List.take_of_length_le (by rw [Hpl.out];exact Nat.le_refl _);have hst:=hStp.out (Ab sr (fun y=>ay (ps.take pl) y || sa y) (aE f) (pre ++ [x])) (fun b hb hn=>by
           refine⟨?_,.inr fun h=>hn (.inr (by show(ay (ps.take pl) (b:Int) || sa b)=true;rw [hfull,aZ.2 (HNx.out b hb h),Bool.true_or]))⟩;by_cases e:b=M
           ·exact .inl e
           ·exact .inr (HPn.out _ b hn e fun y hy=>by rw [hy,Bool.or_true]))
          have hlt2:muS V f H2 < muS V f H':=K8 hst.2 hMN (by rw [HE0.out];exact yp _ _ _ _ _) (by rw [HE0.out];exact Q2.out hrt);have hmu2:(na+pl=0∧muS V f H2≤muS V f H)∨muS V f H2 < muS V f H:= .inr (by rcases HMu.out with q | q <;> omega);have HFin:=aa hst.1;have HMu2:=aa hmu2;have hbd:na+pl≤(pre ++ [x]).length * 1000000:=Nat.le_trans (by omega) hnp1;clear hst hlt2 hmu2 hit hfull;gi_wp2
          exact⟨HKF.out,HKO.out,hsz,H2,na+pl,_,HS.out,HFin.out,hbd,HMu2.out⟩
       ·have hrf:r=false:=(by assumption);have hst:=hStp.out (Ab sr sa (aE f) (pre ++ [x])) (fun b hb hn=>by
         refine⟨?_,.inl (HE0.out.trans (Q1.out hrf))⟩;by_cases e:b=M
         ·exact .inl e
         ·exact .inr (HPn.out _ b hn e fun y hy=>hy))
        have hle:=KU (V:=V) hst.2;exact⟨KF3.out,KO3.out,hsz3,H2,na,sa,S3.out,hst.1,Nat.le_trans (Nat.le_add_right _ _) hnp1,by rcases HMu.out with ⟨q1,q2⟩ | q;exact .inl ⟨q1,Nat.le_trans hle q2⟩;exact .inr (Nat.lt_of_le_of_lt hle q)⟩
      ·have hin':sr M=false:=(by simpa using hin);rw [hin'] at hlk;gi_wp2
       refine⟨trivial,?_⟩;gi_wp2
       refine⟨KF1.out,KO1.out,hsz1,H',na,sa,S2.out,HIn.out.GQ fun b hb hn hp=> ?_,Nat.le_trans (Nat.le_add_right _ _) hnp1,HMu.out⟩;by_cases e:b=M
       ·subst e;rcases hp with ⟨p1,_⟩ | p
        ·exact hin p1
        ·exact hn (.inr p)
       ·exact HPn.out sa b hn e (fun _ h=>h) hp
     case done=>
      rintro D ys X hDs hS ⟨_,H',na,sa,hSt,hInv,hna,hmu⟩ hK;have hSt2:StM f V W wB.heap.size lp q w w.heap.size b3 b4 go mr ma oc (D :: Ds) nr na sr sa H' X:=⟨hSt.1,hSt.2.1,hSt.2.2.1,fun D' hD'=>by
       rcases List.mem_cons.1 hD' with rfl | hD'
       ·exact hK
       ·exact hSt.2.2.2 D' hD'⟩
      have HN2:Hid (StN w w.heap.size b3 b4 go mr ma (D :: Ds)):=aa ⟨HN.out.1,HN.out.2.1,HN.out.2.2.1,fun D' hD'=>by
       rcases List.mem_cons.1 hD' with rfl | hD'
       ·omega
       ·exact HN.out.2.2.2.1 D' hD',List.nodup_cons.2 ⟨fun hD'=>by have:=lDs D hD';omega,HN.out.2.2.2.2⟩⟩
      obtain⟨w3,hcl,hm3,hg3⟩:=hSt.2.2.1.1.clear;have hkf:=oG hg3;obtain⟨es,cl,hmap⟩:=hSt.2.2.1.1.isMap;have hNo:∀(b:Nat) (cs:Array Value) (t:TypeId),X.heap[b]? =some (.cells cs t (0,0))→¬b=mr:=fun b cs t h e=>by rw [e,hmap] at h;cases h
      have S3:=aa (hSt2.step hkf (hSt.1.2.kf HLt.out hkf fun b hb=>by rw [hb];exact HN.out.1.2.2.2.2.1) (fun b hb=> .inr (by rw [hb];exact HN.out.1.2.2.2.2.1)) (hNo _ _ _ hSt.2.1.1) (hNo _ _ _ hSt.2.1.2.1) (hNo _ _ _ hSt.2.1.2.2.1) (hNo _ _ _ hSt.2.1.2.2.2)
       (fun D' hD' e=>by have:=hSt2.2.2.2 D' hD';rw [e,hmap] at this;cases this) hm3 (hSt.2.2.1.2.kf hkf (fun e=>HN.out.2.1 e.symm)))
      have S4:=aa (GV HLt.out HN2.out S3.out);have kb3:=hSt.2.1.2.1.cell;have kc3:=S3.out.2.1.2.1.cell;have kc4:=S3.out.2.1.2.2.1.cell;have kf3:=S3.out.2.1.2.1.frozen;have kf4:=S3.out.2.1.2.2.1.frozen;have kd4:=(S3.out.2.1.2.2.1.other HN2.out.2.2.1.symm (.map (some ma))).cell;have ke4:=(S3.out.2.1.2.2.1.other HN2.out.2.2.1.symm (.map (some ma))).frozen;have HIn:=aa hInv;have HMu:=aa hmu;have hyl:ys.length=(aE f).length:=(by have:=congrArg List.length hS;simpa using this);have hna2:na≤1000000000000:=(by rw [hyl,Hone.out] at hna;have:=Nat.mul_le_mul_right 1000000 honl;omega);have HS':=aa hS;clear hSt hSt2 hInv hmu hna hm3 hg3 hkf hmap hNo hyl hS;go_wp2_with fail
      refine⟨2 * muS V f H'+(if na=0 then 0 else 1),?_,ma,mr,D :: Ds,na,sa,H',_,_,_,_,_,_,_,_,_,_,_,_,_,_,_,_,_,_,_,_,_,_,_,_,_,_,_,_,_,_,_,_,_,_,_,_,_,_,_,_,_,_,_,_,_,_,_,_,_,_,_,_,_,_,_,_,_,_,_,_,_,_,_,⟨S4,aa ⟨⟨HN2.out.1.1,HN2.out.1.2.1,HN2.out.1.2.2.1,HN2.out.1.2.2.2.1,HN2.out.1.2.2.2.2.2,HN2.out.1.2.2.2.2.1⟩,HN2.out.2.1.symm,HN2.out.2.2⟩,aa (HIn.out.GQ fun b hb hnot hp=> ?_),hna2,Nat.le_refl _⟩,rfl⟩
      ·rcases HMu.out with ⟨q1,q2⟩ | q
       ·rw [if_pos q1];omega
       ·split <;> omega
      ·rcases hp with ⟨_,hall⟩ | h
       ·obtain⟨j,hj,e⟩:=List.mem_iff_getElem.1 (HRr.out b hb);have hjm:j∈ys.map (·.1):=(by rw [HS'.out];exact List.mem_reverse.2 (List.mem_range.2 hj));obtain⟨y,hy,hye⟩:=List.mem_map.1 hjm;refine hall y hy ?_;rw [hye,List.getD_eq_getElem?_getD,List.getElem?_eq_getElem hj];exact e
       ·exact hnot h
     case stop=>
      rintro D c pre W _ _ h _;exact h.elim
end Go.Proofs.YtaiaakklokahjaaGreatDoor
