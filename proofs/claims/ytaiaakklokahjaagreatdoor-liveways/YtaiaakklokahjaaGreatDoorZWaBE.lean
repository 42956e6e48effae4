/- Texts of one chain, joined. -/
import Derived.Test.YtaiaakklokahjaaGreatDoorZWaBC
set_option maxHeartbeats 4000000
set_option maxRecDepth 20000
namespace Go.Proofs.YtaiaakklokahjaaGreatDoor
open Go Go.RowKit
open G (Tok Er Ins Fun)
open Mix (Up)
theorem Am {P:Program} {ops:Array Oper} {o:Oper} {a:Act} {w:World} {K:Act→World→Prop} {Q:Exit→Act→World→Prop} {E:Prop} (hgd:o.guard=none) (s x:Operand) (t:TypeId)
  (ho:o.op= .call {callee:= .builtin .append,args:= #[s,x],argTypes:= #[t,t]}) (v vx:Value) (hs:a.eval s=v) (hx:a.eval x=vx) (v2:Value) (w2:World) (hr:(Builtin.append_ #[t,t] o.type #[v,vx]).run P w= .ok v2 w2)
  (h:K (a.put o.dst v2) w2):if Region.wanted o (yielded ops a.tmps)=true then Oper.wp P o a w K Q else E:=by
 have hw:Region.wanted o (yielded ops a.tmps)=true:=by simp [Region.wanted,hgd]
 rw [if_pos hw];unfold Oper.wp;simp [execOp,ho,resolve,invoke,builtin,hs,hx,hr,Result.andThen];exact h
theorem DM {ops:Array Oper} {o:Oper} {a:Act} {w:World} {K:Act→World→Prop} {Q:Exit→Act→World→Prop} {E:Prop} (hgd:o.guard=none) (x:Operand) (t:Array TypeId)
  (ho:o.op= .call {callee:= .value (.func 66),args:= #[x],argTypes:=t}) (vx v2:Value) (w2:World) (hx:a.eval x=vx) (h:Calls Tryz.prog 66 #[vx] w fun e w'=>e= .returned v2∧w'=w2) (hk:K (a.put o.dst v2) w2):if Region.wanted o (yielded ops a.tmps)=true then Oper.wp Tryz.prog o a w K Q else E:=by
 have hw:Region.wanted o (yielded ops a.tmps)=true:=by simp [Region.wanted,hgd]
 rw [if_pos hw];have hr:(execOp a.eval o).run Tryz.prog w= .ok (.enter 66 #[vx]) w:=by
  subst hx;simp [execOp,ho,go_sem]
 unfold Oper.wp;rw [hr];exact h.mono fun e w' ⟨he,hk2⟩=>by subst he hk2;exact hk
theorem BgW.below {f:Fun} {W lp K:Nat} {wB w w':World} {fc:List Value} {jv rv:Value} {G C:Nat→Nat→Nat} {R CR J CJ:Nat→Nat} (h:BgW f W wB lp fc K jv rv G C R CR J CJ w) (b:Below w.heap.size w w'):BgW f W wB lp fc K jv rv G C R CR J CJ w':=by
 obtain⟨⟨h1,h2,h3⟩,h4,h5,h6,h7⟩:=h;exact⟨⟨ae h1 b,h2,(b.block lp (Array.getElem?_eq_some_iff.1 h3).1).trans h3⟩,az b _ _ _ _ _ _ h4,az b _ _ _ _ _ _ h5,h6.below b,h7⟩
theorem Tryz.JT:(Tryz.prog.info? 98).map (fun i=>(i.zero,i.size,i.bytes))=some (some (.slice none 0 0),1,24):=by kernel_rfl
theorem Tryz.Jq:(Tryz.prog.info? 66).map (fun i=>(i.zero,i.size,i.bytes))=some (some (.slice none 0 0),1,24):=by kernel_rfl
theorem Tryz.Iq:Tryz.prog.underlying 66=some (.slice 98):=by kernel_rfl
theorem Tryz.KP:Tryz.prog.underlying 67=some (.slice 66):=by kernel_rfl
def Up.Iu (B:Nat) (ll:List (List Int)):Up:=⟨fun v w=>bf B w ll v,fun _ _ _ b h=>h.below b⟩
def LkN (f:Fun) (B:Nat) (fc:List Value) (v:Value) (w:World):Prop:=∃u1 u2 u3,v= .agg (fc ++ [u1,u2,u3,.slice none 0 0,.slice none 0 0]).toArray∧vC B w (aP f) u1∧bf B w (aC f) u2∧bf B w (aJ f) u3
def Up.lkN (f:Fun) (B:Nat) (fc:List Value):Up:=⟨fun v w=>LkN f B fc v w,fun _ _ _ b ⟨u1,u2,u3,e,h1,h2,h3⟩=>⟨u1,u2,u3,e,az b _ _ _ _ _ _ h1,h2.below b,h3.below b⟩⟩
def LkB (f:Fun) (w0:World) (fc:List Value) (v:Value) (w:World):Prop:=∃b wB u1 u2 u3,v= .pointer (some ⟨b,0,none⟩)∧(Below w0.heap.size w0 wB∧Below wB.heap.size wB w∧wB.heap.size≤b)∧w.heap[b]? =some (.cells (fc ++ [u1,u2,u3,.slice none 0 0,.slice none 0 0]).toArray 69 (0,0))∧vC w0.heap.size wB (aP f) u1∧bf w0.heap.size wB (aC f) u2∧bf w0.heap.size wB (aJ f) u3
def Up.lkB (f:Fun) (w0:World) (fc:List Value):Up:=⟨fun v w=>LkB f w0 fc v w,fun _ _ _ k ⟨b,wB,u1,u2,u3,e,⟨h1,h2,h3⟩,h4,h5⟩=>⟨b,wB,u1,u2,u3,e,⟨h1,ae h2 k,h3⟩,(k.block b (Array.getElem?_eq_some_iff.1 h4).1).trans h4,h5⟩⟩
def LR (f:Fun) (w0:World) (fv:Value) (fc:List Value) (t:Tmp):Up:=match t with
 |12 | 13 | 15 | 17=>Up.eq fv
 |14=>Up.LK w0.heap.size (aP f)
 |16=>Up.Iu w0.heap.size (aC f)
 |18=>Up.Iu w0.heap.size (aJ f)
 |19=>Up.lkN f w0.heap.size fc
 |20 | 3=>Up.lkB f w0 fc
 |_=>Up.any
theorem Hc (w:World) (e:TypeId) (xs:List Value) (hm:xs.length≤10000000):bg (w.alloc (.cells xs.toArray e)) w.heap.size e w.heap.size xs.length xs:=
 ⟨by omega,.inr ⟨w.heap.size,xs.length,xs.toArray,rfl,Nat.le_refl _,heap_alloc_new w _,Nat.le_refl _,by unfold maxLen;omega,by rw [List.size_toArray];omega,by rw [Nat.mul_one];exact List.take_of_length_le (Nat.le_refl _)⟩⟩
theorem nD.new (W B:Nat) (w:World) (m:Nat) (hm:m≤10000000):nD W B w.heap.size w.heap.size m 0 (fun _=>0) (fun _=>0) (w.alloc (.cells (List.replicate m (Value.slice none 0 0)).toArray 98)):=by
 have h:=Hc w 98 (List.replicate m (Value.slice none 0 0)) (by simpa using hm);rw [List.length_replicate] at h;exact⟨h,fun _ h=>absurd h (Nat.not_lt_zero _),fun _ _ h=>absurd h (Nat.not_lt_zero _)⟩
theorem GS {w:World} {n0 r m B:Nat} {g:Nat→Value} (h:bg w n0 98 r m ((List.range m).map g ++ List.replicate (m - m) (.slice none 0 0))) (hB:B≤n0):w.ownsRow B 98 1 (.slice (some ⟨r,0,none⟩) m m) m ((List.range m).map g):=by
 have:=bg.base h hB;rwa [Nat.sub_self,List.replicate_zero,List.append_nil] at this
theorem tW {w:World} {b e s n:Nat} {v:Value} {xs:List Value} (h:w.ownsRow b e s v n xs) (hn:0 < n):∃g c,v= .slice (some ⟨g,0,none⟩) n c:=by
 rcases h.2 with ⟨_,h2⟩ | ⟨g,c,_,e,_⟩
 ·omega
 ·exact⟨g,c,e⟩
theorem Eo {w:World} {B n c:Nat} {l:List Int} {ao:Option Addr} (h:w.ownsRow B 3 1 (.slice ao n c) l.length (ints l)):Sl w ao l:=by
 obtain⟨ao',cap,e,h'⟩:=L5.zh (show w.ownsRow B 3 1 (.slice ao n c) l.length (l.map (Value.int .i64)) from h);injection e with e1 e2 e3;subst e1;rcases h' with h' | ⟨b,e,hb,hc⟩
 ·exact .inl h'
 ·refine .inr ⟨b,0,e,hb,fun i n hn=> ?_⟩;rw [Nat.zero_add,hc i (List.getElem?_eq_some_iff.1 hn).1];unfold L5.nth;rw [List.getD_eq_getElem?_getD,hn];rfl
theorem uE {w:World} {B n c:Nat} {ll:List (List Int)} {ao:Option Addr} (h:bf B w ll (.slice ao n c)):jL w ao ll:=by
 obtain⟨ao',c',e,h1,_⟩:=h.read;injection e with e1;subst e1;exact h1
theorem Gh {b:List Ins} {I:Nat} (h:I < phN b):(b.takeWhile fun x=>decide (x.1=20)).take (I+1)=(b.takeWhile fun x=>decide (x.1=20)).take I ++ [b.getD I Dx]:=by
 refine aR ?_;obtain⟨t,ht⟩:=List.takeWhile_prefix (l:=b) fun x=>decide (x.1=20);have e:b[I]? =(b.takeWhile fun x=>decide (x.1=20))[I]? :=by
  conv=>lhs;rw [←ht]
  exact List.getElem?_append_left h
 rw [←e,List.getD_eq_getElem?_getD,List.getElem?_eq_getElem (Nat.lt_of_lt_of_le h (kX b))];rfl
theorem DB {f:Fun} {K:Nat} (h:K < f.2.2.2.1.length):(f.2.2.2.1.take (K+1)).flatMap jnP=(f.2.2.2.1.take K).flatMap jnP ++ ((ag f K).takeWhile fun x=>decide (x.1=20)).flatMap phP:=by
 rw [aR (de h),List.flatMap_append,List.flatMap_singleton];rfl
theorem xQ {f:Fun} {K I:Nat} (hK:K < f.2.2.2.1.length) (hI:I < (ag f K).length):(au f K I).2.2.2.2.1.length≤(ml f).length:=by
 have h:=yf hK (I+1);rw [qw hI,List.length_append] at h;omega
theorem rE {f:Fun} {K I:Nat} (hI:I < (ag f K).length):au f K I∈ag f K:=by
 unfold au;rw [List.getD_eq_getElem?_getD,List.getElem?_eq_getElem hI];exact List.getElem_mem _
theorem BgW.full {f:Fun} {W lp N vl B1 B2 B3:Nat} {wB w:World} {fd:List Value} {jv rv:Value} {G C:Nat→Nat→Nat} {R CR J CJ:Nat→Nat} {nm:ByteArray} {lp0:Option Addr} {lps cp:Nat} {rt:Int} {lb:Option Addr} {cb:Nat} {pl:Int} {va:Option Addr} {cv:Nat} {so:Option Addr} {cs:Nat} {po:Option Addr} {cp2:Nat}
  (h:BgW f W wB lp fd N jv rv G C R CR J CJ w) (hN:f.2.2.2.1.length=N) (h0:0 < N) (hf:bS wB f (.agg #[.string nm,.slice lp0 lps cp,.int .i64 rt,.slice lb N cb,.int .i64 pl])) (hT:L5.Tab wB) (r1:vC B1 wB (aP f) (.slice va (aP f).length cv)) (r2:bf B2 wB (aC f) (.slice so (aC f).length cs)) (r3:bf B3 wB (aJ f) (.slice po (aJ f).length cp2))
  (hfd:fd= [.string nm,.slice lp0 lps cp,.int .i64 rt,.slice lb N cb,.int .i64 pl,.slice va vl cv,.slice so (aC f).length cs,.slice po (aJ f).length cp2]) (hvl:(aP f).length=vl):
  ∃gj cj gr cr,LkW f (aP f) W wB lp (G,C,R,CR,J,CJ,(gj,cj,gr,cr),(nm,lp0,lps,cp,rt,lb,cb,pl),(va,cv,so,cs,po,cp2)) w∧LkJ f (aP f) W wB.heap.size [] (G,C,R,CR,J,CJ,(gj,cj,gr,cr),(nm,lp0,lps,cp,rt,lb,cb,pl),(va,cv,so,cs,po,cp2)) w∧LkT f (G,C,R,CR,J,CJ,(gj,cj,gr,cr),(nm,lp0,lps,cp,rt,lb,cb,pl),(va,cv,so,cs,po,cp2)):=by
 obtain⟨⟨h1,h2,h3⟩,h4,h5,⟨s1,⟨s2,s3⟩,a1,a2,a3⟩,_⟩:=h;obtain⟨gj,cj,rfl⟩:=tW h4 h0;obtain⟨gr,cr,rfl⟩:=tW h5 h0;subst hN hvl;refine⟨gj,cj,gr,cr,⟨⟨h1,hf,Eo r1,uE r2,uE r3,hT⟩,⟨h2,?_⟩,h4,h5,s1⟩,⟨s2,fun k hk=>by rw [Gu];exact s3 k hk⟩,⟨a1,a2⟩,a3⟩;rw [h3,hfd,bP,kL];rfl
theorem Br (f:Fun) (v:Value) (w:World) (hv:bS w f v) (hF:Ful f) (hT:Tos f) (hM:Mod f) (hA:(ml f).length≤1000000) (hTb:L5.Tab w) (hN0:0 < f.2.2.2.1.length):
  Calls Tryz.prog 33 #[v] w fun e w'=>∃lp W wB q,e= .returned (.pointer (some ⟨lp,0,none⟩))∧W=((aP f).length+63) / 64∧Below w.heap.size w wB∧LkW f (aP f) W wB lp q w'∧LkD f (aP f) W wB.heap.size (fun _ _=>noB) q w'∧LkA f q:=by
 have HLp:Hid (∀k,k < f.2.2.2.1.length→0 < (ag f k).length):=aa (fun k hk=>List.length_pos_iff.2 (hF.2 _ (List.mem_of_getElem? (de hk))).1);have HXa:Hid (∀k,k < f.2.2.2.1.length→∀i,i < (ag f k).length→∀a∈(au f k i).2.2.2.2.1,a∈aP f):=aa (fun k hk i hi a ha=>ry.2 ⟨_,List.mem_of_getElem? (de hk),_,rE hi,ha⟩);have HXz:Hid (∀k,k < f.2.2.2.1.length→∀i,i < (ag f k).length→(au f k i).2.2.2.2.1.length≤1000000∧(au f k i).2.2.2.2.2.1.length≤1000000):=aa (fun k hk i hi=>⟨Nat.le_trans (xQ hk hi) hA,(hF.2 _ (List.mem_of_getElem? (de hk))).2 _ (rE hi)⟩);have HTb:=aa hTb;have HN0:=aa hN0;obtain⟨lp0,cp,lb,cb,rfl,_,_⟩:=dx hv;have b1:=af w (.cells (fC (bs f.1) lp0 lb f.2.1.length cp f.2.2.2.1.length cb f.2.2.1 f.2.2.2.2) 29);have H0:=aa (heap_alloc_new w (.cells (fC (bs f.1) lp0 lb f.2.1.length cp f.2.2.2.1.length cb f.2.2.1 f.2.2.2.2) 29));have B1:=aa b1;have C1:=aa (fun w' (k:Below w.heap.size w w')=>zU f _ w' (hv.below k) hM hA);have C2:=aa (fun w' (k:Below w.heap.size w w')=>nk f _ w' (hv.below k) hF hT);have C3:=aa (fun w' (k:Below w.heap.size w w')=>Bh f _ w' (hv.below k) hF hT);have HFv:=aa hv;have HA0:=aa hA;clear hv b1 hA hTb hN0;obtain⟨N,hNe⟩:∃N,f.2.2.2.1.length=N:=⟨_,rfl⟩;have HNe:=aa hNe;obtain⟨nm,hnm⟩:∃n,bs f.1=n:=⟨_,rfl⟩;obtain⟨rt,hrt⟩:∃n,f.2.2.1=n:=⟨_,rfl⟩;obtain⟨pl,hpe⟩:∃n,f.2.2.2.2=n:=⟨_,rfl⟩;obtain⟨lps,hlps⟩:∃n,f.2.1.length=n:=⟨_,rfl⟩;rw [hNe] at HLp HXa HXz HN0;rw [hNe,hnm,hrt,hpe,hlps] at B1 H0 C1 C2 C3 HFv ⊢;clear hNe hnm hrt hpe hlps;go_enter Tryz.func33,Tryz.ntmps33
 go_upto_region 1 with fail
 show Code.wp _ _ _ _ (w.alloc (.cells (fC nm lp0 lb lps cp N cb rt pl) 29));generalize w.alloc (.cells (fC nm lp0 lb lps cp N cb rt pl) 29)=W1 at *;have xs:=fun w' (k:Below W1.heap.size W1 w')=>(eW ((k.block _ (Array.getElem?_eq_some_iff.1 H0.out).1).trans H0.out)).1;have C41:∀w',Below W1.heap.size W1 w'→Calls Tryz.prog 63 #[.agg (fC nm lp0 lb lps cp N cb rt pl)] w' fun e w''=>∃u,e= .returned u∧Below w'.heap.size w' w''∧vC W1.heap.size w'' (aP f) u:=fun w' k=>(C1.out w' (ae B1.out k)).mono fun e w'' ⟨u,he,h1,h2⟩=>⟨u,he,h2,aL h1 k.size⟩;have C42:∀w',Below W1.heap.size W1 w'→Calls Tryz.prog 64 #[.agg (fC nm lp0 lb lps cp N cb rt pl)] w' fun e w''=>∃u,e= .returned u∧Below w'.heap.size w' w''∧bf W1.heap.size w'' (aC f) u:=fun w' k=>(C2.out w' (ae B1.out k)).mono fun e w'' ⟨u,he,h1,h2⟩=>⟨u,he,h2,h1.base k.size⟩;have C43:∀w',Below W1.heap.size W1 w'→Calls Tryz.prog 65 #[.agg (fC nm lp0 lb lps cp N cb rt pl)] w' fun e w''=>∃u,e= .returned u∧Below w'.heap.size w' w''∧bf W1.heap.size w'' (aJ f) u:=fun w' k=>(C3.out w' (ae B1.out k)).mono fun e w'' ⟨u,he,h1,h2⟩=>⟨u,he,h2,h1.base k.size⟩;obtain⟨fc,hfc⟩:∃fc:List Value,fc= [.string nm,.slice lp0 lps cp,.int .i64 rt,.slice lb N cb,.int .i64 pl]:=⟨_,rfl⟩;refine Mix.eV (LR f W1 (.agg (fC nm lp0 lb lps cp N cb rt pl)) fc) (by kernel_rfl) (by kernel_rfl) ?_;refine Mix.aj rfl (aq (.agg (fC nm lp0 lb lps cp N cb rt pl)) rfl) ?_ ?_
 ·intro w b k;obtain⟨x0,x1,x2,x3,x4⟩:=xs w b;clear k;simp [go_sem,x0,x1,x2,x3,x4];exact⟨Below.refl _ _,fun d hd=>by cases hd;rfl⟩
 rintro v ⟨_,_,h⟩;obtain rfl:v=(.agg (fC nm lp0 lb lps cp N cb rt pl)):=h _ rfl;clear h;simp only [Act.put,sU1,sU2,sU3];refine Mix.aj rfl (aq (.agg (fC nm lp0 lb lps cp N cb rt pl)) rfl) ?_ ?_
 ·intro w b k;obtain⟨x0,x1,x2,x3,x4⟩:=xs w b;clear k;simp [go_sem,x0,x1,x2,x3,x4];exact⟨Below.refl _ _,fun d hd=>by cases hd;rfl⟩
 rintro v ⟨_,_,h⟩;obtain rfl:v=(.agg (fC nm lp0 lb lps cp N cb rt pl)):=h _ rfl;clear h;simp only [Act.put,sU1,sU2,sU3];refine Mix.aj rfl (fu (C41 W1 (Below.refl _ _))) ?_ ?_
 ·intro w b k;clear k;simp [go_sem];exact Calls.mono (C41 w b) fun e w' ⟨v,he,hb,hf⟩=>⟨v,he,hb,fun d hd=>by cases hd;exact hf⟩
 rintro p14 -;simp only [Act.put,sU1,sU2,sU3];refine Mix.aj rfl (aq (.agg (fC nm lp0 lb lps cp N cb rt pl)) rfl) ?_ ?_
 ·intro w b k;obtain⟨x0,x1,x2,x3,x4⟩:=xs w b;clear k;simp [go_sem,x0,x1,x2,x3,x4];exact⟨Below.refl _ _,fun d hd=>by cases hd;rfl⟩
 rintro v ⟨_,_,h⟩;obtain rfl:v=(.agg (fC nm lp0 lb lps cp N cb rt pl)):=h _ rfl;clear h;simp only [Act.put,sU1,sU2,sU3];refine Mix.aj rfl (fu (C42 W1 (Below.refl _ _))) ?_ ?_
 ·intro w b k;clear k;simp [go_sem];exact Calls.mono (C42 w b) fun e w' ⟨v,he,hb,hf⟩=>⟨v,he,hb,fun d hd=>by cases hd;exact hf⟩
 rintro p16 -;simp only [Act.put,sU1,sU2,sU3];refine Mix.aj rfl (aq (.agg (fC nm lp0 lb lps cp N cb rt pl)) rfl) ?_ ?_
 ·intro w b k;obtain⟨x0,x1,x2,x3,x4⟩:=xs w b;clear k;simp [go_sem,x0,x1,x2,x3,x4];exact⟨Below.refl _ _,fun d hd=>by cases hd;rfl⟩
 rintro v ⟨_,_,h⟩;obtain rfl:v=(.agg (fC nm lp0 lb lps cp N cb rt pl)):=h _ rfl;clear h;simp only [Act.put,sU1,sU2,sU3];refine Mix.aj rfl (fu (C43 W1 (Below.refl _ _))) ?_ ?_
 ·intro w b k;clear k;simp [go_sem];exact Calls.mono (C43 w b) fun e w' ⟨v,he,hb,hf⟩=>⟨v,he,hb,fun d hd=>by cases hd;exact hf⟩
 rintro p18 -;simp only [Act.put,sU1,sU2,sU3];have hex:∃v w',Below W1.heap.size W1 w'∧LkN f W1.heap.size fc v w':=by
  obtain⟨e1,w1,u1,_,k1,r1⟩:=ft (C41 W1 (Below.refl _ _));obtain⟨e2,w2,u2,_,k2,r2⟩:=ft (C42 w1 k1);obtain⟨e3,w3,u3,_,k3,r3⟩:=ft (C43 w2 (ae k1 k2));exact⟨_,w3,ae (ae k1 k2) k3,u1,u2,u3,rfl,az k3 _ _ _ _ _ _ (az k2 _ _ _ _ _ _ r1),r2.below k3,r3⟩
 refine Mix.aj rfl ?_ ?_ ?_
 ·obtain⟨v,w',k,h⟩:=hex;exact⟨v,w',k,fun d hd=>by cases hd;exact h⟩
 ·intro w b k;have f1:vC W1.heap.size w (aP f) p14:=k 14 (by decide +kernel) (by simp [Mix.add]) p14 rfl;have f2:bf W1.heap.size w (aC f) p16:=k 16 (by decide +kernel) (by simp [Mix.add]) p16 rfl;have f3:bf W1.heap.size w (aJ f) p18:=k 18 (by decide +kernel) (by simp [Mix.add]) p18 rfl;clear k;obtain⟨a1,c1,rfl⟩:=aI f1;obtain⟨a2,c2,rfl⟩:=f2.len;obtain⟨a3,c3,rfl⟩:=f3.len;simp [go_sem];exact⟨Below.refl _ _,fun d hd=>by cases hd;exact⟨_,_,_,by rw [hfc];rfl,f1,f2,f3⟩⟩
 rintro p19 -;simp only [Act.put,sU1,sU2,sU3];have hbox:∀w',Below W1.heap.size W1 w'→∀u1 u2 u3,vC W1.heap.size w' (aP f) u1→bf W1.heap.size w' (aC f) u2→bf W1.heap.size w' (aJ f) u3→LkB f W1 fc (.pointer (some ⟨w'.heap.size,0,none⟩)) (w'.alloc (.cells (fc ++ [u1,u2,u3,.slice none 0 0,.slice none 0 0]).toArray 69)):=
  fun w' k u1 u2 u3 h1 h2 h3=>⟨w'.heap.size,w',u1,u2,u3,rfl,⟨k,af w' _,Nat.le_refl _⟩,heap_alloc_new w' _,h1,h2,h3⟩
 have hex2:∃v w',Below W1.heap.size W1 w'∧LkB f W1 fc v w':=by
  obtain⟨v,w',k,u1,u2,u3,_,h1,h2,h3⟩:=hex;exact⟨_,_,ae k (af w' _),hbox w' k u1 u2 u3 h1 h2 h3⟩
 refine Mix.aj rfl ?_ ?_ ?_
 ·obtain⟨v,w',k,h⟩:=hex2;exact⟨v,w',k,fun d hd=>by cases hd;exact h⟩
 ·intro w b k;obtain⟨u1,u2,u3,rfl,f1,f2,f3⟩:LkN f W1.heap.size fc p19 w:=k 19 (by decide +kernel) (by simp [Mix.add]) p19 rfl;clear k;have hb:=hbox w b u1 u2 u3 f1 f2 f3;obtain⟨a1,c1,rfl⟩:=aI f1;obtain⟨a2,c2,rfl⟩:=f2.len;obtain⟨a3,c3,rfl⟩:=f3.len;rw [hfc] at hb ⊢;simp [go_sem];refine⟨af w _,fun d hd=> ?_⟩
  cases hd;exact hb
 rintro p20 -;simp only [Act.put,sU1,sU2,sU3];refine Mix.aj rfl ?_ ?_ ?_
 ·obtain⟨v,w',k,h⟩:=hex2;exact⟨v,w',k,fun d hd=>by cases hd;exact h⟩
 ·intro w b k;have f1:LkB f W1 fc p20 w:=k 20 (by decide +kernel) (by simp [Mix.add]) p20 rfl;clear k;simp [go_sem];exact⟨Below.refl _ _,fun d hd=>by cases hd;exact f1⟩
 rintro p3 -;simp only [Act.put,sU1,sU2,sU3];refine Mix.iG ?_;intro w2 b2 k2;have f3:LkB f W1 fc p3 w2:=k2 3 (by simp [Mix.add]) p3 rfl;obtain⟨lp,wB,u1,u2,u3,rfl,⟨hw1,hw2,hlp⟩,hcell,r1,r2,r3⟩:=f3;clear k2 hex hex2 hbox C41 C42 C43;obtain⟨va,cv,rfl⟩:=aI r1;obtain⟨so,cs,rfl⟩:=r2.len;obtain⟨po,cp2,rfl⟩:=r3.len;have HcB:=aa hw2;have R1:=aa r1;have R2:=aa r2;have R3:=aa r3;have hHB:=aa (ae B1.out hw1);have HFs:=aa (HFv.out.below hHB.out);have HSv:=aa (HTb.out.below hHB.out);have HXs:=aa (fun wr (k:Below wB.heap.size wB wr)=>xs wr (ae hw1 k));obtain⟨vl,hvl⟩:∃n,(aP f).length=n:=⟨_,rfl⟩;have Hvl:=aa hvl;rw [hvl] at hcell;obtain⟨W,hW⟩:∃W,(vl+63) / 64=W:=⟨_,rfl⟩;obtain⟨fd,hfd⟩:∃fd:List Value,fd=fc ++ [.slice va vl cv,.slice so (aC f).length cs,.slice po (aJ f).length cp2]:=⟨_,rfl⟩;have Hfd:Hid (fd= [.string nm,.slice lp0 lps cp,.int .i64 rt,.slice lb N cb,.int .i64 pl,.slice va vl cv,.slice so (aC f).length cs,.slice po (aJ f).length cp2]):=aa (by rw [hfd,hfc];rfl);have G0:Hid (BgW f W wB lp fd 0 (.slice none 0 0) (.slice none 0 0) (fun _ _=>0) (fun _ _=>0) (fun _=>0) (fun _=>0) (fun _=>0) (fun _=>0) w2):=aa ⟨⟨hw2,hlp,by rw [hfd,List.append_assoc];exact hcell⟩,World.ownsRow_nil _ _ _ _,World.ownsRow_nil _ _ _ _,BgS.none _ _ _ _ _ _ _ _ _ _,fun _ h=>absurd h (Nat.not_lt_zero _)⟩;have HX2:=aa (xs w2 b2);clear r1 r2 r3 hw1 hw2 hcell hfd hvl b2 xs hlp;obtain⟨x0,x1,x2,x3,x4⟩:=HX2.out;go_wp2_with fail
 have hvl:vl≤1000000:=by
  rw [←Hvl.out];exact Nat.le_trans (xR f) HA0.out
 have hN:=hM.1;have HMb:=aa (fun k=>hM.blk k);have hWl:W≤1000000:=by omega
 have C44:∀w',Calls Tryz.prog 66 #[.int .i64 (vl:Int)] w' fun e w''=>e= .returned (.slice (some ⟨w'.heap.size,0,none⟩) W W)∧w''=w'.alloc (.cells (wds noB W).toArray 135):=fun w'=>by
  have:=empty_eq vl w' hvl;rw [hW] at this;exact this
 have HLb:Hid (∀wr,Below wB.heap.size wB wr→Below w.heap.size w wr):=aa (fun wr b=>hHB.out.trans (b.mono hHB.out.size));have HRw:=aa (fun k (hk:k < f.2.2.2.1.length)=>eD (ff HFv.out) hk);rw [HNe.out] at hN HRw;clear x0 x1 x2 x3 x4;go_loopw [24] (fun iv wr=>∃K:Nat,K≤N∧iv= .int .i64 K∧Hid (∃jv rv G C R CR J CJ,BgW f W wB lp fd K jv rv G C R CR J CJ wr)) (fun iv _=>N - (intOf iv).toNat)
 case atStart=>exact⟨0,Nat.zero_le _,rfl,aa ⟨_,_,_,_,_,_,_,_,G0.out⟩⟩
 case round=>
  clear G0;obtain⟨K,hK,rfl,HE⟩:=hrel;obtain⟨jv,rv,G,C,R,CR,J,CJ,hG⟩:=HE.out;clear HE;by_cases hit:K < N
  ·have hKI:(K:Int) < N:=(by omega);obtain⟨gb,ob,ab,bc,rfl,hgb,cbk,hblk⟩:=HRw.out K hit;replace cbk:=((HLb.out wr hG.1.1).cell (p:=⟨gb,ob+K,none⟩) hgb).trans cbk;replace hG:=hG.below (L5.aW wr);have HG:=aa hG;obtain⟨⟨bB,hlpB,hlp⟩,oj,or_,hS,hjr⟩:=hG;obtain⟨bl,hble⟩:∃n,(ag f K).length=n:=⟨_,rfl⟩;have Hble:=aa hble;have hbl:=HMb.out K;rw [hble] at cbk hbl;obtain⟨jo,jc,rfl⟩:=aI oj;obtain⟨ro,rc,rfl⟩:=aI or_;rw [Hfd.out] at hlp;have hlpw:=(Array.getElem?_eq_some_iff.1 hlp).1;have l5:wr.drew.cell? ⟨lp,5,none⟩=some (.slice va vl cv):=(by simp [World.cell?,hlp]);have l8:wr.drew.cell? ⟨lp,8,none⟩=some (.slice jo K jc):=(by simp [World.cell?,hlp]);have ba:=af wr.drew (.cells (wds noB W).toArray 135);have bb:=af (wr.drew.alloc (.cells (wds noB W).toArray 135)) (.cells #[.slice (some ⟨wr.drew.heap.size,0,none⟩) W W] 98);have bab:=ae ba bb;obtain⟨i72,hi72,hz0,hz1,hz2⟩:=info_parts Tryz.JT;obtain⟨v2,w4,hr4,own4,grow4,_,at4⟩:=run_append_own_at (P:=Tryz.prog) (w:=(wr.drew.alloc (.cells (wds noB W).toArray 135)).alloc (.cells #[.slice (some ⟨wr.drew.heap.size,0,none⟩) W W] 98)) wB.heap.size 66 66 98 i72 _ 1 24 Tryz.Iq hi72 hz0 hz1 hz2 rfl (by decide) (.slice jo K jc) K _ (az bab _ _ _ _ _ _ oj) ⟨wr.drew.heap.size+1,0,none⟩ 1 1 [.slice (some ⟨wr.drew.heap.size,0,none⟩) W W] rfl (by have:=L5.one_cell (w1:=wr.drew.alloc (.cells (wds noB W).toArray 135)) (a:= .slice (some ⟨wr.drew.heap.size,0,none⟩) W W) (t:=98);rwa [World.size_alloc] at this) (fun u hu=>by rw [List.mem_singleton.1 hu];rfl) (by unfold maxLen;omega) (by omega) (Nat.le_trans bB.size bab.size);have l5':wr.cell? ⟨lp,5,none⟩=some (.slice va vl cv):=l5;have l8':wr.cell? ⟨lp,8,none⟩=some (.slice jo K jc):=l8;have a8:(wr.alloc (.cells (wds noB W).toArray 135)).cell? ⟨lp,8,none⟩=some (.slice jo K jc):=(ba.cell (p:=⟨lp,8,none⟩) hlpw).trans l8;have b8:((wr.alloc (.cells (wds noB W).toArray 135)).alloc (.cells #[.slice (some ⟨wr.heap.size,0,none⟩) W W] 98)).cell? ⟨lp,8,none⟩=some (.slice jo K jc):=(bab.cell (p:=⟨lp,8,none⟩) hlpw).trans l8;obtain⟨jo2,jc2,rfl⟩:=aI own4;have hlp4:w4.heap[lp]? =wr.drew.heap[lp]? :=(grow4.block lp (Nat.lt_of_lt_of_le hlpw bab.size) (fun e=>bp (az bab _ _ _ _ _ _ oj) ((bab.block lp hlpw).trans hlp) (by decide) e.symm)).trans (bab.block lp hlpw);have d8:w4.cell? ⟨lp,8,none⟩=some (.slice jo K jc):=(World.cell?_of_block (a:=⟨lp,8,none⟩) hlp4).trans l8;have f8:w4.frozen? ⟨lp,8,none⟩=false:=(by simp [World.frozen?,hlp4,hlp]);have HR4:=aa hr4;have HO4:=aa own4;have HG4:=aa grow4;have HA4:=aa at4;have HBab:=aa bab;have HSn:Hid (aN ((wr.drew.alloc (.cells (wds noB W).toArray 135)).alloc (.cells #[.slice (some ⟨wr.drew.heap.size,0,none⟩) W W] 98)) wB.heap.size wr.drew.heap.size W W noB):=aa (aN.below (show aN (wr.drew.alloc (.cells (wds noB W).toArray 135)) wB.heap.size wr.drew.heap.size W W noB from aL (yM hWl wr.drew) bB.size) bb);clear hr4 own4 grow4 at4 ba bb bab;go_upto_region 5 with fail
   apply Ez
   ·intro K0 HK0;go_region_law (first | (refine Am rfl (.tmp 32) (.tmp 39) 66 rfl _ _ rfl rfl _ w4 HR4.out ?_) | (refine DM rfl (.tmp 37) #[3] rfl (.int .i64 (vl:Int)) _ _ rfl (C44 _) ?_))
    all_goals exact HK0
   have HYf:=aa (HG.out.join HBab.out HSn.out (Nat.le_refl _) (by rw [Hfd.out];rfl) HO4.out HG4.out HA4.out);clear HG HSn HO4 HG4 HA4 HBab HR4 d8 f8 b8 a8 l8' l5' l8 l5 hlp4 hlpw;generalize w4.setCell ⟨lp,8,none⟩ (.slice jo2 (K+1) jc2)=w5 at *;obtain⟨n0,hn0⟩:∃n0,wr.drew.heap.size=n0:=⟨_,rfl⟩;have HW0:Hid (∃w0,BgS f W wB.heap.size K G C R CR J CJ w0∧w0.heap.size=n0):=aa ⟨wr.drew,hS,hn0⟩;have Hjr:=aa hjr;rw [hn0] at HYf;clear hn0 hS hjr oj or_ bB hlp;obtain⟨y1,y2,-⟩:=HYf.out;have HY:=aa y1;have HB5:=aa y2;clear y1 y2 HYf;obtain⟨m,hm⟩:∃m,bl+1=m:=⟨_,rfl⟩;have hmk:∀w',(Instr.makeSlice 66 (.int .i64 ((bl:Int)+1)) (.int .i64 ((bl:Int)+1))).run Tryz.prog w'= .ok (.slice (some ⟨w'.heap.size,0,none⟩) m m) (w'.alloc (.cells (List.replicate m (Value.slice none 0 0)).toArray 98)):=fun w'=>by
    have h:=run_make (P:=Tryz.prog) w' 66 98 i72 _ Tryz.Iq hi72 hz0 .i64 .i64 ((bl:Int)+1) ((bl:Int)+1) (by omega) (Int.le_refl _) (by rw [hz2];omega) (by omega);rw [hz1,show((bl:Int)+1).toNat=m by omega] at h;have e:madeCells (Value.slice none 0 0).cells (m * 1)=(List.replicate m (Value.slice none 0 0)).toArray:=by
     apply Array.ext';show(madeCells #[Value.slice none 0 0] (m * 1)).toList=_;rw [toList_madeCells_one,Nat.mul_one]
    rw [h,e]
   have hmc:((m:Nat):Int)=(bl:Int)+1:=(by omega);go_wp2_with fail
   have hN0:=af w5 (.cells (List.replicate m (Value.slice none 0 0)).toArray 98);have hR0:nD W wB.heap.size w5.heap.size w5.heap.size m 0 (fun _=>0) (fun _=>0) (w5.alloc (.cells (List.replicate m (Value.slice none 0 0)).toArray 98)):=nD.new _ _ _ _ (by omega);have HR0:=aa (And.intro hN0 hR0);clear hN0 hR0 hmk;go_loopw [49] (fun iv w6=>∃(I:Nat) (Gk Ck:Nat→Nat),I≤m∧iv= .int .i64 I∧Hid (Below w5.heap.size w5 w6∧nD W wB.heap.size w5.heap.size w5.heap.size m I Gk Ck w6)) (fun iv _=>m - (intOf iv).toNat)
   case atStart=>exact⟨0,_,_,Nat.zero_le _,rfl,HR0⟩
   case round=>
    clear HR0;obtain⟨I,Gk,Ck,hI,rfl,HE⟩:=hrel;by_cases hi:I < m
    ·have hIm:(I:Int) < m:=(by omega);obtain⟨e1,e2⟩:=HE.out;have hlp5:=HY.out.1.2.2;have hlpw:=(Array.getElem?_eq_some_iff.1 hlp5).1;rw [←e1.block lp hlpw,Hfd.out] at hlp5;have l5:wr.cell? ⟨lp,5,none⟩=some (.slice va vl cv):=(by simp [World.cell?,hlp5]);have ra:=(e2.1.alloc (.cells (wds noB W).toArray 135));have rc:∃u,(wr.alloc (.cells (wds noB W).toArray 135)).cell? ⟨w5.heap.size,I,none⟩=some u:=by
      have hl:=e2.1.len;obtain⟨u,hu⟩:∃u,((List.range I).map (fun p=>gy (Gk p) (Ck p) W) ++ List.replicate (m - I) (.slice none 0 0))[I]? =some u:=⟨_,List.getElem?_eq_getElem (by rw [hl];exact hi)⟩;exact⟨u,ra.cell hu⟩
     obtain⟨u,rc⟩:=rc;have rf:(wr.alloc (.cells (wds noB W).toArray 135)).frozen? ⟨w5.heap.size,I,none⟩=false:=ra.frozen I;have HE2:=aa (e2.push hi hWl HB5.out.size e1.size);have HE1:=aa ((ae e1 (af wr (.cells (wds noB W).toArray 135))).setCell (p:=⟨w5.heap.size,I,none⟩) (Nat.le_refl _) (.slice (some ⟨wr.heap.size,0,none⟩) W W));clear e1 e2 ra hlp5 hlpw HE;go_wp2_with fail
     refine(C44 _).mono ?_;rintro _ _ ⟨rfl,rfl⟩;go_wp2_with fail
     go_roundw
     case rel=>exact⟨I+1,_,_,by omega,by go_num,aa ⟨HE1.out,HE2.out⟩⟩
     case measure=>simp [intOf];omega
    ·obtain rfl:I=m:=(by omega);have hIm:¬((I:Int) < I):=(by omega);obtain⟨e1,e2,e3,e4⟩:=HE.out;have hlp5:=HY.out.1.2.2;have hlpw:=(Array.getElem?_eq_some_iff.1 hlp5).1;have hor:=HY.out.2.2.1;rw [←e1.block lp hlpw,Hfd.out] at hlp5;have l9:wr.cell? ⟨lp,9,none⟩=some (.slice ro K rc):=(by simp [World.cell?,hlp5]);have hlpr:=(Array.getElem?_eq_some_iff.1 hlp5).1;have bx:=af wr (.cells #[.slice (some ⟨w5.heap.size,0,none⟩) I I] 66);obtain⟨i61,hi61,hz3,hz4,hz5⟩:=info_parts Tryz.Jq;have HOr:=aa (az (ae e1 bx) _ _ _ _ _ _ hor);have HBx:=aa (ae e1 bx);have hlpx:=(bx.block lp hlpr).trans hlp5;have hsz:wB.heap.size≤(wr.alloc (.cells #[.slice (some ⟨w5.heap.size,0,none⟩) I I] 66)).heap.size:=Nat.le_trans HB5.out.size (Nat.le_trans e1.size bx.size);have HRx:=aa (And.intro (e2.below bx) (fun p hp=>(e3 p hp).1.below bx));have HE34:=aa (And.intro (fun p hp=>(e3 p hp).2) e4);clear hor bx e1 e2 e3 e4 HE hlp5 hlpw;have hKm:K+1≤1000001:=(by omega);have HOc:=aa (L5.one_cell (w1:=wr) (a:= .slice (some ⟨w5.heap.size,0,none⟩) I I) (t:=66));have HOn:Hid (∀u∈ [Value.slice (some ⟨w5.heap.size,0,none⟩) I I],u.oneCell'=true):=aa (fun u hu=>by rw [List.mem_singleton.1 hu];rfl);go_wp2_with (at_builtin;refine wpList_append_own_at _ rfl (.tmp 66) (.tmp 68) 67 rfl wB.heap.size 66 i61 _ 1 24 Tryz.KP hi61 hz3 hz4 hz5 rfl (by decide) _ _ _ rfl HOr.out ⟨wr.heap.size,0,none⟩ 1 1 [.slice (some ⟨w5.heap.size,0,none⟩) I I] rfl rfl HOc.out HOn.out (by unfold maxLen;omega) (by omega) hsz ?_;intro v2 w8 own2 grow2 _ at2;refine Hid.out ?_)
     obtain⟨ro2,rc2,rfl⟩:=aI own2;have hlp8:w8.heap[lp]? =some _:=(grow2.block lp (Array.getElem?_eq_some_iff.1 hlpx).1 (fun e=>bp HOr.out hlpx (by decide) e.symm)).trans hlpx;have f9:w8.frozen? ⟨lp,9,none⟩=false:=(by simp [World.frozen?,hlp8]);have d9:w8.cell? ⟨lp,9,none⟩=some (.slice ro K rc):=(by simp [World.cell?,hlp8]);have HNew:=aa (BgY.row (r:=w5.heap.size) (cr:=I) (Gk:=Gk) (Ck:=Ck) HY.out HBx.out HW0.out (by rw [Hfd.out];rfl) (by rw [Hble.out,hm];exact GS HRx.out.1 HB5.out.size) (Nat.le_refl _) (fun p hp=>HRx.out.2 p (by rw [Hble.out] at hp;omega)) (fun p hp=>HE34.out.1 p (by rw [Hble.out] at hp;omega)) (fun p p' hp hp'=>HE34.out.2 p p' (by rw [Hble.out] at hp;omega) (by rw [Hble.out] at hp';omega)) (by rw [Hble.out,hm];exact own2) grow2);clear own2 grow2 at2 hlp8 hlpx HOr HBx HRx HE34 HW0 HY;refine aa ?_;go_wp2_with fail
     go_roundw
     case rel=>exact⟨K+1,by omega,by go_num,aa ⟨_,_,_,_,_,_,_,_,HNew.out⟩⟩
     case measure=>simp [intOf];omega
  ·obtain rfl:N=K:=(by omega);have hNp:=HN0.out;obtain⟨gj,cj,gr,cr,hW0,hJ0,hT0⟩:=hG.full HNe.out hNp HFs.out HSv.out R1.out R2.out R3.out Hfd.out Hvl.out;have HX3:=aa (HXs.out wr hG.1.1);obtain⟨q,hq⟩:∃q:LkQ,q=(G,C,R,CR,J,CJ,(gj,cj,gr,cr),(nm,lp0,lps,cp,rt,lb,cb,pl),(va,cv,so,cs,po,cp2)):=⟨_,rfl⟩;rw [←hq] at hW0 hJ0 hT0;have HT0:=aa hT0;have HS0:Hid (LkW f (aP f) W wB lp q wr∧LkJ f (aP f) W wB.heap.size ((f.2.2.2.1.take 0).flatMap jnP) q wr):=aa ⟨hW0,hJ0⟩;clear hG hW0 hJ0 hT0 hq;obtain⟨x0,x1,x2,x3,x4⟩:=HX3.out;go_wp2_with fail
   clear x0 x1 x2 x3 x4 HX3;go_loopw [76] (fun iv wr=>∃K:Nat,K≤N∧iv= .int .i64 K∧Hid (LkW f (aP f) W wB lp q wr∧LkJ f (aP f) W wB.heap.size ((f.2.2.2.1.take K).flatMap jnP) q wr)) (fun iv _=>N - (intOf iv).toNat)
   case atStart=>exact⟨0,Nat.zero_le _,rfl,HS0⟩
   case round=>
    clear HS0;obtain⟨K,hK,rfl,HE⟩:=hrel;by_cases hit:K < N
    ·have hKI:(K:Int) < N:=(by omega);obtain⟨gb,ob,ab,bc,rfl,hgb,cbk,hblk⟩:=HRw.out K hit;have cbk1:=((HLb.out wr HE.out.1.base).cell (p:=⟨gb,ob+K,none⟩) hgb).trans cbk;replace hblk:=hblk.below hHB.out;obtain⟨bl,hble⟩:∃n,(ag f K).length=n:=⟨_,rfl⟩;have Hble:=aa hble;have hbl:=HMb.out K;have hp:=kX (ag f K);have h0:0 < (ag f K).length:=HLp.out K hit;have HBk:=aa hblk;have C45:=aa (fun w' (h:LkW f (aP f) W wB lp q w')=>pA (ag f K) ab bc w' (hblk.below h.base) hbl h0);obtain⟨pn,hpn⟩:∃n,phN (ag f K)=n:=⟨_,rfl⟩;have Hpn:=aa hpn;rw [hble] at cbk1 hbl HBk C45 hp;rw [hpn] at C45 hp;clear hblk hble hpn cbk h0;go_wp2_with fail
     refine(C45.out _ HE.out.1).mono ?_;rintro e w6 ⟨rfl,rfl⟩;go_wp2_with fail
     have HI0:Hid (LkW f (aP f) W wB lp q w6∧LkJ f (aP f) W wB.heap.size ((f.2.2.2.1.take K).flatMap jnP ++ (((ag f K).takeWhile fun x=>decide (x.1=20)).take 0).flatMap phP) q w6):=aa ⟨HE.out.1,by rw [List.take_zero,List.flatMap_nil,List.append_nil];exact HE.out.2⟩;clear HE C45;go_loopw [83] (fun iv wr=>∃I:Nat,I≤pn∧iv= .int .i64 I∧Hid (LkW f (aP f) W wB lp q wr∧LkJ f (aP f) W wB.heap.size ((f.2.2.2.1.take K).flatMap jnP ++ (((ag f K).takeWhile fun x=>decide (x.1=20)).take I).flatMap phP) q wr)) (fun iv _=>pn - (intOf iv).toNat)
     case atStart=>exact⟨0,Nat.zero_le _,rfl,HI0⟩
     case round=>
      clear HI0 cbk1;obtain⟨I,hI,rfl,HE⟩:=hrel;by_cases hit2:I < pn
      ·have hiI:(I:Int) < pn:=(by omega);have hIl:I < (ag f K).length:=(by rw [Hble.out];omega);obtain⟨ga,oa,rfl,hins⟩:=dy HBk.out hIl;have hga:=hins.1;obtain⟨xo,zo,xc,zc,hiv,e0,e1,e2,e3,e4,e5,e6,e7⟩:=hins.val;have hb:=HE.out.1.base;replace e0:=(hb.cell (p:=⟨ga,oa+I * 8,none⟩) hga).trans e0;replace e1:=(hb.cell (p:=⟨ga,oa+I * 8+1,none⟩) hga).trans e1;replace e2:=(hb.cell (p:=⟨ga,oa+I * 8+2,none⟩) hga).trans e2;replace e3:=(hb.cell (p:=⟨ga,oa+I * 8+3,none⟩) hga).trans e3;replace e4:=(hb.cell (p:=⟨ga,oa+I * 8+4,none⟩) hga).trans e4;replace e5:=(hb.cell (p:=⟨ga,oa+I * 8+5,none⟩) hga).trans e5;replace e6:=(hb.cell (p:=⟨ga,oa+I * 8+6,none⟩) hga).trans e6;replace e7:=(hb.cell (p:=⟨ga,oa+I * 8+7,none⟩) hga).trans e7;have hmor:=Gh (b:=ag f K) (I:=I) (by rw [Hpn.out];exact hit2);have HXA:=aa (HXa.out K hit I hIl);have hmem:=HXz.out K hit I hIl;obtain⟨x,hxe⟩:∃x,au f K I=x:=⟨_,rfl⟩;rw [hxe] at hiv e0 e1 e2 e3 e4 e5 e6 e7 HXA hmem;rw [show(ag f K).getD I Dx=x from hxe] at hmor;have HMo:=aa hmor;clear hxe hins hmor hb;have b3:=af wr (.cells (iC x xo zo x.2.2.2.2.1.length x.2.2.2.2.2.1.length xc zc) 41);have Y0:=aa (heap_alloc_new wr (.cells (iC x xo zo x.2.2.2.2.1.length x.2.2.2.2.2.1.length xc zc) 41));have HJ:=aa (ED (HE.out.1.below b3) (HE.out.2.below b3) HT0.out (xD f) hiv HXA.out hmem.1 hmem.2 (by rw [Hvl.out];omega) hWl);clear hiv b3 HE HXA hmem;obtain⟨xl,hxl1⟩:∃n,x.2.2.2.2.1.length=n:=⟨_,rfl⟩;obtain⟨zl,hzl1⟩:∃n,x.2.2.2.2.2.1.length=n:=⟨_,rfl⟩;rw [hxl1] at e4 Y0 HJ;rw [hzl1] at e5 Y0 HJ;clear hxl1 hzl1;go_upto_region 20 with fail
       show Code.wp _ _ _ _ (wr.alloc (.cells (iC x xo zo xl zl xc zc) 41));clear e0 e1 e2 e3 e4 e5 e6 e7;generalize wr.alloc (.cells (iC x xo zo xl zl xc zc) 41)=w3 at *;generalize wr.heap.size=q3 at *;obtain⟨y0,y1,y2,y3,y4,y5,y6,y7⟩:=jK Y0.out;go_wp2_with fail
       refine HJ.out.mono ?_;rintro e w4 ⟨rfl,j1,j2⟩;have HN2:Hid (LkW f (aP f) W wB lp q w4∧LkJ f (aP f) W wB.heap.size ((f.2.2.2.1.take K).flatMap jnP ++ (((ag f K).takeWhile fun x=>decide (x.1=20)).take (I+1)).flatMap phP) q w4):=aa ⟨j1,by rw [HMo.out,List.flatMap_append,List.flatMap_singleton,←List.append_assoc];exact j2⟩;clear j1 j2 HJ y0 y1 y2 y3 y4 y5 y6 y7;go_wp2_with fail
       go_roundw
       case rel=>exact⟨I+1,by omega,by go_num,HN2⟩
       case measure=>simp [intOf];omega
      ·obtain rfl:pn=I:=(by omega);have HN2:Hid (LkW f (aP f) W wB lp q wr∧LkJ f (aP f) W wB.heap.size ((f.2.2.2.1.take (K+1)).flatMap jnP) q wr):=aa ⟨HE.out.1,by
        rw [DB (by rw [HNe.out];exact hit)];have h:=HE.out.2;rw [List.take_of_length_le (l:=(ag f K).takeWhile fun x=>decide (x.1=20)) (by rw [←Hpn.out];exact Nat.le_refl _)] at h;exact h⟩
       clear HE;go_wp2_with fail
       go_roundw
       case rel=>exact⟨K+1,by omega,by go_num,HN2⟩
       case measure=>simp [intOf];omega
    ·obtain rfl:N=K:=(by omega);have HF:=aa (show LkW f (aP f) W wB lp q wr∧LkD f (aP f) W wB.heap.size (fun _ _=>noB) q wr∧LkA f q from ⟨HE.out.1,⟨HE.out.2.1,fun k hk=>by have h:=HE.out.2.2 k hk;rw [List.take_of_length_le (by rw [HNe.out];exact Nat.le_refl _),Gt] at h;exact h⟩,HT0.out.1⟩);clear HE;go_wp2_with fail
     go_ret;exact⟨lp,W,wB,q,rfl,by rw [←hW,Hvl.out],hHB.out,HF.out⟩
end Go.Proofs.YtaiaakklokahjaaGreatDoor
