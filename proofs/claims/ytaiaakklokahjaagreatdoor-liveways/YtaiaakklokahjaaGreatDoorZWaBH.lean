/- Texts of one chain, joined. -/
import Derived.Test.YtaiaakklokahjaaGreatDoorZWaBE
import Derived.Test.YtaiaakklokahjaaGreatDoorZWaBF
import Derived.Test.YtaiaakklokahjaaGreatDoorZWaBG
set_option maxHeartbeats 4000000
set_option maxRecDepth 20000
namespace Go.Proofs.YtaiaakklokahjaaGreatDoor
open Go Go.RowKit
open G (Tok Er Ins Fun)
theorem Dk {P:Program} {c:Code} {Q:Exit→Act→World→Prop} {a:Act} {w:World} {A:Value→Act} (R:Value→World→Prop) (hr:∀(K:Act→World→Prop),(∀x W,R x W→K (A x) W)→c.wp P (Exit.then K (fun _ _ _=>False)) a w) (h:∀x W,R x W→Q .normal (A x) W):c.wp P Q a w:=
 Code.wp_mono (fun e a w q=>by
  unfold Exit.then at q;split at q
  ·obtain⟨x,rfl,q⟩:=q;exact h _ _ q
  ·exact q.elim) (hr (fun a' w'=>∃x,a'=A x∧R x w') fun x _ h=>⟨x,rfl,h⟩)
theorem EN {ops:Array Oper} {o:Oper} {a:Act} {w:World} {K:Act→World→Prop} {Q:Exit→Act→World→Prop} {E:Prop} (hgd:o.guard=none) (x y:Operand) (t:Array TypeId)
  (ho:o.op= .call {callee:= .value (.func 72),args:= #[x,y],argTypes:=t}) (vx vy:Value) (R:Value→World→Prop) (hx:a.eval x=vx) (hy:a.eval y=vy) (h:Calls Tryz.prog 72 #[vx,vy] w fun e w'=>∃u,e= .returned u∧R u w') (hk:∀u w',R u w'→K (a.put o.dst u) w'):if Region.wanted o (yielded ops a.tmps)=true then Oper.wp Tryz.prog o a w K Q else E:=by
 have hw:Region.wanted o (yielded ops a.tmps)=true:=by simp [Region.wanted,hgd]
 rw [if_pos hw];have hr:(execOp a.eval o).run Tryz.prog w= .ok (.enter 72 #[vx,vy]) w:=by
  subst hx hy;simp [execOp,ho,go_sem]
 unfold Oper.wp;rw [hr];exact h.mono fun e w' ⟨u,he,hk2⟩=>by subst he;exact hk _ _ hk2
def eG (f:Fun) (b:Nat) (w:World):Prop:=∃(B W:Nat) (G C:Nat→Nat→Nat) (R CR:Nat→Nat) (gr cr:Nat) (va:Option Addr) (cv:Nat),
 w.heap[b]? =some (.cells #[.slice va (aP f).length cv,.slice (some ⟨gr,0,none⟩) f.2.2.2.1.length cr] 71 (0,0))∧Sl w va (aP f)∧lK w∧(W≤100000∧(aP f).length≤64 * W)∧
 w.ownsRow B 66 1 (.slice (some ⟨gr,0,none⟩) f.2.2.2.1.length cr) f.2.2.2.1.length ((List.range f.2.2.2.1.length).map fun k=> .slice (some ⟨R k,0,none⟩) ((ag f k).length+1) (CR k))∧
 (∀k,k < f.2.2.2.1.length→w.ownsRow B 98 1 (.slice (some ⟨R k,0,none⟩) ((ag f k).length+1) (CR k)) ((ag f k).length+1) ((List.range ((ag f k).length+1)).map fun p=>gy (G k p) (C k p) W))∧
 ∀k,k < f.2.2.2.1.length→∀p,p≤(ag f k).length→aN w B (G k p) (C k p) W (gP (aP f) f k (fA f k p))
theorem eG.below {f:Fun} {b:Nat} {w w':World} (h:eG f b w) (k:Below w.heap.size w w'):eG f b w':=by
 obtain⟨B,W,G,C,R,CR,gr,cr,va,cv,h1,h2,h3,h4,h5,h6,h7⟩:=h;exact⟨B,W,G,C,R,CR,gr,cr,va,cv,(k.block b (Array.getElem?_eq_some_iff.1 h1).1).trans h1,h2.below k,h3.below k,h4,az k _ _ _ _ _ _ h5,fun i hi=>az k _ _ _ _ _ _ (h6 i hi),fun i hi p hp=>(h7 i hi p hp).below k⟩
theorem ns (V:List Int) (P:Int→Bool) (m:Nat):V.length≤m→dp V (fun n=>decide (n < V.length) && P (V.getD n 0)) m=V.filter P:=by
 intro hm;obtain⟨d,rfl⟩:∃d,m=V.length+d:=⟨m - V.length,by omega⟩;rw [iJ d fun i h1 _=>by rw [decide_eq_false (by omega)];rfl];have key:∀n,n≤V.length→dp V (fun n=>decide (n < V.length) && P (V.getD n 0)) n=(V.take n).filter P:=by
  intro n;induction n with
  |zero=>intro _;simp [dp]
  |succ n ih=>
   intro h;have hn:V[n]? =some (V.getD n 0):=(by rw [List.getD_eq_getElem?_getD,List.getElem?_eq_getElem (by omega)];rfl);rw [kO,ih (by omega),aR hn,List.filter_append,decide_eq_true (by omega:n < V.length),Bool.true_and];congr 1
   generalize V.getD n 0=y
   cases h:P y <;> simp [h]
 rw [key _ (Nat.le_refl _),List.take_of_length_le (Nat.le_refl _)]
theorem LkD.LU {f:Fun} {V:List Int} {W B:Nat} {H:Nat→Nat→Nat→Bool} {q:LkQ} {w:World} (h:LkD f V W B H q w):lB B w (iV f q):=by
 rintro b ⟨k,p,hk,hp,rfl⟩ _;obtain⟨cs,hc⟩:=(h.1 k hk p hp).kind;exact⟨(h.1 k hk p hp).lt.1,sd hc⟩
theorem LkW.live {f:Fun} {W lp:Nat} {wB w:World} {q:LkQ} {H:Nat→Nat→Nat→Bool} (hL:LkW f (aP f) W wB lp q w) (hD:LkD f (aP f) W wB.heap.size H q w) (hH:∀k,k < f.2.2.2.1.length→∀p,p≤(ag f k).length→H k p=gP (aP f) f k (fA f k p)) (hT:lK w) (h1:W≤100000) (h2:(aP f).length≤64 * W):
  ∃va cv gr cr,w.cell? ⟨lp,5,none⟩=some (.slice va (aP f).length cv)∧w.cell? ⟨lp,9,none⟩=some (.slice (some ⟨gr,0,none⟩) f.2.2.2.1.length cr)∧eG f w.heap.size (w.alloc (.cells #[.slice va (aP f).length cv,.slice (some ⟨gr,0,none⟩) f.2.2.2.1.length cr] 71)):=by
 have hv:=hL.val;obtain⟨G,C,R,CR,J,CJ,⟨gj,cj,gr,cr⟩,⟨nm,pp,lps,cpp,rt,lb,cb,pl⟩,⟨va,cv,so,cs,po,cp⟩⟩:=q;obtain⟨_,⟨_,hlp⟩,_,hr,hR⟩:=hL;have b:=af w (.cells #[.slice va (aP f).length cv,.slice (some ⟨gr,0,none⟩) f.2.2.2.1.length cr] 71);exact⟨va,cv,gr,cr,(jD hlp).2.1,(jD hlp).2.2.2.2.2,wB.heap.size,W,G,C,R,CR,gr,cr,va,cv,heap_alloc_new w _,hv.2.1.below b,hT.below b,⟨h1,h2⟩,az b _ _ _ _ _ _ hr,fun k hk=>az b _ _ _ _ _ _ (hR k hk),fun k hk p hp=>by rw [←hH k hk p hp];exact(hD.1 k hk p hp).below b⟩
def Li (f:Fun) (b k:Nat) (w:World) (e:Ending) (w':World):Prop:=w'=w∧∃r cr,e= .returned (.slice (some ⟨r,0,none⟩) ((ag f k).length+1) cr)∧∃B W va cv,(w.cell? ⟨b,0,none⟩=some (.slice va (aP f).length cv)∧Sl w va (aP f)∧lK w∧W≤100000∧(aP f).length≤64 * W)∧
 ∀p,p≤(ag f k).length→∃g c,w.cell? ⟨r,p,none⟩=some (.slice (some ⟨g,0,none⟩) W c)∧aN w B g c W (gP (aP f) f k (fA f k p))
theorem q7 {f:Fun} {b k:Nat} {w:World} (h:eG f b w) (hk:k < f.2.2.2.1.length):
  Calls Tryz.prog 37 #[.pointer (some ⟨b,0,none⟩),.int .i64 k] w (Li f b k w):=by
 obtain⟨B,W,G,C,R,CR,gr,cr,va,cv,h1,h2,h3,h4,h5,h6,h7⟩:=h;have c1:w.cell? ⟨b,1,none⟩=some (.slice (some ⟨gr,0,none⟩) f.2.2.2.1.length cr):=by simp [World.cell?,h1]
 have c0:w.cell? ⟨b,0,none⟩=some (.slice va (aP f).length cv):=by simp [World.cell?,h1]
 have ck:=gR h5 hk;have HF:=aa (show ∃B W va cv,(w.cell? ⟨b,0,none⟩=some (.slice va (aP f).length cv)∧Sl w va (aP f)∧lK w∧W≤100000∧(aP f).length≤64 * W)∧
   ∀p,p≤(ag f k).length→∃g c,w.cell? ⟨R k,p,none⟩=some (.slice (some ⟨g,0,none⟩) W c)∧aN w B g c W (gP (aP f) f k (fA f k p)) from
  ⟨B,W,va,cv,⟨c0,h2,h3,h4⟩,fun p hp=>⟨G k p,C k p,gR (h6 k hk) (by omega),h7 k hk p hp⟩⟩)
 clear h1 h2 h3 h4 h5 h6 h7 c0;obtain⟨N,hN⟩:∃N,f.2.2.2.1.length=N:=⟨_,rfl⟩;rw [hN] at hk c1;have hkI:(k:Int) < N:=by omega
 have hk0:¬(k:Int) < 0:=by omega
 obtain⟨m,hm⟩:∃m,(ag f k).length+1=m:=⟨_,rfl⟩;have Hm:=aa hm;rw [hm] at ck;clear hm hN;go_enter Tryz.func37,Tryz.ntmps37
 go_wp2_with fail
 go_ret;exact⟨rfl,R k,CR k,by rw [Hm.out];rfl,HF.out⟩
theorem ou {f:Fun} {b k p:Nat} {w:World} (h:eG f b w) (hk:k < f.2.2.2.1.length) (hp:p≤(ag f k).length):
  Calls Tryz.prog 36 #[.pointer (some ⟨b,0,none⟩),.int .i64 k,.int .i64 p] w (kn w ((aP f).filter (bw f k (fA f k p))) (eG f b)):=by
 have HL:=aa h;have HC:=aa (q7 h hk);clear h hk;go_enter Tryz.func36,Tryz.ntmps36
 go_wp2_with fail
 refine HC.out.mono ?_;rintro e w1 ⟨rfl,r,cr,rfl,B,W,va,cv,⟨c0,h2,h3,hW1,hW2⟩,hS⟩;obtain⟨g,c,cp,hs⟩:=hS p hp;have e:dp (aP f) (gP (aP f) f k (fA f k p)) (64 * W)=(aP f).filter (bw f k (fA f k p)):=ns (aP f) (bw f k (fA f k p)) (64 * W) hW2;have HS:=aa (Gx (hs.below (L5.aW w1)) (h2.below (L5.aW w1)) (cv:=cv) (fun n _ hb=>by unfold gP at hb;simp only [Bool.and_eq_true,decide_eq_true_eq] at hb;exact hb.1) (h3.below (L5.aW w1)) hW1);rw [e] at HS;have hl:((aP f).filter (bw f k (fA f k p))).length≤6400000:=Nat.le_trans (List.length_filter_le _ _) (by omega);have HQ:=aa hl;clear HC hS hs h2 h3 e hl;obtain⟨m,hm⟩:∃m,(ag f k).length+1=m:=⟨_,rfl⟩;have hpm:(p:Int) < m:=by omega
 have hp0:¬(p:Int) < 0:=by omega
 rw [hm];generalize (aP f).filter (bw f k (fA f k p))=L at *;obtain⟨vl,hvl⟩:∃n,(aP f).length=n:=⟨_,rfl⟩;rw [hvl] at c0 HS hW2;clear hm hvl;go_upto_region 4 with fail
 apply Dk (R:=fun u w'=>w'.ownsRow w1.drew.heap.size 3 1 u L.length (ints L)∧Below w1.drew.heap.size w1.drew w')
 ·intro K0 HK0;go_region_law ((refine EN rfl (.tmp 22) (.tmp 26) _ rfl (.slice (some ⟨g,0,none⟩) W c) (.slice va vl cv) _ rfl rfl HS.out ?_);intro u9 w9 hR9)
  all_goals exact HK0 u9 w9 hR9
 intro u w2 hw2;have HR:Hid (bT w2 L u∧eG f b w2∧Below w1.heap.size w1 w2):=aa (by
  obtain⟨o1,o2⟩:=hw2;have b2:=ae (L5.aW w1) o2;obtain⟨ao,c,rfl⟩:=aI o1;refine⟨⟨ao,c,rfl,Eo o1,?_⟩,HL.out.below b2,b2⟩;rcases o1.2 with ⟨e,h0⟩ | ⟨_,cap,_,e,_,_,h1,h2,_⟩
  ·injection e with _ _ e;rw [h0,e];exact⟨Nat.le_refl _,Nat.zero_le _⟩
  ·injection e with _ _ e;subst e;exact⟨h1,h2⟩)
 clear hw2 HS;go_wp2_with fail
 go_ret;exact⟨u,rfl,HR.out⟩
theorem Js {f:Fun} {b k:Nat} {w:World} (h:eG f b w) (hk:k < f.2.2.2.1.length):
  Calls Tryz.prog 15 #[.pointer (some ⟨b,0,none⟩),.int .i64 k] w (kn w ((aP f).filter (bw f k 0)) (eG f b)):=by
 have HC:Hid (Calls Tryz.prog 36 #[.pointer (some ⟨b,0,none⟩),.int .i64 k,.int .i64 (0:Int)] w (kn w ((aP f).filter (bw f k 0)) (eG f b))):=aa (ou (p:=0) h hk (Nat.zero_le _));clear h hk;go_enter Tryz.func15,Tryz.ntmps15
 go_wp2_with fail
 refine HC.out.mono ?_;rintro e w1 ⟨u,rfl,h⟩;have HH:=aa h;clear h HC;go_wp2_with fail
 go_ret;exact⟨u,rfl,HH.out⟩
theorem FO {f:Fun} {b k:Nat} {w:World} (h:eG f b w) (hk:k < f.2.2.2.1.length) (hl:(ag f k).length≤1000000):
  Calls Tryz.prog 11 #[.pointer (some ⟨b,0,none⟩),.int .i64 k] w (kn w ((aP f).filter (bw f k (fA f k (ag f k).length))) (eG f b)):=by
 have HC:=aa (ou h hk (Nat.le_refl (ag f k).length));have HW:=aa (q7 h hk);clear h hk;obtain⟨bl,hbl⟩:∃n,(ag f k).length=n:=⟨_,rfl⟩;rw [hbl] at HC hl ⊢;have Hbl:=aa hbl;clear hbl;go_enter Tryz.func11,Tryz.ntmps11
 go_wp2_with fail
 refine HW.out.mono ?_;rintro e w1 ⟨rfl,r,cr,rfl,_⟩;rw [Hbl.out];have ha:((bl+1:Nat):Int) - 1=bl:=by omega
 go_wp2_with fail
 refine HC.out.mono ?_;rintro e w1 ⟨u,rfl,h⟩;have HH:=aa h;clear h HC;go_wp2_with fail
 go_ret;exact⟨u,rfl,HH.out⟩
theorem Gl {f:Fun} {b k i:Nat} {w:World} (h:eG f b w) (hk:k < f.2.2.2.1.length) (hi:i < (ag f k).length) (hl:(ag f k).length≤1000000):
  Calls Tryz.prog 12 #[.pointer (some ⟨b,0,none⟩),.int .i64 k,.int .i64 i] w (kn w ((aP f).filter (bw f k (nI f k i))) (eG f b)):=by
 have HC:Hid (Calls Tryz.prog 36 #[.pointer (some ⟨b,0,none⟩),.int .i64 k,.int .i64 ((i:Int)+1)] w (kn w ((aP f).filter (bw f k (nI f k i))) (eG f b))):=aa (ou (p:=i+1) h hk hi);have hil:i≤1000000:=by omega
 have hi0:¬(i:Int) < 0:=by omega
 clear h hk hi hl;go_enter Tryz.func12,Tryz.ntmps12
 go_wp2_with fail
 refine HC.out.mono ?_;rintro e w1 ⟨u,rfl,h⟩;have HH:=aa h;clear h HC;go_wp2_with fail
 go_ret;exact⟨u,rfl,HH.out⟩
theorem xK {f:Fun} {k j n:Nat} (hk:k < f.2.2.2.1.length) (hj:j < (ag f k).length) (hn:n < (au f k j).2.2.2.2.1.length):(au f k j).2.2.2.2.1.getD n 0∈aP f:=
 ry.2 ⟨_,List.mem_of_getElem? (de hk),_,rE hj,by rw [List.getD_eq_getElem?_getD,List.getElem?_eq_getElem hn];exact List.getElem_mem _⟩
theorem GF {f:Fun} {k:Nat} {id:Int} (hT:Tos f) (h:fN f k id=true):id∈aP f:=by
 refine k8 (S:=fun _=>id∈aP f) (fun k ⟨b,hb,q⟩=> ?_) h;have hl:=(ei hT hb).1;rcases q with q | q | q
 ·obtain⟨i,n,h1,_,h3,_,_,h6⟩:=sD q;have:=xK hl (show i < (ag f b.toNat).length from h1) h3;rw [h6] at this;exact this
 ·obtain⟨j,n,_,h2,_,h4,h5,_⟩:=lU q;have:=xK hl h2 h4;rw [h5] at this;exact this
 ·exact q.2
theorem DP {f:Fun} {k i:Nat} {id:Int} (hT:Tos f) (hk:k < f.2.2.2.1.length) (h:bw f k i id=true):id∈aP f:=by
 rcases dN.1 h with q | ⟨_,q⟩
 ·obtain⟨j,n,_,h2,_,h4,h5,_⟩:=lU q;have:=xK hk h2 h4;rw [h5] at this;exact this
 ·exact GF hT q
theorem xP {p:List Fun} {f:Fun} {k i:Nat} (hG:Gr (aC f)) (hT:Tos f) (hA:TkA p f) (hV:∀k,k < f.2.2.2.1.length→∀i,i < (ag f k).length→dG f k i false=0) (hk:k < f.2.2.2.1.length):(aP f).filter (bw f k i)=(jf f).filter fun id=>bw f k i id:=by
 refine E9 ((xD f).filter _) ((EX hV).filter _) fun x=> ?_;rw [List.mem_filter,List.mem_filter];exact⟨fun h=>⟨lu (ph hG hT hA hk h.2),h.2⟩,fun h=>⟨DP hT hk h.2,h.2⟩⟩
theorem GP {f:Fun} {k:Nat} (h0:0 < (ag f k).length):fA f k (ag f k).length=(ag f k).length:=by
 unfold fA nI;have:=kX (ag f k);rw [if_neg (by omega)];omega
theorem DI (f:Fun) (k:Nat) (id:Int):bw f k (ag f k).length id=fN f k id:=by
 unfold bw;rw [nY (Nat.le_refl _)];simp
def AG (f:Fun) (k p:Nat):Nat:=((aP f).filter (bw f k (fA f k p))).length
def sS (f:Fun) (k:Nat):Nat→Nat
 |0=>kp f k
 |i+1=>max (sS f k i) (AG f k i)
theorem uN {f:Fun} {k:Nat} (hI:inL f k=(aP f).filter (bw f k 0)) (hA:∀i,i < (ag f k).length→mV f k i=(aP f).filter (bw f k (nI f k i))):∀i,i≤(ag f k).length→sS f k (i+1)=max (kp f k) (x8 f k i)
 |0,_=>by
  show max (kp f k) (AG f k 0)=max (kp f k) (inL f k).length;rw [hI];rfl
 |i+1,h=>by
  show max (sS f k (i+1)) (AG f k (i+1))=max (kp f k) (max (x8 f k i) (mV f k i).length);rw [uN hI hA i (by omega),hA i h,Nat.max_assoc];rfl
theorem BN (V:List Int) (b:Nat→Bool) (m:Nat):eK b m=(dp V b m).length:=by
 unfold eK dp;rw [List.length_map,←List.countP_eq_length_filter]
theorem G7 {f:Fun} {k p W:Nat} (h:(aP f).length≤64 * W):eK (gP (aP f) f k (fA f k p)) (64 * W)=AG f k p:=by
 rw [BN (aP f)];exact congrArg List.length (ns (aP f) (bw f k (fA f k p)) (64 * W) h)
theorem xw {f:Fun} {b:Nat} {w:World} (h:eG f b w) (hI:∀k,k < f.2.2.2.1.length→inL f k=(aP f).filter (bw f k 0)) (hA:∀k,k < f.2.2.2.1.length→∀i,i < (ag f k).length→mV f k i=(aP f).filter (bw f k (nI f k i)))
  (hN:f.2.2.2.1.length≤1000000) (hM:∀k,(ag f k).length≤1000000):
  Calls Tryz.prog 32 #[.pointer (some ⟨b,0,none⟩)] w fun e w'=>e= .returned (.int .i64 (yS f:Nat))∧w'=w:=by
 obtain⟨B,W,G,C,R,CR,gr,cr,va,cv,h1,_,_,⟨hW1,hW2⟩,h5,h6,h7⟩:=h;have c1:w.cell? ⟨b,1,none⟩=some (.slice (some ⟨gr,0,none⟩) f.2.2.2.1.length cr):=by simp [World.cell?,h1]
 have HR:=aa (fun K (hK:K < f.2.2.2.1.length)=>gR h5 hK);have HS:=aa (fun K (hK:K < f.2.2.2.1.length) p (hp:p < (ag f K).length+1)=>gR (h6 K hK) hp);have HC:=aa (fun K (hK:K < f.2.2.2.1.length) p (hp:p < (ag f K).length+1)=>qS (h7 K hK p (by omega)) (by omega));have HE:=aa (fun K p=>G7 (f:=f) (k:=K) (p:=p) hW2);have HM:=aa (fun K (hK:K < f.2.2.2.1.length)=>uN (hI K hK) (hA K hK) (ag f K).length (Nat.le_refl _));have HB:=aa hM;have HF:Hid (yS f=kp f f.2.2.2.1.length):=aa rfl;clear h1 h5 h6 h7 hI hA hM hW1 hW2;obtain⟨N,hNe⟩:∃N,f.2.2.2.1.length=N:=⟨_,rfl⟩;rw [hNe] at c1 HR HS HC HM HF hN;clear hNe;go_enter Tryz.func32,Tryz.ntmps32
 go_wp2_with fail
 go_loopw [3,15] (fun mv iv wr=>∃K:Nat,K≤N∧iv= .int .i64 K∧mv= .int .i64 (kp f K:Nat)∧wr=w) (fun _ iv _=>N - (intOf iv).toNat)
 case atStart=>exact⟨0,Nat.zero_le _,rfl,rfl,rfl⟩
 case round=>
  obtain⟨K,hK,rfl,rfl,rfl⟩:=hrel;by_cases hit:K < N
  ·have hKI:(K:Int) < N:=(by omega);have ck:=HR.out K hit;obtain⟨m,hm⟩:∃m,(ag f K).length+1=m:=⟨_,rfl⟩;have Hm:=aa hm;have hml:m≤1000001:=(by have:=HB.out K;omega);rw [hm] at ck;clear hm;go_wp2_with fail
   go_loopw [3,21] (fun mv iv wr'=>∃I:Nat,I≤m∧iv= .int .i64 I∧mv= .int .i64 (sS f K I:Nat)∧wr'=wr) (fun _ iv _=>m - (intOf iv).toNat)
   case atStart=>exact⟨0,Nat.zero_le _,rfl,rfl,rfl⟩
   case round=>
    obtain⟨I,hI,rfl,rfl,rfl⟩:=hrel;by_cases hit2:I < m
    ·have hiI:(I:Int) < m:=(by omega);have cp:=HS.out K hit I (by rw [Hm.out];exact hit2);have CC:=HC.out K hit I (by rw [Hm.out];exact hit2);rw [HE.out] at CC;have HX:Hid (sS f K (I+1)=max (sS f K I) (AG f K I)):=aa rfl;unfold gy at cp;generalize G K I=g at *;generalize C K I=c at *;generalize AG f K I=n at *;generalize sS f K I=x at *;clear ck c1;go_wp2_with fail
     refine CC.mono ?_;rintro e w2 ⟨rfl,rfl⟩;go_wp2_with fail
     go_roundw
     case rel=>exact⟨I+1,by omega,by go_num,by rw [HX.out];congr 1;omega,trivial⟩
     case measure=>simp [intOf];omega
    ·obtain rfl:m=I:=(by omega);have HX:Hid (sS f K m=kp f (K+1)):=aa (by rw [←Hm.out,HM.out K hit];rfl);go_wp2_with fail
     go_roundw
     case rel=>exact⟨K+1,by omega,by go_num,by rw [HX.out],trivial⟩
     case measure=>simp [intOf];omega
  ·obtain rfl:N=K:=(by omega);go_wp2_with fail
   go_ret;exact⟨by rw [HF.out];rfl,rfl⟩
theorem Cv (f:Fun) (v:Value) (w:World) (hv:bS w f v) (hF:Ful f) (hT:Tos f) (hP:PhF f) (hM:Mod f) (h0:0 < f.2.2.2.1.length) (hR:∀k:Nat,k < f.2.2.2.1.length→(k:Int)∈aE f) (hA:(ml f).length≤1000000) (hTb:L5.Tab w) (hTz:lK w):
  Calls Tryz.prog 7 #[v] w fun e w'=>∃b,e= .returned (.pointer (some ⟨b,0,none⟩))∧eG f b w'∧Below w.heap.size w w':=by
 obtain⟨lp0,cp,lb,cb,rfl,_,_⟩:=dx hv;have b1:=af w (.cells (fC (bs f.1) lp0 lb f.2.1.length cp f.2.2.2.1.length cb f.2.2.1 f.2.2.2.2) 29);have H0:=aa (heap_alloc_new w (.cells (fC (bs f.1) lp0 lb f.2.1.length cp f.2.2.2.1.length cb f.2.2.1 f.2.2.2.2) 29));have HC:=aa (Br f _ _ (hv.below b1) hF hT hM hA (hTb.below b1) h0);have hAV:∀k,k < f.2.2.2.1.length→∀x∈ag f k,∀a∈x.2.2.2.2.1,a∈aP f:=fun k hk x hx a ha=>ry.2 ⟨_,List.mem_of_getElem? (de hk),x,hx,ha⟩;have hAl:∀k,k < f.2.2.2.1.length→∀x∈ag f k,x.2.2.2.2.1.length≤1000000:=fun k hk x hx=>by
  obtain⟨i,hi,e⟩:=List.mem_iff_getElem.1 hx;have h:=xQ (f:=f) hk hi;unfold au at h;rw [List.getD_eq_getElem?_getD,List.getElem?_eq_getElem hi,e] at h;exact Nat.le_trans h hA
 have hvl:(aP f).length≤1000000:=Nat.le_trans (xR f) hA;have HS:=aa (fun lp W wB q w' (hW:W=((aP f).length+63) / 64) (hL:LkW f (aP f) W wB lp q w') (hD:LkD f (aP f) W wB.heap.size (fun _ _=>noB) q w') (hAp:LkA f q)=>callsIn_wide.1 (zk hL hD (fun _ _ _=>rfl) hAp hF hT hP hM h0 hR (xD f) hAV hAl (by omega) (by omega)));have B1:=aa b1;have HZ:=aa hTz;have Hvl:=aa hvl;clear hv b1 hF hT hP hM h0 hR hA hTb hTz hAV hAl hvl;obtain⟨N,hNe⟩:∃N,f.2.2.2.1.length=N:=⟨_,rfl⟩;obtain⟨nm,hnm⟩:∃n,bs f.1=n:=⟨_,rfl⟩;obtain⟨rt,hrt⟩:∃n,f.2.2.1=n:=⟨_,rfl⟩;obtain⟨pl,hpe⟩:∃n,f.2.2.2.2=n:=⟨_,rfl⟩;obtain⟨lps,hlps⟩:∃n,f.2.1.length=n:=⟨_,rfl⟩;rw [hNe,hnm,hrt,hpe,hlps] at B1 H0 HC ⊢;clear hNe hnm hrt hpe hlps;go_enter Tryz.func7,Tryz.ntmps7
 go_upto_region 1 with fail
 show Code.wp _ _ _ _ (w.alloc (.cells (fC nm lp0 lb lps cp N cb rt pl) 29));generalize w.alloc (.cells (fC nm lp0 lb lps cp N cb rt pl) 29)=W1 at *;obtain⟨⟨x0,x1,x2,x3,x4⟩,_,_⟩:=eW H0.out;go_wp2_with fail
 refine HC.out.mono ?_;rintro e w1 ⟨lp,W,wB,q,rfl,hW,hB,hL,hD,hAp⟩;have HS2:=aa (HS.out lp W wB q w1 hW hL hD hAp);have HB:=aa hB;have HL:=aa hL;have HD:=aa hD.LU;have hW1:W≤100000∧(aP f).length≤64 * W:=by have:=Hvl.out;omega
 have HW:=aa hW1;clear hW hB hL hD hAp HS HC H0 x0 x1 x2 x3 x4 hW1;go_wp2_with fail
 refine HS2.out.mono ?_;rintro e w2 ⟨rfl,Hf,hHf,hD2,kf⟩;have hL2:=HL.out.kf kf HD.out;have hb2:Below w.heap.size w w2:=ae B1.out (ae HB.out hL2.base);have hL3:LkW f (aP f) W wB lp q w2.drew:=hL2.drew 1;obtain⟨va,cv,gr,cr,c5,c9,hlv⟩:=hL3.live (hD2.below (L5.aW w2)) hHf (HZ.out.below (ae hb2 (L5.aW w2))) HW.out.1 HW.out.2;have HLv:=aa hlv;have HB2:=aa (ae (ae hb2 (L5.aW w2)) (af w2.drew (.cells #[.slice va (aP f).length cv,.slice (some ⟨gr,0,none⟩) f.2.2.2.1.length cr] 71)));clear hHf hD2 kf hL2 hb2 hL3 hlv HS2 HL HD HW HZ Hvl;replace c5:w2.cell? ⟨lp,5,none⟩=some (.slice va (aP f).length cv):=c5;replace c9:w2.cell? ⟨lp,9,none⟩=some (.slice (some ⟨gr,0,none⟩) f.2.2.2.1.length cr):=c9;obtain⟨vl,hvl⟩:∃n,(aP f).length=n:=⟨_,rfl⟩;obtain⟨N2,hN2⟩:∃n,f.2.2.2.1.length=n:=⟨_,rfl⟩;rw [hvl] at c5;rw [hN2] at c9;rw [hvl,hN2] at HLv HB2;clear hvl hN2;go_upto_region 3 with fail
 apply Ez
 ·intro K0 HK0;go_region_law (fail)
  all_goals exact HK0
 go_wp2_with fail
 go_ret;exact⟨_,rfl,HLv.out,HB2.out⟩
theorem Dq (b:List Ins):(lP b).length=eL b:=by
 unfold lP eL;induction b with
 |nil=>rfl
 |cons x b ih=>simp only [List.flatMap_cons,List.length_append,List.map_cons,List.sum_cons,ih]
theorem Ie (l:List (List Ins)):(l.flatMap lP).length≤4 * wBs l:=by
 unfold wBs;induction l with
 |nil=>simp
 |cons b l ih=>
  simp only [List.flatMap_cons,List.length_append,List.map_cons,List.sum_cons];have h1:=Dq b;have h2:=yI b;omega
theorem GD {f:Fun} (h:∀k,k < f.2.2.2.1.length→∀i,i < (ag f k).length→dG f k i false=0):PhF f:=fun k hk i hi h20=>by
 have q:=h k hk i hi
 cases e:gG f k i with
 |true=>rfl
 |false=>
  unfold dG at q;split at q
  ·simp at q
  ·rw [if_pos (by rw [e,decide_eq_true h20];rfl)] at q;simp at q
def iF (p:List Fun) (f:Fun):Prop:=(LvF f∧Gr (aC f)∧TkA p f∧wid f≤1000000∧0 < f.2.2.2.1.length)∧PhF f∧(∀k:Nat,k < f.2.2.2.1.length→(k:Int)∈aE f)∧(ml f).length≤1000000∧∀k,k < f.2.2.2.1.length→∀i,i < (ag f k).length→dG f k i false=0
theorem qz {p:List Fun} (hq:lgQ p=true) (gp:∀y∈p,GxF y) {i:Nat} (hi:i < p.length):iF p (bh p i):=by
 have h:=En hq gp hi;have hq':=hq;unfold lgQ at hq';simp only [Bool.and_eq_true,decide_eq_true_eq] at hq';obtain⟨⟨hL,hc⟩,_⟩:=hq';obtain⟨_,_,c⟩:=tJ hc;obtain⟨_,s2,s3,_⟩:=yV (c i hi);refine⟨h,GD s3,fun k hk=>(qv h.1.2.1 h.2.2.2.2 _).2 (Ai h.1.2.1 h.2.2.2.2 s2 hk),?_,s3⟩;unfold kV at hL;simp only [Bool.and_eq_true,decide_eq_true_eq] at hL;have h1:=hL.1;unfold total at h1;have h2:wF (bh p i)≤wFs p:=lE wF (oz hi);have h3:=Ie (bh p i).2.2.2.1;unfold wF at h2;unfold ml;omega
theorem iF.ful {p:List Fun} {f:Fun} (h:iF p f):Ful f:=h.1.1.1
theorem iF.tos {p:List Fun} {f:Fun} (h:iF p f):Tos f:=h.1.1.2.1
theorem iF.mod {p:List Fun} {f:Fun} (h:iF p f):Mod f:=h.1.1.2.2.1
theorem iF.same {p:List Fun} {f:Fun} (h:iF p f) {k:Nat} (hk:k < f.2.2.2.1.length) (i:Nat):(aP f).filter (bw f k i)=(jf f).filter fun id=>bw f k i id:=xP h.1.2.1 h.tos h.1.2.2.1 h.2.2.2.2 hk
theorem iF.Lv {p:List Fun} {f:Fun} (h:iF p f) {k:Nat} (hk:k < f.2.2.2.1.length):0 < (ag f k).length:=List.length_pos_iff.2 (h.ful.2 _ (List.mem_of_getElem? (de hk))).1
theorem Kh {p:List Fun} {f:Fun} (h:iF p f) (v:Value) (w:World) (hv:bS w f v) (hT:L5.Tab w) (hZ:lK w):Calls Tryz.prog 7 #[v] w fun e w'=>∃b,e= .returned (.pointer (some ⟨b,0,none⟩))∧eG f b w'∧Below w.heap.size w w':=
 Cv f v w hv h.ful h.tos h.2.1 h.mod h.1.2.2.2.2 h.2.2.1 h.2.2.2.1 hT hZ
theorem Ko {p:List Fun} {f:Fun} (h:iF p f) {b k:Nat} {w:World} (hL:eG f b w) (hk:k < f.2.2.2.1.length):Calls Tryz.prog 15 #[.pointer (some ⟨b,0,none⟩),.int .i64 k] w (kn w (inL f k) (eG f b)):=by
 have q:=Js hL hk;rwa [h.same hk] at q
theorem Cu {p:List Fun} {f:Fun} (h:iF p f) {b k:Nat} {w:World} (hL:eG f b w) (hk:k < f.2.2.2.1.length):Calls Tryz.prog 11 #[.pointer (some ⟨b,0,none⟩),.int .i64 k] w (kn w (rn f k) (eG f b)):=by
 have q:=FO hL hk (h.mod.blk k);rw [h.same hk,GP (h.Lv hk)] at q;have e:((jf f).filter fun id=>bw f k (ag f k).length id)=rn f k:=by
  unfold rn;congr 1
  funext id;exact DI f k id
 rwa [e] at q
theorem ye {p:List Fun} {f:Fun} (h:iF p f) {b k i:Nat} {w:World} (hL:eG f b w) (hk:k < f.2.2.2.1.length) (hi:i < (ag f k).length):Calls Tryz.prog 12 #[.pointer (some ⟨b,0,none⟩),.int .i64 k,.int .i64 i] w (kn w (mV f k i) (eG f b)):=by
 have q:=Gl hL hk hi (h.mod.blk k);rwa [h.same hk] at q
theorem IQ {p:List Fun} {f:Fun} (h:iF p f) {b:Nat} {w:World} (hL:eG f b w):Calls Tryz.prog 32 #[.pointer (some ⟨b,0,none⟩)] w fun e w'=>e= .returned (.int .i64 (yS f:Nat))∧eG f b w'∧Below w.heap.size w w':=
 (xw hL (fun k hk=>(h.same hk 0).symm) (fun k hk i _=>(h.same hk (nI f k i)).symm) h.mod.1 fun k=>h.mod.blk k).mono fun e w' ⟨he,hw⟩=>⟨he,by rw [hw];exact hL,by rw [hw];exact Below.refl _ _⟩
def Km:ByteArray:={data:= #[102,117,110,99,32,109,97,105,110,40,105,41,32,105,32,123,32,98,48,58,32,37,49,32,61,32,99,111,110,115,116,32,49,32,37,50,32,61,32,110,105,108,32,98,114,32,98,49,32,98,49,58,32,37,51,32,61,32,112,104,105,46,105,32,98,48,32,37,48,32,98,50,32,37,53,32,37,52,32,61,32,112,104,105,46,112,32,98,48,32,37,50,32,98,50,32,37,54,32,105,102,32,37,51,32,98,50,32,98,51,32,98,50,58,32,37,53,32,61,32,115,117,98,32,37,51,32,37,49,32,37,54,32,61,32,99,97,108,108,46,112,32,99,111,110,115,32,37,51,32,37,52,32,111,117,116,32,37,53,32,98,114,32,98,49,32,98,51,58,32,37,55,32,61,32,108,111,97,100,46,105,32,37,52,32,48,32,114,101,116,32,37,55,32,125,32,102,117,110,99,32,99,111,110,115,40,105,32,112,41,32,112,32,123,32,98,48,58,32,37,50,32,61,32,110,101,119,32,105,112,32,115,116,111,114,101,46,105,32,37,50,32,48,32,37,48,32,115,116,111,114,101,46,112,32,37,50,32,49,32,37,49,32,114,101,116,32,37,50,32,125]}
def hX:List Fun:= [([109,97,105,110],[1],1,[[(1,1,1,0,[],[],[],21),(8,2,0,0,[],[],[],34),(26,-1,0,0,[],[1],[],43)],[(20,3,0,1,[0,5],[0,2],[],53),(20,4,0,2,[2,6],[0,2],[],76),(27,-1,0,0,[3],[2,3],[],99)],[(3,5,0,0,[3,1],[],[],115),(21,6,0,2,[3,4],[],[99,111,110,115],130),(22,-1,0,0,[5],[],[],153),(26,-1,0,0,[],[1],[],160)],[(11,7,0,0,[4],[],[],170),(28,-1,0,0,[7],[],[],187)]],0),([99,111,110,115],[1,2],2,[[(10,2,0,0,[],[],[105,112],219),(13,-1,0,0,[2,0],[],[],231),(14,-1,1,0,[2,1],[],[],247),(28,-1,0,0,[2],[],[],263)]],196)]
theorem DF {r q:Except Er (List Fun)} (h:same r q=true):r=q:=by
 unfold same at h;split at h
 ·rename_i xs ys;rw [@of_decide_eq_true _ (K9 xs ys) h]
 ·rw [of_decide_eq_true h]
 ·exact absurd h (by simp)
theorem Jm:Df Km= .ok hX:=DF (by decide +kernel)
theorem rh {B e s n q:Nat} {v u:Value} {xs:List Value} {w:World} (h:w.ownsRow B e s v n xs) (hq:q < B):(w.setCell ⟨q,0,none⟩ u).ownsRow B e s v n xs:=by
 refine⟨h.1,?_⟩;rcases h.2 with hn | ⟨g,cap,cur,hv2,hbb,hg,rest⟩
 ·exact .inl hn
 ·exact .inr ⟨g,cap,cur,hv2,hbb,(Below.heap_setCell w ⟨q,0,none⟩ u g (by show g≠q;omega)).trans hg,rest⟩
theorem eH.Kq {B q:Nat} {xs:List Fun} {v u:Value} {w:World} (h:eH B xs v w) (hq:q < B):eH B xs v (w.setCell ⟨q,0,none⟩ u):=by
 obtain⟨cs,h0,hR⟩:=h;exact⟨cs,rh h0 hq,jt.stay (fun e s v n xs _ h=>rh h hq) _ _ hR⟩
theorem ya {B e s n:Nat} {v:Value} {xs:List Value} {w w':World} (h:w.ownsRow B e s v n xs) (b:Below w.heap.size w w'):w'.ownsRow B e s v n xs:=az b B e s v n xs h
theorem eH.Hi {B:Nat} {xs:List Fun} {v:Value} {w w':World} (h:eH B xs v w) (b:Below w.heap.size w w'):eH B xs v w':=by
 obtain⟨cs,h0,hR⟩:=h;exact⟨cs,ya h0 b,jt.stay (fun e s v n xs _ h=>ya h b) _ _ hR⟩
theorem Aa (w:World):Calls Tryz.prog 31 #[] w fun e w'=>∃ao c,e= .returned (.agg #[.slice ao hX.length c])∧eg w' hX (.slice ao hX.length c)∧Below w.heap.size w w':=by
 have b0:=af w (.cells #[.slice none 0 0] 24);have h0:=heap_alloc_new w (.cells #[.slice none 0 0] 24);have CT:=aa (Au Km (by decide +kernel) (by decide +kernel) Jm (w.alloc (.cells #[.slice none 0 0] 24)));have hz0:(w.alloc (.cells #[.slice none 0 0] 24)).heap.size=w.heap.size+1:=by simp
 have HZ0:=aa hz0;have H0:=aa h0;have B0:=aa b0;clear b0 h0 hz0;go_enter Tryz.func31,Tryz.ntmps31
 go_upto_region 1 with fail
 show Code.wp _ _ _ _ (w.alloc (.cells #[.slice none 0 0] 24));generalize w.alloc (.cells #[.slice none 0 0] 24)=W at *;go_wp2_with fail
 refine CT.out.mono ?_;rintro e w1 ⟨v1,rfl,P1,b1⟩;obtain⟨b2,d1,_⟩:=Ix w1 (.cells #[v1] 24) (.cells #[.int .i64 0,.int .i64 0] 59);obtain⟨ao,c,rfl,_,_,_⟩:=yk P1;have P2:=aa (P1.Hi b2);have B2:=aa (ae b1 b2);have D1:=aa d1;clear b1 b2 d1 P1 CT;obtain⟨n1,hn1⟩:∃n,hX.length=n:=⟨_,rfl⟩;rw [hn1] at P2 B2 D1 ⊢;replace hn1:=aa hn1;go_upto_region 2 with fail
 show Code.wp _ _ _ _ ((w1.alloc (.cells #[.slice ao n1 c] 24)).alloc (.cells #[.int .i64 0,.int .i64 0] 59));generalize (w1.alloc (.cells #[.slice ao n1 c] 24)).alloc (.cells #[.int .i64 0,.int .i64 0] 59)=W2 at *;generalize w1.heap.size=q1 at *;have x1:=(bC D1.out).1;have h2:=(B2.out.block _ (Array.getElem?_eq_some_iff.1 H0.out).1).trans H0.out;have x0:=(bC h2).1;have f0:W2.frozen? ⟨w.heap.size,0,none⟩=false:=by simp [World.frozen?,h2]
 have PE:=aa (yk (P2.out.Kq (q:=w.heap.size) (u:= .slice ao n1 c) (by have:=HZ0.out;omega)));have BE:=aa ((ae B0.out B2.out).setCell (p:=⟨w.heap.size,0,none⟩) (Nat.le_refl _) (.slice ao n1 c));have hE:(W2.setCell ⟨w.heap.size,0,none⟩ (.slice ao n1 c)).cell? ⟨w.heap.size,0,none⟩=some (.slice ao n1 c):=by
  have:=heap_setCell_same W2 w.heap.size 0 _ 24 (.slice ao n1 c) h2;exact(bC (this.trans rfl)).1
 clear h2;go_wp2_with fail
 exact bodyPost_ret (v:= .agg #[.slice ao n1 c]) (by simp [results,Tryz.results31,go_sem,hE]) rfl ⟨ao,c,by rw [hn1.out],by rw [hn1.out];exact PE.out,BE.out⟩
theorem IE:lgQ hX=true:=by decide +kernel
theorem IU:∀y∈hX,GxF y:=by
 have h:∀y∈hX,y.1.length≤140737488355328∧y.2.1.length≤140737488355328∧y.2.2.2.1.length≤140737488355328∧∀b∈y.2.2.2.1,∀x∈b,(-9223372036854775808≤x.2.1∧x.2.1≤9223372036854775807)∧(-9223372036854775808≤x.2.2.1∧x.2.2.1≤9223372036854775807)∧(∀i∈x.2.2.2.2.1,(-9223372036854775808≤i∧i≤9223372036854775807))∧(∀i∈x.2.2.2.2.2.1,(-9223372036854775808≤i∧i≤9223372036854775807))∧x.2.2.2.2.1.length≤140737488355328∧x.2.2.2.2.2.1.length≤140737488355328∧x.2.2.2.2.2.2.1.length≤140737488355328:=by decide +kernel
 exact h
theorem Gb:iF hX (bh hX 0):=qz IE IU (by decide)
theorem J2:inL (bh hX 0) 1= [1]:=by decide +kernel
theorem Cs:rn (bh hX 0) 0= [0,1,2]:=by decide +kernel
theorem DX:rn (bh hX 0) 2= [1,5,6]:=by decide +kernel
theorem zQ:mV (bh hX 0) 2 1= [1,5,6]:=by decide +kernel
theorem zu:mV (bh hX 0) 1 0= [1,3,4]:=by decide +kernel
theorem AB:mV (bh hX 0) 3 0= [7]:=by decide +kernel
theorem Ek:yS (bh hX 0)=4:=by decide +kernel
theorem uk (w:World) (hT:L5.Tab w) (hZ:lK w):Calls Tryz.prog 6 #[] w fun e w'=>e= .returned (.bool true)∧Below w.heap.size w w':=by
 have hR:=Gb;refine rS hX (bh hX 0) w (eG (bh hX 0)) rfl rfl rfl (Aa w) (fun b w w' h k=>h.below k) (fun w' v b hv=>Kh hR v w' hv (hT.below b) (hZ.below b)) (fun w' b _ h=> ?_) (fun w' b _ h=> ?_) (fun w' b _ h=> ?_) (fun w' b _ h=> ?_) (fun w' b _ h=> ?_) (fun w' b _ h=> ?_) (fun w' b _ h=> ?_)
 ·have q:=Ko hR h (k:=1) (by decide);rw [J2] at q;exact q
 ·have q:=Cu hR h (k:=0) (by decide);rw [Cs] at q;exact q
 ·have q:=Cu hR h (k:=2) (by decide);rw [DX] at q;exact q
 ·have q:=ye hR h (k:=2) (i:=1) (by decide) (by decide);rw [zQ] at q;exact q
 ·have q:=ye hR h (k:=1) (i:=0) (by decide) (by decide);rw [zu] at q;exact q
 ·have q:=ye hR h (k:=3) (i:=0) (by decide) (by decide);rw [AB] at q;exact q
 ·have q:=IQ hR h;rw [Ek] at q;exact q
theorem J5 {p:List Fun} (h:lgQ p=true):0 < p.length:=by
 unfold lgQ at h;simp only [Bool.and_eq_true,decide_eq_true_eq] at h;exact h.2
theorem Im {p:List Fun} {wh:Int} (h:lgQ p=true):(wh % (p.length:Int)).toNat < p.length:=by
 have h0:=J5 h;have h1:=Int.emod_nonneg wh (show(p.length:Int)≠0 by omega);have h2:=Int.emod_lt_of_pos wh (show(0:Int) < p.length by omega);omega
theorem Gg {p:List Fun} {f:Fun} (h:iF p f):(jf f).length≤1000000:=by
 have h1:=yr f.2.2.2.1 (pT f.2.1.length);rw [Cf] at h1;have h2:=h.1.2.2.2.1;unfold wid at h2;unfold jf;omega
theorem IW {p:List Fun} (h:lgQ p=true):kV p=true:=by
 unfold lgQ at h;simp only [Bool.and_eq_true,decide_eq_true_eq] at h;exact h.1.1
theorem xb (p:List Fun) (wh:Int) (tu:List Int) (v1:Value) (po:Option Addr) (pc:Nat) (w:World) (hp:eg w p (.slice po p.length pc)) (gp:∀y∈p,GxF y) (fp:Few p.length) (hwb:0≤wh∧wh < 256) (hbv:mQ w tu v1) (gb:∀x∈tu,0≤x∧x < 256) (hT:L5.Tab w) (hZ:lK w):
  Calls Tryz.prog 3 #[.agg #[.slice po p.length pc],.int .u8 wh,v1] w fun e w'=>e= .returned (.bool true)∧Below w.heap.size w w':=by
 have hR:lgQ p=true→iF p (bh p (wh % (p.length:Int)).toNat):=fun q=>qz q gp (Im q);refine uU p wh tu v1 po pc w (eG (bh p (wh % (p.length:Int)).toNat)) (bh p (wh % (p.length:Int)).toNat) hbv gb (fun w' b=>Bj p wh po pc w' (hp.below b) gp fp hwb) (fun w' b=>uk w' (hT.below b) (hZ.below b)) rfl (fun b w w' h k=>h.below k)
  (fun q=>⟨(hR q).mod.1,fun k hk=> ?_,Gg (hR q)⟩) (fun q=>⟨(hR q).1.1,(hR q).1.2.1,(hR q).1.2.2.1,(hR q).1.2.2.2.2⟩) (fun q w' v b hv=>Kh (hR q) v w' hv (hT.below b) (hZ.below b))
  (fun q w' b k _ h hk=>Ko (hR q) h hk) (fun q w' b k _ h hk=>Cu (hR q) h hk) (fun q w' b k i _ h hk hi=>ye (hR q) h hk hi)
 have:=AU (IW q) (oz (Im q)) hk;exact⟨this.1,this.2.1⟩
end Go.Proofs.YtaiaakklokahjaaGreatDoor
