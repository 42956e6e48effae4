/- Texts of one chain, joined. -/
import Derived.Test.YtaiaakklokahjaaGreatDoorZWaAD
import Derived.Test.YtaiaakklokahjaaGreatDoorZWaAE
import Derived.Defers
import Derived.Recover
set_option maxHeartbeats 1000000
set_option maxRecDepth 20000
namespace Go.Proofs.YtaiaakklokahjaaGreatDoor
open Go Go.RowKit
open G (Tok Er Ins Fun ah bk fk)
def jg (B B':Nat) (w w':World):Prop:=∀(e s:Nat) (v:Value) (n:Nat) (xs:List Value),e=3∨e=36∨e=41→w.ownsRow B e s v n xs→w'.ownsRow B' e s v n xs
theorem jg.trans {A B C:Nat} {u v w:World} (h:jg A B u v) (k:jg B C v w):jg A C u w:=fun e s x n xs he ho=>k e s x n xs he (h e s x n xs he ho)
theorem kZ {B:Nat} {w w':World} (b:Below w.heap.size w w'):jg B B w w':=fun e s v n xs _ h=>az b B e s v n xs h
theorem qQ {B B':Nat} {w:World} (hB:B'≤B):jg B B' w w:=fun _ _ _ _ _ _ h=>aL h hB
theorem Ej {q B:Nat} {w w':World} (hf:Far q w w') (hq:∀(e s:Nat) (v:Value) (n:Nat) (xs:List Value),e=3∨e=36∨e=41→w.ownsRow B e s v n xs→v.ownBlock≠some q):jg B B w w':=fun e s v n xs he h=>hf.own h (hq e s v n xs he h)
theorem fU {q B t:Nat} {w w':World} (hf:Far q w w') {c:Array Value} {fz:Nat × Nat} (hc:w.heap[q]? =some (.cells c t fz)) (ht:t≠3∧t≠36∧t≠41):jg B B w w':=
 Ej hf fun e s v n xs he h=>by
  refine bp h hc ?_;rcases he with rfl | rfl | rfl
  ·exact ht.1
  ·exact ht.2.1
  ·exact ht.2.2
theorem vu {B B' e' s' n:Nat} {w w':World} {row:Value} {ys:List Value} (hg:w.grownBy w' row.ownBlock) (hr:w.ownsRow B' e' s' row n ys) (he':e'≠3∧e'≠36∧e'≠41):jg B B w w':=fun e s v m xs he h=>eP hg hr (by omega) v m xs h
theorem bR.stay {B B':Nat} {xs:List Ins} {v:Value} {w w':World} (h:bR B xs v w) (hs:jg B B' w w'):bR B' xs v w':=by
 obtain⟨cs,h1,h2⟩:=h;exact⟨cs,hs _ _ _ _ _ (by simp) h1,dj.keep (fun v n xs h=>hs 3 1 v n xs (by simp) h) _ _ h2⟩
def kj (B:Nat) (w:World):List (List Ins)→List Value→Prop
 |[],vs=>vs= []
 |b :: r,vs=>∃v rest,vs=v :: rest∧bR B b v w∧kj B w r rest
theorem kj.keep {B B':Nat} {w w':World} (hk:∀xs v,bR B xs v w→bR B' xs v w'):∀(l:List (List Ins)) (vs:List Value),kj B w l vs→kj B' w' l vs:=by
 intro l;induction l with
 |nil=>intro vs h;exact h
 |cons b r ih=>
  rintro vs ⟨v,rest,h1,h2,h3⟩;exact⟨v,rest,h1,hk _ _ h2,ih rest h3⟩
theorem kj.snoc {B:Nat} {w:World} {b:List Ins} {v:Value} (h:bR B b v w):∀(l:List (List Ins)) (vs:List Value),kj B w l vs→kj B w (l ++ [b]) (vs ++ [v]):=by
 intro l;induction l with
 |nil=>intro vs hv;cases hv;exact⟨v,[],rfl,h,rfl⟩
 |cons y r ih=>
  rintro vs ⟨u,rest,rfl,h4,h5⟩;exact⟨u,rest ++ [v],rfl,h4,ih rest h5⟩
def cZ (B:Nat) (bl:List (List Ins)) (v:Value) (w:World):Prop:=∃vs,w.ownsRow B 36 1 v bl.length vs∧kj B w bl vs
theorem cZ.stay {B B':Nat} {bl:List (List Ins)} {v:Value} {w w':World} (h:cZ B bl v w) (hs:jg B B' w w'):cZ B' bl v w':=by
 obtain⟨vs,h1,h2⟩:=h;exact⟨vs,hs _ _ _ _ _ (by simp) h1,kj.keep (fun _ _ h=>h.stay hs) _ _ h2⟩
def aH (x:Fun) (vp vb:Value):List Value:= [.string (bs x.1),vp,.int .i64 x.2.2.1,vb,.int .i64 x.2.2.2.2]
def dw (B c:Nat) (x:Fun) (w:World):Prop:=
 ∃vp vb,w.heap[c]? =some (.cells (aH x vp vb).toArray 29 (0,0))∧w.ownsRow B 3 1 vp x.2.1.length (ints x.2.1)∧cZ B x.2.2.2.1 vb w∧B≤c
def JA (B:Nat) (x:Fun) (v:Value) (w:World):Prop:=
 ∃vp vb,v= .agg (aH x vp vb).toArray∧w.ownsRow B 3 1 vp x.2.1.length (ints x.2.1)∧cZ B x.2.2.2.1 vb w
theorem dw.stay {B c:Nat} {x:Fun} {w w':World} (h:dw B c x w) (hs:jg B B w w') (hc:w'.heap[c]? =w.heap[c]?):dw B c x w':=by
 obtain⟨vp,vb,h1,h2,h3,h4⟩:=h;exact⟨vp,vb,hc.trans h1,hs _ _ _ _ _ (by simp) h2,h3.stay hs,h4⟩
theorem dw.lt {B c:Nat} {x:Fun} {w:World} (h:dw B c x w):c < w.heap.size∧B≤c:=by
 obtain⟨vp,vb,h1,h2,h3,h4⟩:=h;exact⟨(Array.getElem?_eq_some_iff.1 h1).1,h4⟩
theorem dw.put {B c i:Nat} {x y:Fun} {w:World} {v:Value} {vp' vb':Value→Value→Value} (h:dw B c x w) (hy:∀vp vb,(aH x vp vb).toArray.setIfInBounds i v=(aH y (vp' vp vb) (vb' vp vb)).toArray) (hp:∀vp vb,w.ownsRow B 3 1 vp x.2.1.length (ints x.2.1)→w.ownsRow B 3 1 (vp' vp vb) y.2.1.length (ints y.2.1)) (hb:∀vp vb,cZ B x.2.2.2.1 vb w→cZ B y.2.2.2.1 (vb' vp vb) w):dw B c y (w.setCell ⟨c,i,none⟩ v):=by
 obtain⟨vp,vb,h1,h2,h3,h4⟩:=h;have hs:jg B B w (w.setCell ⟨c,i,none⟩ v):=fU ((Far.refl c w).set i v) h1 (by decide);refine⟨vp' vp vb,vb' vp vb,?_,hs _ _ _ _ _ (by simp) (hp vp vb h2),(hb vp vb h3).stay hs,h4⟩;rw [heap_setCell_same w c i _ 29 _ h1,hy]
def KL (x:Fun) (s:List UInt8):Fun:=(s,x.2.1,x.2.2.1,x.2.2.2.1,x.2.2.2.2)
def LF (x:Fun) (t:Int):Fun:=(x.1,x.2.1,t,x.2.2.2.1,x.2.2.2.2)
def IF (x:Fun) (b:List Ins):Fun:=(x.1,x.2.1,x.2.2.1,x.2.2.2.1 ++ [b],x.2.2.2.2)
theorem dw.name {B c:Nat} {x:Fun} {w:World} (h:dw B c x w) (s:List UInt8):dw B c (KL x s) (w.setCell ⟨c,0,none⟩ (.string (bs s))):=
 h.put (vp':=fun vp _=>vp) (vb':=fun _ vb=>vb) (fun _ _=>rfl) (fun _ _ h=>h) (fun _ _ h=>h)
theorem dw.ret {B c:Nat} {x:Fun} {w:World} (h:dw B c x w) (t:Int):dw B c (LF x t) (w.setCell ⟨c,2,none⟩ (.int .i64 t)):=
 h.put (vp':=fun vp _=>vp) (vb':=fun _ vb=>vb) (fun _ _=>rfl) (fun _ _ h=>h) (fun _ _ h=>h)
theorem dw.new {B:Nat} {w:World} (hB:B≤w.heap.size) (p:Int):dw B w.heap.size ([],[],0,[],p) (w.alloc (.cells #[.string ⟨#[]⟩,.slice none 0 0,.int .i64 0,.slice none 0 0,.int .i64 p] 29)):=
 ⟨.slice none 0 0,.slice none 0 0,heap_alloc_new w _,World.ownsRow_nil _ _ _ _,⟨[],World.ownsRow_nil _ _ _ _,rfl⟩,hB⟩
theorem dw.cells {B c:Nat} {x:Fun} {w:World} (h:dw B c x w):∃vp vb,(∀i v,(aH x vp vb)[i]? =some v→w.cell? ⟨c,i,none⟩=some v)∧(∀i,w.frozen? ⟨c,i,none⟩=false)∧w.ownsRow B 3 1 vp x.2.1.length (ints x.2.1)∧cZ B x.2.2.2.1 vb w:=by
 obtain⟨vp,vb,h1,h2,h3,h4⟩:=h;refine⟨vp,vb,fun i v hv=> ?_,fun i=>by simp [World.frozen?,h1],h2,h3⟩;simp only [World.cell?,h1];simpa using hv
abbrev mO (E:Int) (f n:Nat) (acc:List (List Ins)):G.Rd (List (List Ins) × Nat):=G.rO bL aF gX fG dZ jG lg rm E f n acc
abbrev pR (E:Int) (n:Nat):G.Rd (Fun × Nat):=G.function bL aF gX fG dZ jG lg rm E n
theorem tz {E:Int} {f n:Nat} {acc:List (List Ins)} {l:List Tok} (h:ah l= [125]):mO E (f+1) n acc l= .ok ((acc,n),l):=by
 unfold mO G.rO;rw [if_pos h]
theorem Fm {E:Int} {f n:Nat} {acc:List (List Ins)} {l:List Tok} {er:Er} (h:¬ah l= [125]) (hb:jy E acc.length n l= .error er):mO E (f+1) n acc l= .error er:=by
 unfold mO G.rO;rw [if_neg h];show G.andThen (jy E acc.length n l) _=_;rw [hb];rfl
theorem IL {E:Int} {f n n':Nat} {acc:List (List Ins)} {b:List Ins} {l l':List Tok} (h:¬ah l= [125]) (hb:jy E acc.length n l= .ok ((b,n'),l')):mO E (f+1) n acc l=mO E f n' (acc ++ [b]) l':=by
 conv=>lhs;unfold mO G.rO
 rw [if_neg h];show G.andThen (jy E acc.length n l) _=_;rw [hb];rfl
theorem Gp {E:Int}:∀(f n:Nat) (acc:List Ins) (l:List Tok) (v:List Ins × Nat) (r:List Tok),mF E f n acc l= .ok (v,r)→r.length≤l.length:=by
 intro f;induction f with
 |zero=>intro n acc l v r h;cases h;exact Nat.le_refl _
 |succ f ih=>
  intro n acc l v r h;by_cases hc:ah l= [125]∨bk l= [58]
  ·rw [pG hc] at h;cases h;exact Nat.le_refl _
  ·by_cases hn:4096≤n
   ·rw [tM hc hn] at h;cases h
   ·cases hi:jC E l with
    |error er=>rw [yc hc (by omega) hi] at h;cases h
    |ok p=>
     obtain⟨x,l1⟩:=p;rw [DS hc (by omega) hi] at h;have:=ih _ _ _ _ _ h;have:=kJ hi;omega
theorem pE {E:Int} {k n n':Nat} {b:List Ins} {l l':List Tok} (h:jy E k n l= .ok ((b,n'),l')):l'.length < l.length:=by
 obtain⟨u,q,h1,h2⟩:=G.then_ok h;obtain⟨u2,q2,h3,h4⟩:=G.then_ok h2;obtain⟨g1,g2,_⟩:=G.rQ h1;obtain⟨g3,g4,_⟩:=G.eY (by simp) h3;have:=bQ g1;have:=bQ g3;have:=Gp _ _ _ _ _ _ h4;rw [g4,g2] at *;omega
def F9 (E at':Int) (s:List UInt8) (p:List Int) (t:Int) (b:List (List Ins) × Nat):G.Rd (Fun × Nat):=fun r=>G.andThen (G.want E [125] r) fun _=>G.done ((s,p,t,b.1,at'),b.2)
def F8 (E at':Int) (n:Nat) (s:List UInt8) (p:List Int) (t:Int):G.Rd (Fun × Nat):=fun r=>G.andThen (mO E (r.length+1) n [] r) fun b=>F9 E at' s p t b
def F7 (E at':Int) (n:Nat) (s:List UInt8) (p:List Int) (t:Int):G.Rd (Fun × Nat):=fun r=>G.andThen (G.want E [123] r) fun _=>F8 E at' n s p t
def F6 (E at':Int) (n:Nat) (s:List UInt8) (p:List Int):G.Rd (Fun × Nat):=fun r=>G.andThen (G.answer E r) fun t=>F7 E at' n s p t
def F5 (E at':Int) (n:Nat) (s:List UInt8) (p:List Int):G.Rd (Fun × Nat):=fun r=>G.andThen (G.want E [41] r) fun _=>F6 E at' n s p
def F4 (E at':Int) (n:Nat) (s:List UInt8):G.Rd (Fun × Nat):=fun r=>G.andThen (G.params E r) fun p=>F5 E at' n s p
def F3 (E at':Int) (n:Nat) (s:List UInt8):G.Rd (Fun × Nat):=fun r=>G.andThen (G.want E [40] r) fun _=>F4 E at' n s
def F2 (E at':Int) (n:Nat):G.Rd (Fun × Nat):=fun r=>G.andThen (G.name gX E r) fun s=>F3 E at' n s
def F1 (E at':Int) (n:Nat):G.Rd (Fun × Nat):=fun r=>G.andThen (G.want E [102,117,110,99] r) fun _=>F2 E at' n
theorem bU {α β:Type} {x:Except Er (α × List Tok)} {f:α→G.Rd β} {v:α} {r:List Tok} (h:x= .ok (v,r)):G.andThen x f=f v r:=by rw [h];rfl
theorem qJ {B B':Nat} {w w':World} (hs:∀(e s:Nat) (v:Value) (n:Nat) (xs:List Value),e=3∨e=41→w.ownsRow B e s v n xs→w'.ownsRow B' e s v n xs):∀xs v,bR B xs v w→bR B' xs v w':=by
 rintro xs v ⟨cs,h1,h2⟩;exact⟨cs,hs _ _ _ _ _ (by simp) h1,dj.keep (fun v n xs h=>hs 3 1 v n xs (by simp) h) _ _ h2⟩
theorem vF {B c gg cap:Nat} {x:Fun} {b:List Ins} {v va vp:Value} {vs:List Value} {u w3:World} (hc:u.heap[c]? =some (.cells (aH x vp va).toArray 29 (0,0))) (hp:u.ownsRow B 3 1 vp x.2.1.length (ints x.2.1)) (oB:u.ownsRow B 36 1 va x.2.2.2.1.length vs) (hR:kj B u x.2.2.2.1 vs) (hb:bR B b v u) (hBc:B≤c)
  (hown:w3.ownsRow B 36 1 (.slice (some ⟨gg,0,none⟩) (x.2.2.2.1.length+1) cap) (x.2.2.2.1.length+1) (vs ++ [v])) (hg:u.grownBy w3 va.ownBlock):dw B c (IF x b) (w3.setCell ⟨c,3,none⟩ (.slice (some ⟨gg,0,none⟩) (x.2.2.2.1.length+1) cap)):=by
 have s1:∀(e s:Nat) (v:Value) (n:Nat) (xs:List Value),e=3∨e=41→u.ownsRow B e s v n xs→w3.ownsRow B e s v n xs:=fun e s v n xs he h=>eP hg oB (by rcases he with rfl | rfl <;> decide) v n xs h;have hc3:w3.heap[c]? =some (.cells (aH x vp va).toArray 29 (0,0)):=(hg.block c (Array.getElem?_eq_some_iff.1 hc).1 (fun e=>bp oB hc (by decide) e.symm)).trans hc;have s2:jg B B w3 (w3.setCell ⟨c,3,none⟩ (.slice (some ⟨gg,0,none⟩) (x.2.2.2.1.length+1) cap)):=fU ((Far.refl c w3).set 3 _) hc3 (by decide);refine⟨vp,_,(heap_setCell_same w3 c 3 _ 29 _ hc3).trans rfl,s2 _ _ _ _ _ (by simp) (s1 _ _ _ _ _ (by simp) hp),?_,hBc⟩;refine cZ.stay ⟨vs ++ [v],?_,kj.snoc (qJ s1 _ _ hb) _ _ (kj.keep (qJ s1) _ _ hR)⟩ s2;show w3.ownsRow B 36 1 _ (x.2.2.2.1 ++ [b]).length _;rw [List.length_append];exact hown
theorem Tryz.IC:(Tryz.prog.info? 36).map (fun i=>(i.zero,i.size,i.bytes))=some (some (.slice none 0 0),1,24):=by kernel_rfl
theorem AE {ao:Option Addr} {n c:Nat}:∀u∈ [Value.slice ao n c],u.oneCell'=true:=by
 intro u hu;simp only [List.mem_singleton] at hu;subst hu;rfl
def KT (g:Nat) (w:World):Prop:=w.cell? ⟨g,0,none⟩=some (.string ⟨#[]⟩)∧w.cell? ⟨g,1,none⟩=some (.slice none 0 0)∧w.cell? ⟨g,2,none⟩=some (.int .i64 0)∧w.cell? ⟨g,3,none⟩=some (.slice none 0 0)∧w.cell? ⟨g,4,none⟩=some (.int .i64 0)∧
 w.frozen? ⟨g,0,none⟩=false∧w.frozen? ⟨g,1,none⟩=false∧w.frozen? ⟨g,2,none⟩=false∧w.frozen? ⟨g,3,none⟩=false∧w.frozen? ⟨g,4,none⟩=false
theorem LS {g:Nat} {w:World} (h:w.heap[g]? =some (.cells #[.string ⟨#[]⟩,.slice none 0 0,.int .i64 0,.slice none 0 0,.int .i64 0] 29 (0,0))):KT g w:=by
 unfold KT;simp [World.cell?,World.frozen?,h]
def jt (B:Nat) (w:World):List Fun→List Value→Prop
 |[],cs=>cs= []
 |x :: r,cs=>∃vp vb rest,cs=aH x vp vb ++ rest∧w.ownsRow B 3 1 vp x.2.1.length (ints x.2.1)∧cZ B x.2.2.2.1 vb w∧jt B w r rest
theorem jt.stay {B B':Nat} {w w':World} (hs:jg B B' w w'):∀(l:List Fun) (cs:List Value),jt B w l cs→jt B' w' l cs:=by
 intro l;induction l with
 |nil=>intro cs h;exact h
 |cons x r ih=>
  rintro cs ⟨vp,vb,rest,h1,h2,h3,h4⟩;exact⟨vp,vb,rest,h1,hs _ _ _ _ _ (by simp) h2,h3.stay hs,ih rest h4⟩
theorem jt.snoc {B:Nat} {w:World} {x:Fun} {vp vb:Value} (h1:w.ownsRow B 3 1 vp x.2.1.length (ints x.2.1)) (h2:cZ B x.2.2.2.1 vb w):∀(l:List Fun) (cs:List Value),jt B w l cs→jt B w (l ++ [x]) (cs ++ aH x vp vb):=by
 intro l;induction l with
 |nil=>intro cs h;cases h;exact⟨vp,vb,[],by simp,h1,h2,rfl⟩
 |cons y r ih=>
  rintro cs ⟨ua,ut,rest,rfl,h4,h5,h6⟩;exact⟨ua,ut,rest ++ aH x vp vb,by simp,h4,h5,ih rest h6⟩
def eH (B:Nat) (xs:List Fun) (v:Value) (w:World):Prop:=∃cs,w.ownsRow B 29 5 v xs.length cs∧jt B w xs cs
abbrev fwG (E:Int) (f n:Nat) (acc:List Fun):G.Rd (List Fun × Nat):=G.uO bL aF gX fG dZ jG lg rm E f n acc
abbrev yR (E:Int):G.Rd (List Fun × Nat):=G.program bL aF gX fG dZ jG lg rm E
theorem yn {E:Int} {f n:Nat} {acc:List Fun}:fwG E (f+1) n acc []= .ok ((acc,n),[]):=by
 unfold fwG G.uO;rw [if_pos rfl]
theorem ze {E:Int} {f n:Nat} {acc:List Fun} {l:List Tok} (h:l≠ []) (hn:32≤acc.length):fwG E (f+1) n acc l= .error (6,fk E l):=by
 unfold fwG G.uO;rw [if_neg h,if_pos hn]
theorem EH {E:Int} {f n:Nat} {acc:List Fun} {l:List Tok} {er:Er} (h:l≠ []) (hn:acc.length < 32) (hi:pR E n l= .error er):fwG E (f+1) n acc l= .error er:=by
 unfold fwG G.uO;rw [if_neg h,if_neg (by omega)];show G.andThen (pR E n l) _=_;rw [hi];rfl
theorem Ij {E:Int} {f n n':Nat} {acc:List Fun} {l l':List Tok} {x:Fun} (h:l≠ []) (hn:acc.length < 32) (hi:pR E n l= .ok ((x,n'),l')):fwG E (f+1) n acc l=fwG E f n' (acc ++ [x]) l':=by
 conv=>lhs;unfold fwG G.uO
 rw [if_neg h,if_neg (by omega)];show G.andThen (pR E n l) _=_;rw [hi];rfl
theorem Tryz.J3:(Tryz.prog.info? 29).map (fun i=>(i.zero,i.size,i.bytes))=some (some (.agg #[.string ⟨#[]⟩,.slice none 0 0,.int .i64 0,.slice none 0 0,.int .i64 0]),5,80):=by kernel_rfl
theorem qN {w:World} {x:Fun} {vp vb:Value}:∀(j:Nat) (u:Value),(aH x vp vb)[j]? =some u→(w.alloc (.cells (aH x vp vb).toArray 29)).cell? ((⟨w.heap.size,0,none⟩:Addr).add j)=some u:=
 World.news_of_block (cs:=(aH x vp vb).toArray) (heap_alloc_new w _)
theorem Db {x:Fun} {ao ap:Option Addr} {m n c d:Nat}:∀u∈aH x (.slice ao m c) (.slice ap n d),u.oneCell'=true:=by
 intro u hu;simp only [aH,List.mem_cons,List.not_mem_nil,or_false] at hu;rcases hu with rfl | rfl | rfl | rfl | rfl <;> rfl
theorem GJ {E:Int}:∀(f n:Nat) (acc:List (List Ins)) (l:List Tok) (v:List (List Ins) × Nat) (r:List Tok),mO E f n acc l= .ok (v,r)→r.length≤l.length:=by
 intro f;induction f with
 |zero=>intro n acc l v r h;cases h;exact Nat.le_refl _
 |succ f ih=>
  intro n acc l v r h;by_cases hc:ah l= [125]
  ·rw [tz hc] at h;cases h;exact Nat.le_refl _
  ·cases hi:jy E acc.length n l with
   |error er=>rw [Fm hc hi] at h;cases h
   |ok q=>
    obtain⟨⟨b,n'⟩,l1⟩:=q;rw [IL hc hi] at h;have:=ih _ _ _ _ _ h;have:=pE hi;omega
theorem uG {E:Int} {n n':Nat} {l l':List Tok} {x:Fun} (h:pR E n l= .ok ((x,n'),l')):l'.length < l.length:=by
 obtain⟨u1,l1,h1,h⟩:=G.then_ok h;obtain⟨s,l2,h2,h⟩:=G.then_ok h;obtain⟨u3,l3,h3,h⟩:=G.then_ok h;obtain⟨p,l4,h4,h⟩:=G.then_ok h;obtain⟨u5,l5,h5,h⟩:=G.then_ok h;obtain⟨t,l6,h6,h⟩:=G.then_ok h;obtain⟨u7,l7,h7,h⟩:=G.then_ok h;obtain⟨b,l8,h8,h⟩:=G.then_ok h;obtain⟨u9,l9,h9,h⟩:=G.then_ok h
 cases h;have s1:=(G.lO (d:=0) (m:= []) (E':=E) (by simp) l u1 l1 h1).1.length_le;have s2:=(G.sW (d:=0) (m:= []) (E':=E) nM l1 s l2 h2).1.length_le;have s3:=(G.lO (d:=0) (m:= []) (E':=E) (by simp) l2 u3 l3 h3).1.length_le;have s4:=(G.xJ (d:=0) (m:= []) (E':=E) l3 p l4 h4).1.length_le;have s5:=(G.lO (d:=0) (m:= []) (E':=E) (by simp) l4 u5 l5 h5).1.length_le;have s6:=(G.wR (d:=0) (m:= []) (E':=E) l5 t l6 h6).1.length_le;have s7:=(G.lO (d:=0) (m:= []) (E':=E) (by simp) l6 u7 l7 h7).1.length_le;obtain⟨g1,g2,_⟩:=G.eY (by simp) h9;have s8:=GJ _ _ _ _ _ _ h8;have:=bQ g1;rw [g2] at *;omega
def nH (s:ByteArray) (ws:List (Nat × Nat)):List Tok:=ws.map fun q=>((s.extract q.1 q.2).data.toList,(q.1:Int))
theorem xp (s:ByteArray) (ws:List (Nat × Nat)):L2.gF (ws.map (L2.tok s))=iN (nH s ws):=by
 induction ws with
 |nil=>rfl
 |cons q r ih=>
  show Value.string (s.extract q.1 q.2) :: Value.int .i64 (q.1:Int) :: L2.gF (r.map (L2.tok s))=Value.string (bs (s.extract q.1 q.2).data.toList) :: Value.int .i64 (q.1:Int) :: iN (nH s r);rw [Il,ih]
def Df (s:ByteArray):Except Er (List Fun):=
 match L2.words s with
 |.inl x=> .error (1,(x:Int))
 |.inr ws=>match yR (s.size:Int) (nH s ws)with
  |.ok ((xs,_),_)=> .ok xs
  |.error er=> .error er
theorem wP {s:ByteArray} {ws:List (Nat × Nat)} (h:L2.words s= .inr ws) (hs:s.size≤65536):(nH s ws).length≤131072∧∀t∈nH s ws,t.1.length≤65536:=by
 have hok:=(L2.DC h).1;have hl:=(L2.CZ s.data.toList ws 0 s.size hok).2;refine⟨by simp [nH];omega,fun t ht=> ?_⟩;simp only [nH,List.mem_map] at ht;obtain⟨q,_,rfl⟩:=ht;show(s.extract q.1 q.2).data.toList.length≤65536;rw [EF];have:s.data.toList.length=s.size:=by simp
 simp;omega
open G (Tok Er Ins Fun)
def Lp:DecidableEq (List UInt8 × Int):=instDecidableEqProd
def Lh:DecidableEq (List Int × List UInt8 × Int):= @instDecidableEqProd _ _ _ Lp
def Lu:DecidableEq (List Int × List Int × List UInt8 × Int):= @instDecidableEqProd _ _ _ Lh
def LO:DecidableEq (Int × List Int × List Int × List UInt8 × Int):= @instDecidableEqProd _ _ _ Lu
def LC:DecidableEq (Int × Int × List Int × List Int × List UInt8 × Int):= @instDecidableEqProd _ _ _ LO
def Ly:DecidableEq (Int × Int × Int × List Int × List Int × List UInt8 × Int):= @instDecidableEqProd _ _ _ LC
def LN:DecidableEq Ins:= @instDecidableEqProd _ _ _ Ly
def Lj:DecidableEq (List Ins):= @instDecidableEqList _ LN
def Me:DecidableEq (List (List Ins)):= @instDecidableEqList _ Lj
def LZ:DecidableEq (List (List Ins) × Int):= @instDecidableEqProd _ _ Me _
def Ln:DecidableEq (Int × List (List Ins) × Int):= @instDecidableEqProd _ _ _ LZ
def Lt:DecidableEq (List Int × Int × List (List Ins) × Int):= @instDecidableEqProd _ _ _ Ln
def Lq:DecidableEq Fun:= @instDecidableEqProd _ _ _ Lt
def K9:DecidableEq (List Fun):= @instDecidableEqList _ Lq
def same (r:Except Er (List Fun)) (q:Except Er (List Fun)):Bool:=match r,q with
 |.ok xs,.ok ys=> @decide (xs=ys) (K9 xs ys)
 |.error x,.error y=>decide (x=y)
 |_,_=>false
theorem bY {w:World} {B e s n:Nat} {v:Value} {xs:List Value} (h:w.ownsRow B e s v n xs):(v= .slice none 0 0∧n=0)∨∃g cap,v= .slice (some ⟨g,0,none⟩) n cap∧n≤cap∧cap≤maxLen∧B≤g∧g < w.heap.size∧(∀j u,xs[j]? =some u→w.cell? ⟨g,j,none⟩=some u)∧∀j,w.frozen? ⟨g,j,none⟩=false:=by
 rcases h.2 with ⟨hv,hn⟩ | ⟨g,cap,cur,hv2,hbb,hg,hc1,hc2,hc3,hc4⟩
 ·exact .inl ⟨hv,hn⟩
 ·refine .inr ⟨g,cap,hv2,hc1,hc2,hbb,(Array.getElem?_eq_some_iff.1 hg).1,fun j u hj=> ?_,fun j=>by simp [World.frozen?,hg]⟩;have:=h.cells (g:=g) (by rw [hv2];rfl) j u hj;rwa [Addr.add_lit,Nat.zero_add] at this
theorem jt.at {B:Nat} {w:World}:∀(l:List Fun) (cs:List Value) (i:Nat) (x:Fun),jt B w l cs→l[i]? =some x→∃vp vb,(∀j u,(aH x vp vb)[j]? =some u→cs[i * 5+j]? =some u)∧w.ownsRow B 3 1 vp x.2.1.length (ints x.2.1)∧cZ B x.2.2.2.1 vb w:=by
 intro l;induction l with
 |nil=>intro cs i x _ h;simp at h
 |cons y r ih=>
  rintro cs i x ⟨vp,vb,rest,rfl,h1,h2,h3⟩ hi
  cases i with
  |zero=>
   simp at hi;subst hi;refine⟨vp,vb,fun j u hj=> ?_,h1,h2⟩;have hl:j < (aH y vp vb).length:=(List.getElem?_eq_some_iff.1 hj).1;rw [show 0 * 5+j=j by omega,List.getElem?_append_left hl];exact hj
  |succ i=>
   obtain⟨up,ub,k1,k2,k3⟩:=ih rest i x h3 (by simpa using hi);refine⟨up,ub,fun j u hj=> ?_,k2,k3⟩;have hl:(aH y vp vb).length=5:=rfl;rw [List.getElem?_append_right (by rw [hl];omega),hl,show(i+1) * 5+j - 5=i * 5+j by omega];exact k1 j u hj
theorem dj.at {B:Nat} {w:World}:∀(l:List Ins) (cs:List Value) (i:Nat) (x:Ins),dj B w l cs→l[i]? =some x→∃va vt,(∀j u,(ak x va vt)[j]? =some u→cs[i * 8+j]? =some u)∧w.ownsRow B 3 1 va x.2.2.2.2.1.length (ints x.2.2.2.2.1)∧w.ownsRow B 3 1 vt x.2.2.2.2.2.1.length (ints x.2.2.2.2.2.1):=by
 intro l;induction l with
 |nil=>intro cs i x _ h;simp at h
 |cons y r ih=>
  rintro cs i x ⟨vp,vb,rest,rfl,h1,h2,h3⟩ hi
  cases i with
  |zero=>
   simp at hi;subst hi;refine⟨vp,vb,fun j u hj=> ?_,h1,h2⟩;have hl:j < (ak y vp vb).length:=(List.getElem?_eq_some_iff.1 hj).1;rw [show 0 * 8+j=j by omega,List.getElem?_append_left hl];exact hj
  |succ i=>
   obtain⟨up,ub,k1,k2,k3⟩:=ih rest i x h3 (by simpa using hi);refine⟨up,ub,fun j u hj=> ?_,k2,k3⟩;have hl:(ak y vp vb).length=8:=rfl;rw [List.getElem?_append_right (by rw [hl];omega),hl,show(i+1) * 8+j - 8=i * 8+j by omega];exact k1 j u hj
theorem kj.at {B:Nat} {w:World}:∀(l:List (List Ins)) (vs:List Value) (i:Nat) (b:List Ins),kj B w l vs→l[i]? =some b→∃v,vs[i]? =some v∧bR B b v w:=by
 intro l;induction l with
 |nil=>intro cs i x _ h;simp at h
 |cons y r ih=>
  rintro cs i x ⟨v,rest,rfl,h1,h2⟩ hi
  cases i with
  |zero=>simp at hi;subst hi;exact⟨v,by simp,h1⟩
  |succ i=>
   obtain⟨u,k1,k2⟩:=ih rest i x h2 (by simpa using hi);exact⟨u,by simpa using k1,k2⟩
def Kr (a:Nat) (w w':World):Prop:=w'.os=w.os∧w'.tape=w.tape∧w'.output=w.output∧w.heap.size≤w'.heap.size∧∀k,k < w.heap.size→k≠a→w'.heap[k]? =w.heap[k]?
theorem Kr.refl (a:Nat) (w:World):Kr a w w:=⟨rfl,rfl,rfl,Nat.le_refl _,fun _ _ _=>rfl⟩
theorem Kr.trans {a:Nat} {u v w:World} (h:Kr a u v) (k:Kr a v w):Kr a u w:=
 ⟨k.1.trans h.1,k.2.1.trans h.2.1,k.2.2.1.trans h.2.2.1,Nat.le_trans h.2.2.2.1 k.2.2.2.1,fun i h1 h2=>(k.2.2.2.2 i (Nat.lt_of_lt_of_le h1 h.2.2.2.1) h2).trans (h.2.2.2.2 i h1 h2)⟩
theorem Kr.br {a:Nat} {u v:World} (h:Below u.heap.size u v):Kr a u v:=⟨h.os,h.tape,h.output,h.size,fun i h1 _=>h.block i h1⟩
theorem Kr.size {a:Nat} {u v:World} (h:Kr a u v):u.heap.size≤v.heap.size:=h.2.2.2.1
theorem Kr.step {a:Nat} {u v w:World} (h:Kr a u v) (k:Below v.heap.size v w):Kr a u w:=h.trans (Kr.br k)
theorem Kr.below {a B:Nat} {u v:World} (h:Kr a u v) (ha:B≤a) (hB:B≤u.heap.size):Below B u v:=⟨h.1,h.2.1,h.2.2.1,h.2.2.2.1,fun i h1=>h.2.2.2.2 i (by omega) (by omega)⟩
theorem Kr.set {a i:Nat} {u w:World} (h:Kr a u w) (x:Value):Kr a u (w.setCell ⟨a,i,none⟩ x):=by
 have hb:=(Below.refl 0 w).setCell (p:=⟨a,i,none⟩) (Nat.zero_le a) x;exact h.trans ⟨hb.os,hb.tape,hb.output,hb.size,fun k _ h2=>Below.heap_setCell w ⟨a,i,none⟩ x k h2⟩
def RR (a:Nat) (L:List Tok) (E:Int) (n:Nat) (l:List Tok) (w:World):Prop:=
 ∃v,w.heap[a]? =some (.cells #[v,.int .i64 ((L.length - l.length:Nat):Int),.int .i64 E,.int .i64 (n:Int),.int .i64 0,.int .i64 0] 132 (0,0))∧w.ownsRow 0 173 2 v L.length (iN L)∧l <:+L∧(L.length≤131072∧∀t∈L,t.1.length≤65536)∧n≤4096
theorem RR.lt {a:Nat} {L:List Tok} {E:Int} {n:Nat} {l:List Tok} {w:World} (h:RR a L E n l w):a < w.heap.size:=by
 obtain⟨v,h1,_⟩:=h;exact(Array.getElem?_eq_some_iff.1 h1).1
theorem RR.keep {a:Nat} {L:List Tok} {E:Int} {n:Nat} {l:List Tok} {w w':World} (h:RR a L E n l w) (hb:∀k,k < w.heap.size→w'.heap[k]? =w.heap[k]?):RR a L E n l w':=by
 obtain⟨v,h1,h2,h3⟩:=h;refine⟨v,(hb a (Array.getElem?_eq_some_iff.1 h1).1).trans h1,⟨h2.1,?_⟩,h3⟩;rcases h2.2 with hn | ⟨g,cap,cur,hv2,hbb,hg,rest⟩
 ·exact .inl hn
 ·exact .inr ⟨g,cap,cur,hv2,hbb,(hb g (Array.getElem?_eq_some_iff.1 hg).1).trans hg,rest⟩
theorem RR.below {a:Nat} {L:List Tok} {E:Int} {n:Nat} {l:List Tok} {w w':World} (h:RR a L E n l w) (b:Below w.heap.size w w'):RR a L E n l w':=h.keep fun k hk=>b.block k hk
theorem RR.short {a:Nat} {L:List Tok} {E:Int} {n:Nat} {l:List Tok} {w:World} (h:RR a L E n l w):(ah l).length≤65536∧(bk l).length≤65536:=by
 obtain⟨v,h1,h2,h5,h6,h7⟩:=h;refine⟨?_,?_⟩
 ·cases l with
  |nil=>simp [ah]
  |cons t r=>exact h6.2 t (h5.subset (by simp))
 ·match l,h5 with
  |[],_=>simp [bk]
  |[_],_=>simp [bk]
  |_ :: t :: r,h5=>exact h6.2 t (h5.subset (by simp))
theorem RR.cells {a:Nat} {L:List Tok} {E:Int} {n:Nat} {l:List Tok} {w:World} (h:RR a L E n l w):
  ∃ao cap,w.cell? ⟨a,0,none⟩=some (.slice ao L.length cap)∧w.cell? ⟨a,1,none⟩=some (.int .i64 ((L.length - l.length:Nat):Int))∧w.cell? ⟨a,2,none⟩=some (.int .i64 E)∧w.cell? ⟨a,3,none⟩=some (.int .i64 (n:Int))∧w.cell? ⟨a,4,none⟩=some (.int .i64 0)∧w.cell? ⟨a,5,none⟩=some (.int .i64 0)∧
   (∀j,w.frozen? ⟨a,j,none⟩=false)∧(L= []∨∃g,ao=some ⟨g,0,none⟩∧∀j t,L[j]? =some t→w.cell? ⟨g,j * 2,none⟩=some (.string (bs t.1))∧w.cell? ⟨g,j * 2+1,none⟩=some (.int .i64 t.2)):=by
 obtain⟨v,h1,h2,h5,h6,h7⟩:=h;rcases h2.2 with ⟨hv,hn⟩ | ⟨g,cap,cur,hv2,hbb,hg,hc1,hc2,hc3,hc4⟩
 ·subst hv;have e:L= []:=List.length_eq_zero_iff.1 hn;subst e;exact⟨none,0,by simp [World.cell?,h1],by simp [World.cell?,h1],by simp [World.cell?,h1],by simp [World.cell?,h1],by simp [World.cell?,h1],by simp [World.cell?,h1],fun j=>by simp [World.frozen?,h1],.inl rfl⟩
 ·subst hv2;refine⟨some ⟨g,0,none⟩,cap,by simp [World.cell?,h1],by simp [World.cell?,h1],by simp [World.cell?,h1],by simp [World.cell?,h1],by simp [World.cell?,h1],by simp [World.cell?,h1],fun j=>by simp [World.frozen?,h1],.inr ⟨g,rfl,fun j t hj=> ?_⟩⟩;have hc:=h2.cells (g:=g) rfl;obtain⟨k1,k2⟩:=qu L j t hj;have e1:=hc _ _ k1;have e2:=hc _ _ k2;rw [Addr.add_lit,Nat.zero_add,Nat.mul_comm] at e1 e2;exact⟨e1,e2⟩
theorem RR.eat {a:Nat} {L:List Tok} {E:Int} {n:Nat} {l:List Tok} {w:World} (h:RR a L E n l w) (hl:l≠ []):RR a L E n l.tail (w.setCell ⟨a,1,none⟩ (.int .i64 (((L.length - l.length:Nat):Int)+1))):=by
 obtain⟨v,h1,h2,h5,h6,h7⟩:=h;refine⟨v,?_,bI h2 (bp h2 h1 (by decide)) _,(List.tail_suffix l).trans h5,h6,h7⟩;rw [heap_setCell_same w a 1 _ 132 _ h1];have e:((L.length - l.length:Nat):Int)+1=((L.length - l.tail.length:Nat):Int):=by
  have:=h5.length_le
  cases l with
  |nil=>exact absurd rfl hl
  |cons t r=>simp at *;omega
 rw [e];rfl
theorem RR.kr {a:Nat} {w:World} (i:Nat) (x:Value):Kr a w (w.setCell ⟨a,i,none⟩ x):=(Kr.refl a w).set x
def pk (i:Nat) (l:List Tok):List UInt8:=match l[i]? with
 |some t=>t.1
 |none=> []
theorem pk0 (l:List Tok):pk 0 l=ah l:=by cases l <;> rfl
theorem pk1 (l:List Tok):pk 1 l=bk l:=by
 match l with
 |[]=>rfl
 |[_]=>rfl
 |_ :: t :: r=>rfl
theorem Iw (i:Nat) {a:Nat} {L:List Tok} {E:Int} {n:Nat} {l:List Tok} (w:World) (h:RR a L E n l w) (hi:i≤1):
  Calls Tryz.prog 146 #[.pointer (some ⟨a,0,none⟩),.int .i64 i] w fun e w'=>e= .returned (.string (bs (pk i l)))∧Below w.heap.size w w':=by
 obtain⟨ao,cap,c0,c1,c2,c3,c4,c5,fz,hL⟩:=h.cells;obtain⟨v,h1,h2,h5,h6,h7⟩:=h;have hLL:=h6.1;have hll:=h5.length_le;by_cases hlt:L.length - l.length+i < L.length
 ·obtain⟨t,ht⟩:∃t,L[L.length - l.length+i]? =some t:=⟨_,List.getElem?_eq_getElem hlt⟩;have HP:Hid (bs t.1=bs (pk i l)):=aa (by
   have e:=Rdr.word h5 i;rw [ht] at e;unfold pk;rw [←e])
  rcases hL with hL | ⟨g,rfl,hg⟩
  ·subst hL;simp at hlt
  have hc:=(hg _ t ht).1;have hlt':(((L.length - l.length:Nat):Int)+(i:Int)) < L.length:=by omega
  have hge:¬(L.length:Int)≤((L.length - l.length:Nat):Int)+(i:Int):=by omega
  have hidx:((L.length - l.length:Nat):Int)+(i:Int)=((L.length - l.length+i:Nat):Int):=by omega
  clear hg ht h1 h2 h5 h6 fz c2 c3 c5;generalize L.length - l.length=q at *;obtain⟨m,hm⟩:∃m:Nat,m=q+i:=⟨_,rfl⟩;have hw:IntKind.i64.wrap ((q:Int)+(i:Int))=(m:Int):=by rw [IntWalk.i64_in _ ⟨by omega,by omega⟩];omega
  have hg1:decide ((L.length:Int)≤(m:Int))=false:=by simp;omega
  have hm1:(m:Int) < L.length:=by omega
  have hm0:(0:Int)≤m:=by omega
  rw [←hm] at hc;clear hge hlt hm hlt' hidx;go_enter Tryz.func146,Tryz.ntmps146
  go_wp2_with fail
  go_quiet (fail)
  go_wp2_with fail
  go_quiet (fail)
  go_wp2_with fail
  go_ret;exact⟨L5.jW HP.out,⟨rfl,rfl,rfl,Nat.le_refl _,fun _ _=>rfl⟩⟩
 ·have HP:Hid (bs []=bs (pk i l)):=aa (by
   have e:=Rdr.word h5 i;rw [List.getElem?_eq_none (by omega)] at e;unfold pk;rw [←e])
  have hge:(L.length:Int)≤((L.length - l.length:Nat):Int)+(i:Int):=by omega
  clear h1 h2 h5 h6 hL fz c2 c3 c5;have hq:L.length - l.length≤L.length:=by omega
  generalize L.length - l.length=q at *;obtain⟨m,hm⟩:∃m:Nat,m=q+i:=⟨_,rfl⟩;have hw:IntKind.i64.wrap ((q:Int)+(i:Int))=(m:Int):=by rw [IntWalk.i64_in _ ⟨by omega,by omega⟩];omega
  have hg1:decide ((L.length:Int)≤(m:Int))=true:=by simp;omega
  have hg2:(L.length:Int)≤(m:Int):=by omega
  have hg3:L.length≤m:=by omega
  clear hge hlt hm;go_enter Tryz.func146,Tryz.ntmps146
  go_wp2_with fail
  go_quiet (fail)
  go_wp2_with fail
  go_ret;exact⟨L5.jW HP.out,⟨rfl,rfl,rfl,Nat.le_refl _,fun _ _=>rfl⟩⟩
theorem cf {s:List UInt8} {a:Nat} {L:List Tok} {E:Int} {n:Nat} {l:List Tok} (w:World) (h:RR a L E n l w) (hs:ah l=s):
  Calls Tryz.prog 146 #[.pointer (some ⟨a,0,none⟩),.int .i64 0] w fun e w'=>e= .returned (.string (bs s))∧Below w.heap.size w w':=by
 have:=Iw 0 w h (by omega);rw [pk0,hs] at this;exact this
theorem rz {s:List UInt8} {a:Nat} {L:List Tok} {E:Int} {n:Nat} {l:List Tok} (w:World) (h:RR a L E n l w) (hs:bk l=s):
  Calls Tryz.prog 146 #[.pointer (some ⟨a,0,none⟩),.int .i64 1] w fun e w'=>e= .returned (.string (bs s))∧Below w.heap.size w w':=by
 have:=Iw 1 w h (by omega);rw [pk1,hs] at this;exact this
def Ate (a:Nat) (L:List Tok) (E:Int) (n:Nat) (l:List Tok) (w w':World):Prop:=RR a L E n l w'∧Kr a w w'
theorem gO {a:Nat} {L:List Tok} {E:Int} {n:Nat} {l:List Tok} {w w1:World} (h:RR a L E n l w) (b:Below w.heap.size w w1) (hl:l≠ []):Ate a L E n l.tail w (w1.setCell ⟨a,1,none⟩ (.int .i64 (((L.length - l.length:Nat):Int)+1))):=
 ⟨(h.below b).eat hl,(Kr.br b).set _⟩
theorem RR.at1 {a:Nat} {L:List Tok} {E:Int} {n:Nat} {l:List Tok} {w:World} (h:RR a L E n l w):w.cell? ⟨a,1,none⟩=some (.int .i64 ((L.length - l.length:Nat):Int))∧w.frozen? ⟨a,1,none⟩=false∧w.cell? ⟨a,4,none⟩=some (.int .i64 0)∧((L.length - l.length:Nat):Int)≤131072:=by
 have hl:L.length≤131072:=by obtain⟨v,h1,h2,h5,h6,h7⟩:=h;exact h6.1
 obtain⟨ao,cap,c0,c1,c2,c3,c4,c5,fz,hL⟩:=h.cells;exact⟨c1,fz 1,c4,by omega⟩
theorem Kj {P:Program} {fn:Func} {R:Ending→World→Prop} {t:Array Value} {d:List Deferred} {w:World} (hr:fn.results= #[]) (hd:d= []) (hR:R (.returned (.tuple #[])) w):bodyPost P fn R .normal {tmps:=t,defers:=d} w:=
 bodyPost_end (results_none hr _ _ _) hd hR
theorem xh (s:List UInt8):((bs s).toList == (bs s).toList)=true:=by simp
theorem pH (s:List UInt8) {a:Nat} {L:List Tok} {E:Int} {n:Nat} {l:List Tok} (w:World) (h:RR a L E n l w) (hs:ah l=s) (hne:s≠ []):
  Calls Tryz.prog 144 #[.pointer (some ⟨a,0,none⟩),.string (bs s)] w fun e w'=>e= .returned (.tuple #[])∧Ate a L E n l.tail w w':=by
 have hl:l≠ []:=fun e=>by subst e;exact hne hs.symm
 obtain⟨c1,z1,c4,hq⟩:=h.at1;have H:=aa h;have HS:=aa hs;have he:=xh s;clear h hs hne c1 z1;go_enter Tryz.func144,Tryz.ntmps144
 go_wp2_with fail
 refine(cf w H.out HS.out).mono ?_;rintro e w1 ⟨rfl,b1⟩;obtain⟨c1,z1,c4',_⟩:=(H.out.below b1).at1;have HA:=aa (gO H.out b1 hl);clear b1 c4 c4';generalize L.length - l.length=q at *;go_wp2_with fail
 exact Kj rfl rfl ⟨rfl,HA.out⟩
theorem Hh {s:List UInt8} (h:gX s=true):s≠ []:=fun e=>by subst e;rw [nM] at h;cases h
theorem yB (s:List UInt8) {a:Nat} {L:List Tok} {E:Int} {n:Nat} {l:List Tok} (w:World) (h:RR a L E n l w) (hs:ah l=s) (hn:gX s=true):
  Calls Tryz.prog 145 #[.pointer (some ⟨a,0,none⟩)] w fun e w'=>e= .returned (.string (bs s))∧Ate a L E n l.tail w w':=by
 have hl:l≠ []:=fun e=>by subst e;exact Hh hn hs.symm
 have hsz:(bs s).size≤maxLen:=by rw [bE,←hs];have:=h.short.1;unfold maxLen;omega
 have H:=aa h;have HS:=aa hs;have HN:Hid (L2.gn s=true):=aa hn;clear h hs hn;go_enter Tryz.func145,Tryz.ntmps145
 go_wp2_with fail
 refine(cf w H.out HS.out).mono ?_;rintro e w1 ⟨rfl,b1⟩;go_wp2_with fail
 refine(L2.mu (bs s) w1 hsz).mono ?_;rintro e w2 ⟨rfl,hw2⟩;rw [hw2,eC,HN.out];clear hw2;obtain⟨c1,z1,c4,hq⟩:=(H.out.below b1).at1;have HA:=aa (gO H.out b1 hl);clear b1 c4;generalize L.length - l.length=q at *;go_wp2_with fail
 go_ret;exact⟨rfl,HA.out⟩
theorem qp {c:UInt8} {most v:Int} {s:List UInt8} (h:G.mark aF c most s=some v):∃r,s=c :: r∧r≠ []∧(L1.dq r most)=(v,0):=by
 match s,h with
 |x :: y :: r,g=>
  clear h;have h:(if x=c then aF (y :: r) most else none)=some v:=g;clear g;by_cases hx:x=c
  ·rw [if_pos hx] at h;subst hx;refine⟨y :: r,rfl,by simp,?_⟩;unfold aF at h;by_cases h0:(L1.dq (y :: r) most).2=0
   ·rw [if_pos h0] at h;injection h with h1;exact Prod.ext h1 h0
   ·rw [if_neg h0] at h
    cases h
  ·rw [if_neg hx] at h
   cases h
 |[x],h=>cases h
 |[],h=>cases h
theorem Hz (c:UInt8) (r:List UInt8):(bs (c :: r)).extract 1 (bs (c :: r)).size=bs r:=by
 apply ByteArray.ext;apply Array.ext';rw [L1.iW];rfl
theorem wM (c:UInt8) (most k v:Int) {s:List UInt8} {a:Nat} {L:List Tok} {E:Int} {n:Nat} {l:List Tok} (w:World) (h:RR a L E n l w) (hs:ah l=s) (hm:G.mark aF c most s=some v):
  Calls Tryz.prog 182 #[.pointer (some ⟨a,0,none⟩),.int .u8 (c.toNat:Int),.int .i64 most,.int .i64 k] w fun e w'=>e= .returned (.int .i64 v)∧Ate a L E n l.tail w w':=by
 obtain⟨r,rfl,hr,hi⟩:=qp hm;have hl:l≠ []:=fun e=>by subst e;cases hs
 have hsh:=h.short.1;rw [hs] at hsh;have HZ:=aa (bE (c :: r));obtain⟨C,hC⟩:∃C,C=bs (c :: r):=⟨_,rfl⟩;have hz2:2≤C.size:=by rw [hC,bE];cases r with | nil=>exact absurd rfl hr | cons x y=>simp
 have hz1:decide ((C.size:Int) < 2)=false:=by simp;omega
 have hz4:0 < C.size:=by omega
 have hz5:1≤C.size:=by omega
 have hz3:C.size≤65536:=by rw [hC,bE];exact hsh
 have hrz:(bs r).size≤maxLen:=by rw [bE];simp at hsh;unfold maxLen;omega
 have hT:C.extract 1 C.size=bs r:=by rw [hC];exact Hz c r
 have h0:(C[0].toNat:Int)=(c.toNat:Int):=by subst hC;rfl
 have H:=aa h;have HS:Hid (bs (ah l)=C):=aa (by rw [hs,hC]);have HI:=aa hi;clear h hs hm hr hi hsh hC;go_enter Tryz.func182,Tryz.ntmps182
 go_wp2_with fail
 refine(cf w H.out rfl).mono ?_;rintro e w1 ⟨rfl,b1⟩;rw [HS.out];go_wp2_with fail
 refine(L1.r8 (bs r) most w1 hrz).mono ?_;rintro e w2 ⟨rfl,n2,hw2⟩;rw [eC,HI.out];have b2:Below w.heap.size w w2:=by rw [hw2];exact below_drewN b1 _
 clear hw2 b1;obtain⟨c1,z1,c4,hq⟩:=(H.out.below b2).at1;have HA:=aa (gO H.out b2 hl);clear b2 c4;generalize L.length - l.length=q at *;go_wp2_with fail
 go_ret;exact⟨rfl,HA.out⟩
theorem rvalue {v:Int} {l r:List Tok} {a:Nat} {L:List Tok} {E:Int} {n:Nat} (w:World) (h:RR a L E n l w) (hv:G.value aF E l= .ok (v,r)):
  Calls Tryz.prog 178 #[.pointer (some ⟨a,0,none⟩)] w fun e w'=>e= .returned (.int .i64 v)∧Ate a L E n r w w':=by
 obtain⟨_,rfl,hm⟩:=G.bW hv;have H:=aa h;clear h hv;go_enter Tryz.func178,Tryz.ntmps178
 go_wp2_with fail
 refine(wM 37 1048576 8 v w H.out rfl hm).mono ?_;rintro e w1 ⟨rfl,b1⟩;have HB:=aa b1;clear b1 hm;go_wp2_with fail
 go_ret;exact⟨rfl,HB.out⟩
theorem wa {v:Int} {l r:List Tok} {a:Nat} {L:List Tok} {E:Int} {n:Nat} (w:World) (h:RR a L E n l w) (hv:G.label aF E l= .ok (v,r)):
  Calls Tryz.prog 195 #[.pointer (some ⟨a,0,none⟩)] w fun e w'=>e= .returned (.int .i64 v)∧Ate a L E n r w w':=by
 obtain⟨_,rfl,hm⟩:=G.gZ hv;have H:=aa h;clear h hv;go_enter Tryz.func195,Tryz.ntmps195
 go_wp2_with fail
 refine(wM 98 255 7 v w H.out rfl hm).mono ?_;rintro e w1 ⟨rfl,b1⟩;have HB:=aa b1;clear b1 hm;go_wp2_with fail
 go_ret;exact⟨rfl,HB.out⟩
theorem nR (lo hi v:Int) {l:List Tok} {a:Nat} {L:List Tok} {E:Int} {n:Nat} (w:World) (h:RR a L E n l w) (hv:bL (ah l)=(v,0)) (h1:lo≤v) (h2:v≤hi):
  Calls Tryz.prog 184 #[.pointer (some ⟨a,0,none⟩),.int .i64 lo,.int .i64 hi] w fun e w'=>e= .returned (.int .i64 v)∧Ate a L E n l.tail w w':=by
 have hl:l≠ []:=fun e=>by subst e;exact nO (congrArg Prod.snd hv)
 have hsz:(bs (ah l)).size≤maxLen:=by rw [bE];have:=h.short.1;unfold maxLen;omega
 have H:=aa h;have HV:Hid (L1.aK (ah l)=(v,0)):=aa hv;have g1:decide (v < lo)=false:=by simp;omega
 have g2:decide (hi < v)=false:=by simp;omega
 have g3:¬v < lo:=by omega
 have g4:¬hi < v:=by omega
 clear h hv;go_enter Tryz.func184,Tryz.ntmps184
 go_wp2_with fail
 refine(cf w H.out rfl).mono ?_;rintro e w1 ⟨rfl,b1⟩;go_wp2_with fail
 refine(L1.lk (bs (ah l)) w1 hsz).mono ?_;rintro e w2 ⟨rfl,n2,hw2⟩;rw [eC,HV.out];have b2:Below w.heap.size w w2:=by rw [hw2];exact below_drewN b1 _
 clear hw2 b1;obtain⟨c1,z1,c4,hq⟩:=(H.out.below b2).at1;have HA:=aa (gO H.out b2 hl);clear b2 c4;generalize L.length - l.length=q at *;go_wp2_with fail
 go_ret;exact⟨rfl,HA.out⟩
theorem dO {E lo hi v:Int} {l r:List Tok} (h:G.number bL E lo hi l= .ok (v,r)):r=l.tail∧bL (ah l)=(v,0)∧lo≤v∧v≤hi:=by
 obtain⟨_,rfl,h3⟩:=G.ep (by simp [nO]) h;by_cases hc:(bL (ah l)).2≠0∨(bL (ah l)).1 < lo∨hi < (bL (ah l)).1
 ·simp only [if_pos hc] at h3;cases h3
 ·simp only [if_neg hc] at h3;injection h3 with h4;have e2:(bL (ah l)).2=0:=Classical.byContradiction fun hn=>hc (.inl hn);refine⟨rfl,Prod.ext h4 e2,?_,?_⟩
  ·rw [←h4];omega
  ·rw [←h4];omega
theorem Ao {E v:Int} {l r:List Tok} (h:G.kN bL E l= .ok (v,r)):r=l.tail∧bL (ah l)=(v,0):=by
 obtain⟨_,rfl,h3⟩:=G.ep (by simp [nO]) h;by_cases hc:(bL (ah l)).2≠0
 ·simp only [if_pos hc] at h3;cases h3
 ·simp only [if_neg hc] at h3;injection h3 with h4;exact⟨rfl,Prod.ext h4 (Classical.byContradiction fun hn=>hc hn)⟩
theorem mq (s t:List UInt8):((bs s).toList == t)=decide (s=t):=by
 rw [ByteArray.toList_eq,eC];by_cases h:s=t
 ·subst h;simp
 ·simp [h]
theorem pI (c:UInt8) (s:List UInt8):(s= []∧((bs s).toList == [])=true)∨(∃x r,s=x :: r∧((bs s).toList == [])=false∧0 < (bs s).size∧((x=c∧∀h:0 < (bs s).size,((bs s)[0].toNat:Int)=(c.toNat:Int))∨(x≠c∧∀h:0 < (bs s).size,(((bs s)[0].toNat:Int) == (c.toNat:Int))=false))):=by
 cases s with
 |nil=>exact .inl ⟨rfl,(mq [] []).trans (by simp)⟩
 |cons x r=>
  refine .inr ⟨x,r,rfl,(mq (x :: r) []).trans (by simp),by rw [bE];simp,?_⟩;by_cases hx:x=c
  ·exact .inl ⟨hx,fun _=>by subst hx;rfl⟩
  ·refine .inr ⟨hx,fun _=> ?_⟩;have:(bs (x :: r))[0]=x:=rfl;rw [this];have h2:x.toNat≠c.toNat:=fun e=>hx (UInt8.toNat_inj.1 e);simpa using fun e:(x.toNat:Int)=c.toNat=>h2 (by omega)
theorem rH {a:Nat} {L:List Tok} {E:Int} {n:Nat} {l:List Tok} (w:World) (h:RR a L E n l w):
  Calls Tryz.prog 187 #[.pointer (some ⟨a,0,none⟩)] w fun e w'=>e= .returned (.bool (G.taken l))∧Below w.heap.size w w':=by
 have H:=aa h;have HN:=aa (xX (bk l) [61]);have hz:(bs (ah l)).size≤65536:=by rw [bE];exact h.short.1
 clear h;rcases pI 37 (ah l)with ⟨hs,e0⟩ | ⟨x,r,hs,e0,hp,⟨hx,e1⟩ | ⟨hx,e1⟩⟩
 ·have HT:Hid (G.taken l=false):=aa (by unfold G.taken;rw [hs];rfl);clear hs;go_enter Tryz.func187,Tryz.ntmps187
  go_wp2_with fail
  refine(cf w H.out rfl).mono ?_;rintro e w1 ⟨rfl,b1⟩;generalize bs (ah l)=C at *;go_wp2_with fail
  go_ret;exact⟨aw HT.out.symm,b1⟩
 ·have HT:Hid (G.taken l=decide (bk l≠ [61])):=aa (AA (by rw [hs,hx];simp [gE]));replace e1:((bs (ah l))[0].toNat:Int)=37:=e1 hp;clear hs hx;go_enter Tryz.func187,Tryz.ntmps187
  go_wp2_with fail
  refine(cf w H.out rfl).mono ?_;rintro e w1 ⟨rfl,b1⟩;generalize bs (ah l)=C at *;go_wp2_with fail
  refine(rz w1 (H.out.below b1) rfl).mono ?_;rintro e w2 ⟨rfl,b2⟩;go_wp2_with fail
  go_ret;exact⟨aw (HN.out.trans HT.out.symm),ae b1 b2⟩
 ·have HT:Hid (G.taken l=false):=aa (De (by rw [hs];simp [gE,hx]));replace e1:(((bs (ah l))[0].toNat:Int) == 37)=false:=e1 hp;clear hs hx;go_enter Tryz.func187,Tryz.ntmps187
  go_wp2_with fail
  refine(cf w H.out rfl).mono ?_;rintro e w1 ⟨rfl,b1⟩;generalize bs (ah l)=C at *;go_wp2_with fail
  go_ret;exact⟨aw HT.out.symm,b1⟩
theorem yJ {a:Nat} {L:List Tok} {E:Int} {n:Nat} {l:List Tok} (w:World) (h:RR a L E n l w):
  Calls Tryz.prog 194 #[.pointer (some ⟨a,0,none⟩)] w fun e w'=>e= .returned (.bool (G.bZ l))∧Below w.heap.size w w':=by
 have H:=aa h;have HN:=aa (xX (bk l) [58]);have hz:(bs (ah l)).size≤65536:=by rw [bE];exact h.short.1
 clear h;rcases pI 98 (ah l)with ⟨hs,e0⟩ | ⟨x,r,hs,e0,hp,⟨hx,e1⟩ | ⟨hx,e1⟩⟩
 ·have HT:Hid (G.bZ l=false):=aa (qK (by rw [hs];rfl));clear hs;go_enter Tryz.func194,Tryz.ntmps194
  go_wp2_with fail
  refine(cf w H.out rfl).mono ?_;rintro e w1 ⟨rfl,b1⟩;generalize bs (ah l)=C at *;go_wp2_with fail
  go_ret;exact⟨aw HT.out.symm,b1⟩
 ·replace e1:((bs (ah l))[0].toNat:Int)=98:=e1 hp;by_cases hb:ah l= [98,114]
  ·have e2:((bs (ah l)).toList == [98,114])=true:=(mq (ah l) [98,114]).trans (decide_eq_true hb);have HT:Hid (G.bZ l=false):=aa (by unfold G.bZ;rw [hb];rfl);clear hs hx hb;go_enter Tryz.func194,Tryz.ntmps194
   go_wp2_with fail
   refine(cf w H.out rfl).mono ?_;rintro e w1 ⟨rfl,b1⟩;generalize bs (ah l)=C at *;go_wp2_with fail
   go_ret;exact⟨aw HT.out.symm,b1⟩
  ·have e2:((bs (ah l)).toList == [98,114])=false:=(mq (ah l) [98,114]).trans (decide_eq_false hb);have HT:Hid (G.bZ l=decide (bk l≠ [58])):=aa (by
    unfold G.bZ;have h1:((ah l).head? == some 98)=true:=(by rw [hs,hx];rfl);have h2:(ah l != [98,114])=true:=(by simpa using hb);rw [h1,h2];by_cases h:bk l= [58]
    ·rw [h];rfl
    ·simp [h])
   clear hs hx hb;go_enter Tryz.func194,Tryz.ntmps194
   go_wp2_with fail
   refine(cf w H.out rfl).mono ?_;rintro e w1 ⟨rfl,b1⟩;generalize bs (ah l)=C at *;go_wp2_with fail
   refine(rz w1 (H.out.below b1) rfl).mono ?_;rintro e w2 ⟨rfl,b2⟩;go_wp2_with fail
   go_ret;exact⟨aw (HN.out.trans HT.out.symm),ae b1 b2⟩
 ·have HT:Hid (G.bZ l=false):=aa (qK (by rw [hs];simp [gE,hx]));replace e1:(((bs (ah l))[0].toNat:Int) == 98)=false:=e1 hp;clear hs hx;go_enter Tryz.func194,Tryz.ntmps194
  go_wp2_with fail
  refine(cf w H.out rfl).mono ?_;rintro e w1 ⟨rfl,b1⟩;generalize bs (ah l)=C at *;go_wp2_with fail
  go_ret;exact⟨aw HT.out.symm,b1⟩
def byd (most n:Int):Bool:=decide (n < 0) || decide (most < n)
def wW (k:Int):Bool:=decide (1≤k) && decide (k≤29)
def qj (k id ty:Int):Bool:=if L5.cn k ty=0 then decide (id= -1)else !byd 1048576 id
end Go.Proofs.YtaiaakklokahjaaGreatDoor
