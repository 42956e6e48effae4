/- Texts of one chain, joined. -/
import Derived.Test.YtljkgcfnoegibaaGreatDoorZABA
set_option maxHeartbeats 1000000
set_option maxRecDepth 20000
namespace Go.Proofs.YtljkgcfnoegibaaGreatDoor
open Go Go.RowKit
open G (Tok Er Ins Fun)
theorem Tryz.J9:(Tryz.prog.info? 3).map (fun i=>(i.zero,i.size,i.bytes))=some (some (.int .i64 0),1,8):=by kernel_rfl
theorem Tryz.Hf:(Tryz.prog.info? 45).map (fun i=>(i.zero,i.size,i.bytes))=some (some (.slice none 0 0),1,24):=by kernel_rfl
theorem Tryz.Iq:(Tryz.prog.info? 47).map (fun i=>(i.zero,i.size,i.bytes))=some (some (.agg #[.int .i64 0,.int .i64 0,.int .i64 0,.int .i64 0,.slice none 0 0,.slice none 0 0,.string ⟨#[]⟩,.int .i64 0]),8,104):=by kernel_rfl
theorem Tryz.Kf:Tryz.prog.underlying 33=some (.slice 3):=by kernel_rfl
theorem Tryz.IJ:Tryz.prog.underlying 34=some (.slice 45):=by kernel_rfl
theorem Tryz.Jk:Tryz.prog.underlying 45=some (.slice 47):=by kernel_rfl
theorem Tryz.Jm (c:Nat) (w:World):Sem.run Tryz.prog (binOp BinOp.eql 33 (Value.slice none 0 c) (Value.slice none 0 0)) w= .ok (.bool true) w:=by kernel_rfl
theorem Tryz.JV (a:Addr) (n c:Nat) (w:World):Sem.run Tryz.prog (binOp BinOp.eql 33 (Value.slice (some a) n c) (Value.slice none 0 0)) w= .ok (.bool false) w:=by kernel_rfl
theorem Tryz.I1 (c:Nat) (w:World):Sem.run Tryz.prog (binOp BinOp.eql 34 (Value.slice none 0 c) (Value.slice none 0 0)) w= .ok (.bool true) w:=by kernel_rfl
theorem Tryz.Ja (a:Addr) (n c:Nat) (w:World):Sem.run Tryz.prog (binOp BinOp.eql 34 (Value.slice (some a) n c) (Value.slice none 0 0)) w= .ok (.bool false) w:=by kernel_rfl
theorem Tryz.JD (c:Nat) (w:World):Sem.run Tryz.prog (binOp BinOp.eql 45 (Value.slice none 0 c) (Value.slice none 0 0)) w= .ok (.bool true) w:=by kernel_rfl
theorem Tryz.JO (a:Addr) (n c:Nat) (w:World):Sem.run Tryz.prog (binOp BinOp.eql 45 (Value.slice (some a) n c) (Value.slice none 0 0)) w= .ok (.bool false) w:=by kernel_rfl
theorem Kb (ao:Option Addr) (n c:Nat) (ys:List Value) (w:World) (hl:ys.length=n * 1) (h:n=0∨∃g o,ao=some ⟨g,o,none⟩∧g < w.heap.size∧∀j u,ys[j]? =some u→w.cell? ⟨g,o+j,none⟩=some u) (h1:∀u∈ys,u.oneCell'=true) (hn:n≤1000000):
  Calls Tryz.prog 50 #[.slice ao n c] w fun e w'=>∃v,e= .returned v∧w'.ownsRow w.heap.size 3 1 v n ys∧Below w.heap.size w w':=by
 obtain⟨i0,hi0,hz0,hz1,hz2⟩:=info_parts Tryz.J9
 cases ao with
 |none=>
  have hn0:n=0:=by
   rcases h with h | ⟨g,o,e,_⟩
   ·exact h
   ·cases e
  subst hn0;have hy:ys= []:=List.length_eq_zero_iff.1 (by simpa using hl);subst hy;have hnl:=Tryz.Jm c;have HO:=ae (World.ownsRow_nil w w.heap.size 3 1);go_enter Tryz.func50,Tryz.ntmps50
  go_wp2_with fail
  go_ret;exact⟨_,rfl,HO.out,Below.refl _ _⟩
 |some ad=>
  have hsm:=Tryz.JV ad n c;have b1:=ah w (.cells #[] 3);have hcl:∀j u,ys[j]? =some u→(w.alloc (.cells #[] 3)).cell? (ad.add j)=some u:=by
   intro j u hj;rcases h with h | ⟨g,o,e,hg,hc⟩
   ·subst h;have hy:ys= []:=List.length_eq_zero_iff.1 (by simpa using hl);rw [hy] at hj;simp at hj
   ·injection e with e;subst e;rw [Addr.add_lit];exact(b1.cell (p:=⟨g,o+j,none⟩) hg).trans (hc j u hj)
  have HC:=ae hcl;have HO:Hid ((w.alloc (.cells #[] 3)).ownsRow w.heap.size 3 1 (.slice (some ⟨w.heap.size,0,none⟩) 0 0) 0 []):=ae (by
   refine⟨rfl,.inr ⟨w.heap.size,0,#[],rfl,Nat.le_refl _,heap_alloc_new w _,Nat.le_refl _,Nat.zero_le _,rfl,rfl⟩⟩)
  have B1:=ae b1;clear hcl b1 h;go_enter Tryz.func50,Tryz.ntmps50
  go_wp2_with (first | (at_builtin;refine wpList_append_own _ rfl (.tmp 5) (.tmp 6) 33 rfl w.heap.size 3 i0 _ 1 8 Tryz.Kf hi0 hz0 hz1 hz2 rfl (by decide) _ _ _ rfl HO.out ad n c ys rfl hl HC.out h1 (by unfold maxLen;omega) (by omega) (by simp) ?_;intro v2 w2 own2 grow2 hnil2;refine Hid.out ?_) | fail)
  have HW:Hid (w2.ownsRow w.heap.size 3 1 v2 n ys∧Below w.heap.size w w2):=ae ⟨by simpa using own2,B1.out.trans (cx grow2 (by simp) (Nat.le_refl _))⟩;clear own2 grow2 hnil2;refine ae ?_;go_wp2_with fail
  go_ret;exact⟨_,rfl,HW.out.1,HW.out.2⟩
theorem Kc (ao:Option Addr) (n c:Nat) (ys:List Value) (w:World) (hl:ys.length=n * 1) (h:n=0∨∃g o,ao=some ⟨g,o,none⟩∧g < w.heap.size∧∀j u,ys[j]? =some u→w.cell? ⟨g,o+j,none⟩=some u) (h1:∀u∈ys,u.oneCell'=true) (hn:n≤1000000):
  Calls Tryz.prog 51 #[.slice ao n c] w fun e w'=>∃v,e= .returned v∧w'.ownsRow w.heap.size 45 1 v n ys∧Below w.heap.size w w':=by
 obtain⟨i0,hi0,hz0,hz1,hz2⟩:=info_parts Tryz.Hf
 cases ao with
 |none=>
  have hn0:n=0:=by
   rcases h with h | ⟨g,o,e,_⟩
   ·exact h
   ·cases e
  subst hn0;have hy:ys= []:=List.length_eq_zero_iff.1 (by simpa using hl);subst hy;have hnl:=Tryz.I1 c;have HO:=ae (World.ownsRow_nil w w.heap.size 45 1);go_enter Tryz.func51,Tryz.ntmps51
  go_wp2_with fail
  go_ret;exact⟨_,rfl,HO.out,Below.refl _ _⟩
 |some ad=>
  have hsm:=Tryz.Ja ad n c;have b1:=ah w (.cells #[] 45);have hcl:∀j u,ys[j]? =some u→(w.alloc (.cells #[] 45)).cell? (ad.add j)=some u:=by
   intro j u hj;rcases h with h | ⟨g,o,e,hg,hc⟩
   ·subst h;have hy:ys= []:=List.length_eq_zero_iff.1 (by simpa using hl);rw [hy] at hj;simp at hj
   ·injection e with e;subst e;rw [Addr.add_lit];exact(b1.cell (p:=⟨g,o+j,none⟩) hg).trans (hc j u hj)
  have HC:=ae hcl;have HO:Hid ((w.alloc (.cells #[] 45)).ownsRow w.heap.size 45 1 (.slice (some ⟨w.heap.size,0,none⟩) 0 0) 0 []):=ae (by
   refine⟨rfl,.inr ⟨w.heap.size,0,#[],rfl,Nat.le_refl _,heap_alloc_new w _,Nat.le_refl _,Nat.zero_le _,rfl,rfl⟩⟩)
  have B1:=ae b1;clear hcl b1 h;go_enter Tryz.func51,Tryz.ntmps51
  go_wp2_with (first | (at_builtin;refine wpList_append_own _ rfl (.tmp 5) (.tmp 6) 34 rfl w.heap.size 45 i0 _ 1 24 Tryz.IJ hi0 hz0 hz1 hz2 rfl (by decide) _ _ _ rfl HO.out ad n c ys rfl hl HC.out h1 (by unfold maxLen;omega) (by omega) (by simp) ?_;intro v2 w2 own2 grow2 hnil2;refine Hid.out ?_) | fail)
  have HW:Hid (w2.ownsRow w.heap.size 45 1 v2 n ys∧Below w.heap.size w w2):=ae ⟨by simpa using own2,B1.out.trans (cx grow2 (by simp) (Nat.le_refl _))⟩;clear own2 grow2 hnil2;refine ae ?_;go_wp2_with fail
  go_ret;exact⟨_,rfl,HW.out.1,HW.out.2⟩
theorem IU (ao:Option Addr) (n c:Nat) (ys:List Value) (w:World) (hl:ys.length=n * 8) (h:n=0∨∃g o,ao=some ⟨g,o,none⟩∧g < w.heap.size∧∀j u,ys[j]? =some u→w.cell? ⟨g,o+j,none⟩=some u) (h1:∀u∈ys,u.oneCell'=true) (hn:n≤1000000):
  Calls Tryz.prog 52 #[.slice ao n c] w fun e w'=>∃v,e= .returned v∧w'.ownsRow w.heap.size 47 8 v n ys∧Below w.heap.size w w':=by
 obtain⟨i0,hi0,hz0,hz1,hz2⟩:=info_parts Tryz.Iq
 cases ao with
 |none=>
  have hn0:n=0:=by
   rcases h with h | ⟨g,o,e,_⟩
   ·exact h
   ·cases e
  subst hn0;have hy:ys= []:=List.length_eq_zero_iff.1 (by simpa using hl);subst hy;have hnl:=Tryz.JD c;have HO:=ae (World.ownsRow_nil w w.heap.size 47 8);go_enter Tryz.func52,Tryz.ntmps52
  go_wp2_with fail
  go_ret;exact⟨_,rfl,HO.out,Below.refl _ _⟩
 |some ad=>
  have hsm:=Tryz.JO ad n c;have b1:=ah w (.cells #[] 47);have hcl:∀j u,ys[j]? =some u→(w.alloc (.cells #[] 47)).cell? (ad.add j)=some u:=by
   intro j u hj;rcases h with h | ⟨g,o,e,hg,hc⟩
   ·subst h;have hy:ys= []:=List.length_eq_zero_iff.1 (by simpa using hl);rw [hy] at hj;simp at hj
   ·injection e with e;subst e;rw [Addr.add_lit];exact(b1.cell (p:=⟨g,o+j,none⟩) hg).trans (hc j u hj)
  have HC:=ae hcl;have HO:Hid ((w.alloc (.cells #[] 47)).ownsRow w.heap.size 47 8 (.slice (some ⟨w.heap.size,0,none⟩) 0 0) 0 []):=ae (by
   refine⟨rfl,.inr ⟨w.heap.size,0,#[],rfl,Nat.le_refl _,heap_alloc_new w _,Nat.le_refl _,Nat.zero_le _,rfl,rfl⟩⟩)
  have B1:=ae b1;clear hcl b1 h;go_enter Tryz.func52,Tryz.ntmps52
  go_wp2_with (first | (at_builtin;refine wpList_append_own _ rfl (.tmp 5) (.tmp 6) 45 rfl w.heap.size 47 i0 _ 8 104 Tryz.Jk hi0 hz0 hz1 hz2 rfl (by decide) _ _ _ rfl HO.out ad n c ys rfl hl HC.out h1 (by unfold maxLen;omega) (by omega) (by simp) ?_;intro v2 w2 own2 grow2 hnil2;refine Hid.out ?_) | fail)
  have HW:Hid (w2.ownsRow w.heap.size 47 8 v2 n ys∧Below w.heap.size w w2):=ae ⟨by simpa using own2,B1.out.trans (cx grow2 (by simp) (Nat.le_refl _))⟩;clear own2 grow2 hnil2;refine ae ?_;go_wp2_with fail
  go_ret;exact⟨_,rfl,HW.out.1,HW.out.2⟩
def gK (N:Nat→Prop) (w:World) (l:List Int) (v:Value):Prop:=∃ao c,v= .slice ao l.length c∧l.length≤c∧c≤maxLen∧(l= []∨∃b o,ao=some ⟨b,o,none⟩∧b < w.heap.size∧¬N b∧∀i n,l[i]? =some n→w.cell? ⟨b,o+i,none⟩=some (.int .i64 n))
def zL (N:Nat→Prop) (w:World) (x:Ins) (g o:Nat):Prop:=g < w.heap.size∧∃va vt,(∀j t,(lR x va vt)[j]? =some t→w.cell? ⟨g,o+j,none⟩=some t)∧gK N w x.2.2.2.2.1 va∧gK N w x.2.2.2.2.2.1 vt
def tB (N:Nat→Prop) (w:World) (b:List Ins) (v:Value):Prop:=∃ao c,v= .slice ao b.length c∧b.length≤c∧c≤maxLen∧(b= []∨∃g o,ao=some ⟨g,o,none⟩∧¬N g∧∀i x,b[i]? =some x→zL N w x g (o+i * 8))
theorem gK.v {N:Nat→Prop} {w:World} {l:List Int} {v:Value} (h:gK N w l v):bX w l v:=by
 obtain⟨ao,c,e,h1,h2,h3⟩:=h;refine⟨ao,c,e,?_,h1,h2⟩;rcases h3 with h3 | ⟨b,o,e2,hb,_,hc⟩
 ·exact .inl h3
 ·exact .inr ⟨b,o,e2,hb,hc⟩
theorem gK.grown {N N':Nat→Prop} {w w':World} {l:List Int} {v:Value} (h:gK N w l v) (hs:w.heap.size≤w'.heap.size) (hk:∀b,b < w.heap.size→¬N b→w'.heap[b]? =w.heap[b]? ∧¬N' b):gK N' w' l v:=by
 obtain⟨ao,c,e,h1,h2,h3⟩:=h;refine⟨ao,c,e,h1,h2,?_⟩;rcases h3 with h3 | ⟨b,o,e2,hb,hn,hc⟩
 ·exact .inl h3
 ·obtain⟨q1,q2⟩:=hk b hb hn;refine .inr ⟨b,o,e2,by omega,q2,fun i n hi=> ?_⟩;have:=hc i n hi;unfold World.cell? at this ⊢;rw [show(⟨b,o+i,none⟩:Addr).block=b from rfl] at this ⊢;rw [q1];exact this
theorem lA {w w':World} {b:Nat} (h:w'.heap[b]? =w.heap[b]?) {o:Nat} {v:Value} (hc:w.cell? ⟨b,o,none⟩=some v):w'.cell? ⟨b,o,none⟩=some v:=by
 unfold World.cell? at hc ⊢;rw [show(⟨b,o,none⟩:Addr).block=b from rfl] at hc ⊢;rw [h];exact hc
theorem zL.grown {N N':Nat→Prop} {w w':World} {x:Ins} {g o:Nat} (h:zL N w x g o) (hs:w.heap.size≤w'.heap.size) (hk:∀b,b < w.heap.size→¬N b→w'.heap[b]? =w.heap[b]? ∧¬N' b) (hg:w'.heap[g]? =w.heap[g]?):zL N' w' x g o:=by
 obtain⟨h0,va,vt,h1,h2,h3⟩:=h;exact⟨by omega,va,vt,fun j t hj=>lA hg (h1 j t hj),h2.grown hs hk,h3.grown hs hk⟩
theorem tB.grown {N N':Nat→Prop} {w w':World} {b:List Ins} {v:Value} (h:tB N w b v) (hs:w.heap.size≤w'.heap.size) (hk:∀b,b < w.heap.size→¬N b→w'.heap[b]? =w.heap[b]? ∧¬N' b):tB N' w' b v:=by
 obtain⟨ao,c,e,h1,h2,h3⟩:=h;refine⟨ao,c,e,h1,h2,?_⟩;rcases h3 with h3 | ⟨g,o,e2,hn,hi⟩
 ·exact .inl h3
 ·by_cases hb:b= []
  ·exact .inl hb
  ·obtain⟨x,hx⟩:∃x,b[0]? =some x:=by
    cases b with
    |nil=>exact absurd rfl hb
    |cons y r=>exact⟨y,rfl⟩
   have hg:=(hi 0 x hx).1;exact .inr ⟨g,o,e2,(hk g hg hn).2,fun i x hx=>(hi i x hx).grown hs hk (hk g hg hn).1⟩
theorem tB.r {N:Nat→Prop} {w:World} {b:List Ins} {v:Value} (h:tB N w b v):j7 w b v:=by
 obtain⟨ao,c,e,h1,h2,h3⟩:=h;refine⟨ao,c,e,h1,h2,?_⟩;rcases h3 with h3 | ⟨g,o,e2,hn,hi⟩
 ·exact .inl h3
 ·refine .inr ⟨g,o,e2,fun i x hx=> ?_⟩;obtain⟨h0,va,vt,q1,q2,q3⟩:=hi i x hx;exact⟨h0,va,vt,q1,q2.v,q3.v⟩
theorem uN {w:World} {l:List Int} {v:Value} (h:bX w l v):gK (fun b=>w.heap.size≤b) w l v:=by
 obtain⟨ao,c,e,h1,h2,h3⟩:=h;refine⟨ao,c,e,h2,h3,?_⟩;rcases h1 with h1 | ⟨b,o,e2,hb,hc⟩
 ·exact .inl h1
 ·exact .inr ⟨b,o,e2,hb,by omega,hc⟩
theorem Hr {w:World} {b:List Ins} {v:Value} (h:j7 w b v):tB (fun q=>w.heap.size≤q) w b v:=by
 obtain⟨ao,c,e,h1,h2,h3⟩:=h;refine⟨ao,c,e,h1,h2,?_⟩;rcases h3 with h3 | ⟨g,o,e2,hi⟩
 ·exact .inl h3
 ·by_cases hb:b= []
  ·exact .inl hb
  ·obtain⟨x,hx⟩:∃x,b[0]? =some x:=by
    cases b with
    |nil=>exact absurd rfl hb
    |cons y r=>exact⟨y,rfl⟩
   have hg:=(hi 0 x hx).1;refine .inr ⟨g,o,e2,by omega,fun i x hx=> ?_⟩;obtain⟨h0,va,vt,q1,q2,q3⟩:=hi i x hx;exact⟨h0,va,vt,q1,uN q2,uN q3⟩
def o4 (B:Nat) (w:World) (l:List Int) (v:Value):Prop:=w.ownsRow B 3 1 v l.length (ints l)
theorem o4.a {B:Nat} {w:World} {l:List Int} {v:Value} (h:o4 B w l v) (N:Nat→Prop) (hN:∀b,N b→b < B∨∃cur t z,t≠3∧w.heap[b]? =some (Obj.cells cur t z)):gK N w l v:=by
 obtain⟨ao,c,e,h1,h2,h3⟩:=dG h;refine⟨ao,c,e,h2,h3,?_⟩;rcases h1 with h1 | ⟨b,o,e2,hb,hc⟩
 ·exact .inl h1
 ·refine .inr ⟨b,o,e2,hb,fun hn=> ?_,hc⟩;unfold o4 at h;rcases h.2 with ⟨hnil,hl⟩ | ⟨g,cap,cur,e3,q1,q2,_⟩
  ·rw [hnil] at e;injection e with e;rw [←e] at e2
   cases e2
  ·rw [e3] at e;injection e with e;rw [←e] at e2;injection e2 with e2;injection e2 with e2;subst e2;rcases hN g hn with hlt | ⟨cur',t,z,ht,hh⟩
   ·omega
   ·rw [q2] at hh;injection hh with hh;injection hh with _ hh;exact ht hh.symm
theorem o4.below {B:Nat} {w w':World} {l:List Int} {v:Value} (h:o4 B w l v) (b:Below w.heap.size w w'):o4 B w' l v:=br b B _ _ _ _ _ h
abbrev Nn (Z:Nat→Prop) (gO gX:Nat):Nat→Prop:=fun b=>b=gO∨b=gX∨Z b
def StA (w0:World) (Z:Nat→Prop) (A1 A2:Array Value) (ps:List Int) (v9:Value) (f:Fun) (gO gX:Nat) (w:World):Prop:=
 Below w0.heap.size w0 w∧w.heap[w0.heap.size]? =some (Obj.cells A1 36 (0,0))∧w.heap[w0.heap.size+1]? =some (Obj.cells A2 36 (0,0))∧w0.heap.size+1 < gO∧gK (Nn Z gO gX) w ps v9∧(∃cur,w.heap[gO]? =some (Obj.cells cur 45 (0,0)))∧∀k,k < f.2.2.2.1.length→∃u,w.cell? ⟨gO,k,none⟩=some u∧tB (Nn Z gO gX) w (aG f k) u
theorem StA.fresh {w0:World} {Z:Nat→Prop} {A1 A2:Array Value} {ps:List Int} {v9:Value} {f:Fun} {gO gX gY:Nat} {w w':World} (h:StA w0 Z A1 A2 ps v9 f gO gX w) (b:Below w.heap.size w w') (hY:gY=gX∨gY=gO∨w.heap.size≤gY):StA w0 Z A1 A2 ps v9 f gO gY w':=by
 obtain⟨h1,h2,h3,h4,h5,⟨cur,h6⟩,h7⟩:=h;have l2:=(Array.getElem?_eq_some_iff.1 h2).1;have l3:=(Array.getElem?_eq_some_iff.1 h3).1;have l6:=(Array.getElem?_eq_some_iff.1 h6).1;have hk:∀q,q < w.heap.size→¬Nn Z gO gX q→w'.heap[q]? =w.heap[q]? ∧¬Nn Z gO gY q:=fun q hq hn=>⟨b.block q hq,fun e=>by
  rcases e with e | e | e
  ·exact hn (.inl e)
  ·rcases hY with hY | hY | hY
   ·exact hn (.inr (.inl (e.trans hY)))
   ·exact hn (.inl (e.trans hY))
   ·omega
  ·exact hn (.inr (.inr e))⟩
 refine⟨h1.trans ⟨b.os,b.tape,b.output,b.size,fun i hi=>b.block i (by have:=h1.size;omega)⟩,(b.block _ l2).trans h2,(b.block _ l3).trans h3,h4,h5.grown b.size hk,⟨cur,(b.block _ l6).trans h6⟩,fun k hkk=> ?_⟩;obtain⟨u,q1,q2⟩:=h7 k hkk;exact⟨u,(b.cell (p:=⟨gO,k,none⟩) l6).trans q1,q2.grown b.size hk⟩
theorem StA.set {w0:World} {Z:Nat→Prop} {A1 A2:Array Value} {ps:List Int} {v9:Value} {f:Fun} {gO gX:Nat} {w:World} (h:StA w0 Z A1 A2 ps v9 f gO gX w) (hne:gX≠gO) (hlt:w0.heap.size+1 < gX) (j:Nat) (v:Value):StA w0 Z A1 A2 ps v9 f gO gX (w.setCell ⟨gX,j,none⟩ v):=by
 obtain⟨h1,h2,h3,h4,h5,⟨cur,h6⟩,h7⟩:=h;have hs:∀q,q≠gX→(w.setCell ⟨gX,j,none⟩ v).heap[q]? =w.heap[q]? :=fun q hq=>Below.heap_setCell w ⟨gX,j,none⟩ v q hq;have hb:=h1.setCell (p:=⟨gX,j,none⟩) (by show w0.heap.size≤gX;omega) v;have hsz:w.heap.size≤(w.setCell ⟨gX,j,none⟩ v).heap.size:=(cJ w ⟨gX,j,none⟩ v).size;have hk:∀q,q < w.heap.size→¬Nn Z gO gX q→(w.setCell ⟨gX,j,none⟩ v).heap[q]? =w.heap[q]? ∧¬Nn Z gO gX q:=fun q _ hn=>⟨hs q (fun e=>hn (.inr (.inl e))),hn⟩;refine⟨hb,(hs _ (by omega)).trans h2,(hs _ (by omega)).trans h3,h4,h5.grown hsz hk,⟨cur,(hs _ hne.symm).trans h6⟩,fun k hkk=> ?_⟩;obtain⟨u,q1,q2⟩:=h7 k hkk;exact⟨u,lA (hs gO hne.symm) q1,q2.grown hsz hk⟩
theorem StA.LX {w0:World} {Z:Nat→Prop} {A1 A2:Array Value} {ps:List Int} {v9:Value} {f:Fun} {gO gX:Nat} {w:World} (h:StA w0 Z A1 A2 ps v9 f gO gX w):StA w0 Z A1 A2 ps v9 f gO gO w:=h.fresh (Below.refl _ _) (.inr (.inl rfl))
theorem pS {w:World} {g k:Nat} {cur:Array Value} {t:TypeId} {u0:Value} (h:w.heap[g]? =some (Obj.cells cur t (0,0))) (hc:w.cell? ⟨g,k,none⟩=some u0) (u:Value):
  (w.setCell ⟨g,k,none⟩ u).cell? ⟨g,k,none⟩=some u∧(∀j,j≠k→(w.setCell ⟨g,k,none⟩ u).cell? ⟨g,j,none⟩=w.cell? ⟨g,j,none⟩)∧(w.setCell ⟨g,k,none⟩ u).heap[g]? =some (Obj.cells (cur.setIfInBounds k u) t (0,0)):=by
 have e:=heap_setCell_same w g k cur t u h;have hk:k < cur.size:=by
  unfold World.cell? at hc;simp only [h] at hc;exact(Array.getElem?_eq_some_iff.1 hc).1
 refine⟨?_,fun j hj=> ?_,e⟩
 ·unfold World.cell?;simp only [e];simp [hk]
 ·unfold World.cell?;simp only [e,h];exact Array.getElem?_setIfInBounds_ne (by omega)
theorem mn {w:World} {g k:Nat} {cur:Array Value} {t:TypeId} (h:w.heap[g]? =some (Obj.cells cur t (0,0))):w.frozen? ⟨g,k,none⟩=false:=by simp [World.frozen?,h]
theorem StA.put {w0:World} {Z:Nat→Prop} {A1 A2:Array Value} {ps:List Int} {v9:Value} {f:Fun} {gO:Nat} {w:World} (h:StA w0 Z A1 A2 ps v9 f gO gO w) {K:Nat} (hK:K < f.2.2.2.1.length) {u:Value} (hu:tB (Nn Z gO gO) w (aG f K) u):StA w0 Z A1 A2 ps v9 f gO gO (w.setCell ⟨gO,K,none⟩ u):=by
 obtain⟨h1,h2,h3,h4,h5,⟨cur,h6⟩,h7⟩:=h;have hs:∀q,q≠gO→(w.setCell ⟨gO,K,none⟩ u).heap[q]? =w.heap[q]? :=fun q hq=>Below.heap_setCell w ⟨gO,K,none⟩ u q hq;have hb:=h1.setCell (p:=⟨gO,K,none⟩) (by show w0.heap.size≤gO;omega) u;have hsz:w.heap.size≤(w.setCell ⟨gO,K,none⟩ u).heap.size:=(cJ w ⟨gO,K,none⟩ u).size;have hk:∀q,q < w.heap.size→¬Nn Z gO gO q→(w.setCell ⟨gO,K,none⟩ u).heap[q]? =w.heap[q]? ∧¬Nn Z gO gO q:=fun q _ hn=>⟨hs q (fun e=>hn (.inr (.inl e))),hn⟩;obtain⟨u0,q1,_⟩:=h7 K hK;obtain⟨e1,e2,e3⟩:=pS h6 q1 u;refine⟨hb,(hs _ (by omega)).trans h2,(hs _ (by omega)).trans h3,h4,h5.grown hsz hk,⟨_,e3⟩,fun k hkk=> ?_⟩;by_cases hkK:k=K
 ·subst hkK;exact⟨u,e1,hu.grown hsz hk⟩
 ·obtain⟨u',q1',q2'⟩:=h7 k hkk;exact⟨u',(e2 k hkK).trans q1',q2'.grown hsz hk⟩
def InX (Z:Nat→Prop) (gO gX:Nat) (w:World) (b:List Ins):Prop:=(∃cur,w.heap[gX]? =some (Obj.cells cur 47 (0,0)))∧∀i x,b[i]? =some x→zL (Nn Z gO gX) w x gX (i * 8)
theorem InX.below {Z:Nat→Prop} {gO gX:Nat} {w w':World} {b:List Ins} (h:InX Z gO gX w b) (k:Below w.heap.size w w'):InX Z gO gX w' b:=by
 obtain⟨⟨cur,h1⟩,h2⟩:=h;have l1:=(Array.getElem?_eq_some_iff.1 h1).1;exact⟨⟨cur,(k.block _ l1).trans h1⟩,fun i x hx=>(h2 i x hx).grown k.size (fun q hq hn=>⟨k.block q hq,hn⟩) (k.block _ l1)⟩
theorem InX.Mf {Z:Nat→Prop} {gO gX:Nat} {w:World} {b:List Ins} (h:InX Z gO gX w b) {I:Nat} {x:Ins} (hx:b[I]? =some x) {va:Value} (ha:gK (Nn Z gO gX) w x.2.2.2.2.1 va):InX Z gO gX (w.setCell ⟨gX,I * 8+4,none⟩ va) b:=by
 obtain⟨⟨cur,h1⟩,h2⟩:=h;obtain⟨hg,va0,vt0,c0,i1,i2⟩:=h2 I x hx;obtain⟨a1,a2,a3⟩:=pS h1 (c0 4 va0 rfl) va;have hs:∀q,q≠gX→(w.setCell ⟨gX,I * 8+4,none⟩ va).heap[q]? =w.heap[q]? :=fun q hq=>Below.heap_setCell w ⟨gX,I * 8+4,none⟩ va q hq;have hsz:w.heap.size≤(w.setCell ⟨gX,I * 8+4,none⟩ va).heap.size:=(cJ w ⟨gX,I * 8+4,none⟩ va).size;have hk:∀q,q < w.heap.size→¬Nn Z gO gX q→(w.setCell ⟨gX,I * 8+4,none⟩ va).heap[q]? =w.heap[q]? ∧¬Nn Z gO gX q:=fun q _ hn=>⟨hs q (fun e=>hn (.inr (.inl e))),hn⟩;refine⟨⟨_,a3⟩,fun i y hy=> ?_⟩;by_cases hi:i=I
 ·subst hi;rw [hx] at hy;injection hy with hy;subst hy;refine⟨by omega,va,vt0,fun j t hj=> ?_,ha.grown hsz hk,i2.grown hsz hk⟩;by_cases j4:j=4
  ·subst j4;rw [show(lR x va vt0)[4]? =some va from rfl] at hj;injection hj with hj;rw [←hj];exact a1
  ·have hold:(lR x va0 vt0)[j]? =some t:=by
    match j,hj with
     |0,hj=>exact hj
     |1,hj=>exact hj
     |2,hj=>exact hj
     |3,hj=>exact hj
     |4,_=>exact absurd rfl j4
     |5,hj=>exact hj
     |6,hj=>exact hj
     |7,hj=>exact hj
     |n+8,hj=>simp [lR] at hj
   exact(a2 _ (by omega)).trans (c0 j t hold)
 ·obtain⟨g',va1,vt1,d0,d1,d2⟩:=h2 i y hy;refine⟨by omega,va1,vt1,fun j t hj=> ?_,d1.grown hsz hk,d2.grown hsz hk⟩;have hj8:j < 8:=by
   have:=(List.getElem?_eq_some_iff.1 hj).1;simpa [lR] using this
  exact(a2 _ (by omega)).trans (d0 j t hj)
theorem InX.LP {Z:Nat→Prop} {gO gX:Nat} {w:World} {b:List Ins} (h:InX Z gO gX w b) {I:Nat} {x:Ins} (hx:b[I]? =some x) {vt:Value} (ha:gK (Nn Z gO gX) w x.2.2.2.2.2.1 vt):InX Z gO gX (w.setCell ⟨gX,I * 8+5,none⟩ vt) b:=by
 obtain⟨⟨cur,h1⟩,h2⟩:=h;obtain⟨hg,va0,vt0,c0,i1,i2⟩:=h2 I x hx;obtain⟨a1,a2,a3⟩:=pS h1 (c0 5 vt0 rfl) vt;have hs:∀q,q≠gX→(w.setCell ⟨gX,I * 8+5,none⟩ vt).heap[q]? =w.heap[q]? :=fun q hq=>Below.heap_setCell w ⟨gX,I * 8+5,none⟩ vt q hq;have hsz:w.heap.size≤(w.setCell ⟨gX,I * 8+5,none⟩ vt).heap.size:=(cJ w ⟨gX,I * 8+5,none⟩ vt).size;have hk:∀q,q < w.heap.size→¬Nn Z gO gX q→(w.setCell ⟨gX,I * 8+5,none⟩ vt).heap[q]? =w.heap[q]? ∧¬Nn Z gO gX q:=fun q _ hn=>⟨hs q (fun e=>hn (.inr (.inl e))),hn⟩;refine⟨⟨_,a3⟩,fun i y hy=> ?_⟩;by_cases hi:i=I
 ·subst hi;rw [hx] at hy;injection hy with hy;subst hy;refine⟨by omega,va0,vt,fun j t hj=> ?_,i1.grown hsz hk,ha.grown hsz hk⟩;by_cases j4:j=5
  ·subst j4;rw [show(lR x va0 vt)[5]? =some vt from rfl] at hj;injection hj with hj;rw [←hj];exact a1
  ·have hold:(lR x va0 vt0)[j]? =some t:=by
    match j,hj with
     |0,hj=>exact hj
     |1,hj=>exact hj
     |2,hj=>exact hj
     |3,hj=>exact hj
     |4,hj=>exact hj
     |5,_=>exact absurd rfl j4
     |6,hj=>exact hj
     |7,hj=>exact hj
     |n+8,hj=>simp [lR] at hj
   exact(a2 _ (by omega)).trans (c0 j t hold)
 ·obtain⟨g',va1,vt1,d0,d1,d2⟩:=h2 i y hy;refine⟨by omega,va1,vt1,fun j t hj=> ?_,d1.grown hsz hk,d2.grown hsz hk⟩;have hj8:j < 8:=by
   have:=(List.getElem?_eq_some_iff.1 hj).1;simpa [lR] using this
  exact(a2 _ (by omega)).trans (d0 j t hj)
theorem Ca {N:Nat→Prop} {w:World} {b:List Ins} {g o:Nat} (h:∀i x,b[i]? =some x→zL N w x g (o+i * 8)):∃ys:List Value,ys.length=b.length * 8∧(∀j u,ys[j]? =some u→w.cell? ⟨g,o+j,none⟩=some u)∧(∀u∈ys,u.oneCell'=true)∧∀i x,b[i]? =some x→∃va vt,(∀j t,(lR x va vt)[j]? =some t→ys[i * 8+j]? =some t)∧gK N w x.2.2.2.2.1 va∧gK N w x.2.2.2.2.2.1 vt:=by
 induction b generalizing o with
 |nil=>exact⟨[],by simp,fun j u hj=>by simp at hj,fun u hu=>by simp at hu,fun i x hx=>by simp at hx⟩
 |cons x r ih=>
  obtain⟨ys,h1,h2,h3,h4⟩:=ih (o:=o+8) (fun i y hy=>by
   have:=h (i+1) y (by simpa using hy);rw [show o+(i+1) * 8=o+8+i * 8 by omega] at this;exact this)
  obtain⟨hg,va,vt,c0,c1,c2⟩:=h 0 x rfl;have hl:(lR x va vt).length=8:=rfl;obtain⟨ao,ca,rfl,_⟩:=id c1;obtain⟨to,ct,rfl,_⟩:=id c2;refine⟨lR x (.slice ao x.2.2.2.2.1.length ca) (.slice to x.2.2.2.2.2.1.length ct) ++ ys,by rw [List.length_append,hl,h1,List.length_cons];omega,fun j u hj=> ?_,fun u hu=> ?_,fun i y hy=> ?_⟩
  ·by_cases hj8:j < 8
   ·rw [List.getElem?_append_left (by rw [hl];exact hj8)] at hj;have:=c0 j u hj;rw [show o+0 * 8+j=o+j by omega] at this;exact this
   ·rw [List.getElem?_append_right (by rw [hl];omega),hl] at hj;have:=h2 (j - 8) u hj;rw [show o+8+(j - 8)=o+j by omega] at this;exact this
  ·rcases List.mem_append.1 hu with hu | hu
   ·simp only [lR,List.mem_cons,List.not_mem_nil,or_false] at hu;rcases hu with rfl | rfl | rfl | rfl | rfl | rfl | rfl | rfl <;> rfl
   ·exact h3 u hu
  ·cases i with
   |zero=>
    simp only [List.getElem?_cons_zero,Option.some.injEq] at hy;subst hy;refine⟨_,_,fun j t hj=> ?_,c1,c2⟩;have hj8:j < 8:=(by rw [←hl];exact(List.getElem?_eq_some_iff.1 hj).1);rw [show 0 * 8+j=j by omega,List.getElem?_append_left (by rw [hl];exact hj8)];exact hj
   |succ i=>
    obtain⟨va',vt',d0,d1,d2⟩:=h4 i y (by simpa using hy);refine⟨va',vt',fun j t hj=> ?_,d1,d2⟩;rw [List.getElem?_append_right (by rw [hl];omega),hl,show(i+1) * 8+j - 8=i * 8+j by omega];exact d0 j t hj
end Go.Proofs.YtljkgcfnoegibaaGreatDoor
