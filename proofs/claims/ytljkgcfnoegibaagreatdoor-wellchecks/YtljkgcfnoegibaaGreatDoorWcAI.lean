/- Texts of one chain, joined. -/
import Derived.Test.YtljkgcfnoegibaaGreatDoorWcAD
import Derived.Test.YtljkgcfnoegibaaGreatDoorWcAE
import Derived.Test.YtljkgcfnoegibaaGreatDoorWcAF
import Derived.Test.YtljkgcfnoegibaaGreatDoorWcAG
import Derived.Test.YtljkgcfnoegibaaGreatDoorWcAH
import Derived.Defers
import Derived.Recover
namespace Go.Proofs.YtljkgcfnoegibaaGreatDoor
open Go Go.RowKit
open G (Tok Er Ins Fun peek0 peek1 atOf)
abbrev blkG (E:Int) (f n:Nat) (acc:List (List Ins)):G.Rd (List (List Ins) × Nat):=G.blkW numF idxF namF shpF tksF fndF mksF prtF E f n acc
abbrev funG (E:Int) (n:Nat):G.Rd (Fun × Nat):=G.function numF idxF namF shpF tksF fndF mksF prtF E n
theorem blk_stop {E:Int} {f n:Nat} {acc:List (List Ins)} {l:List Tok} (h:peek0 l= [125]):blkG E (f+1) n acc l= .ok ((acc,n),l):=by
 unfold blkG G.blkW;rw [if_pos h]
theorem blk_bad {E:Int} {f n:Nat} {acc:List (List Ins)} {l:List Tok} {er:Er} (h:¬peek0 l= [125]) (hb:blockG E acc.length n l= .error er):blkG E (f+1) n acc l= .error er:=by
 unfold blkG G.blkW;rw [if_neg h];show G.andThen (blockG E acc.length n l) _=_;rw [hb];rfl
theorem blk_go {E:Int} {f n n':Nat} {acc:List (List Ins)} {b:List Ins} {l l':List Tok} (h:¬peek0 l= [125]) (hb:blockG E acc.length n l= .ok ((b,n'),l')):blkG E (f+1) n acc l=blkG E f n' (acc ++ [b]) l':=by
 conv=>lhs;unfold blkG G.blkW
 rw [if_neg h];show G.andThen (blockG E acc.length n l) _=_;rw [hb];rfl
theorem ins_len {E:Int}:∀(f n:Nat) (acc:List Ins) (l:List Tok) (v:List Ins × Nat) (r:List Tok),insG E f n acc l= .ok (v,r)→r.length≤l.length:=by
 intro f
 induction f with
 |zero=>intro n acc l v r h;cases h;exact Nat.le_refl _
 |succ f ih=>
  intro n acc l v r h
  by_cases hc:peek0 l= [125]∨peek1 l= [58]
  ·rw [ins_stop hc] at h;cases h;exact Nat.le_refl _
  ·by_cases hn:4096≤n
   ·rw [ins_many hc hn] at h;cases h
   ·cases hi:instrP E l with
    |error er=>rw [ins_bad hc (by omega) hi] at h;cases h
    |ok p=>
     obtain⟨x,l1⟩:=p
     rw [ins_go hc (by omega) hi] at h
     have:=ih _ _ _ _ _ h
     have:=instr_less hi
     omega
theorem block_less {E:Int} {k n n':Nat} {b:List Ins} {l l':List Tok} (h:blockG E k n l= .ok ((b,n'),l')):l'.length < l.length:=by
 obtain⟨u,q,h1,h2⟩:=G.then_ok h
 obtain⟨u2,q2,h3,h4⟩:=G.then_ok h2
 obtain⟨g1,g2,_⟩:=G.head_ok h1
 obtain⟨g3,g4,_⟩:=G.want_ok (by simp) h3
 have:=tail_bulk g1
 have:=tail_bulk g3
 have:=ins_len _ _ _ _ _ _ h4
 rw [g4,g2] at *
 omega
def F9 (E at':Int) (s:List UInt8) (p:List Int) (t:Int) (b:List (List Ins) × Nat):G.Rd (Fun × Nat):=fun r=>G.andThen (G.want E [125] r) fun _=>G.done ((s,p,t,b.1,at'),b.2)
def F8 (E at':Int) (n:Nat) (s:List UInt8) (p:List Int) (t:Int):G.Rd (Fun × Nat):=fun r=>G.andThen (blkG E (r.length+1) n [] r) fun b=>F9 E at' s p t b
def F7 (E at':Int) (n:Nat) (s:List UInt8) (p:List Int) (t:Int):G.Rd (Fun × Nat):=fun r=>G.andThen (G.want E [123] r) fun _=>F8 E at' n s p t
def F6 (E at':Int) (n:Nat) (s:List UInt8) (p:List Int):G.Rd (Fun × Nat):=fun r=>G.andThen (G.answer E r) fun t=>F7 E at' n s p t
def F5 (E at':Int) (n:Nat) (s:List UInt8) (p:List Int):G.Rd (Fun × Nat):=fun r=>G.andThen (G.want E [41] r) fun _=>F6 E at' n s p
def F4 (E at':Int) (n:Nat) (s:List UInt8):G.Rd (Fun × Nat):=fun r=>G.andThen (G.params E r) fun p=>F5 E at' n s p
def F3 (E at':Int) (n:Nat) (s:List UInt8):G.Rd (Fun × Nat):=fun r=>G.andThen (G.want E [40] r) fun _=>F4 E at' n s
def F2 (E at':Int) (n:Nat):G.Rd (Fun × Nat):=fun r=>G.andThen (G.name namF E r) fun s=>F3 E at' n s
def F1 (E at':Int) (n:Nat):G.Rd (Fun × Nat):=fun r=>G.andThen (G.want E [102,117,110,99] r) fun _=>F2 E at' n
theorem then_go {α β:Type} {x:Except Er (α × List Tok)} {f:α→G.Rd β} {v:α} {r:List Tok} (h:x= .ok (v,r)):G.andThen x f=f v r:=by rw [h];rfl
theorem stay2_blk {B B':Nat} {w w':World} (hs:∀(e s:Nat) (v:Value) (n:Nat) (xs:List Value),e=3∨e=47→w.ownsRow B e s v n xs→w'.ownsRow B' e s v n xs):∀xs v,BlkVal B xs v w→BlkVal B' xs v w':=by
 rintro xs v ⟨cs,h1,h2⟩
 exact⟨cs,hs _ _ _ _ _ (by simp) h1,InsRow.keep (fun v n xs h=>hs 3 1 v n xs (by simp) h) _ _ h2⟩
theorem fun_append {B c gg cap:Nat} {x:Fun} {b:List Ins} {v va vp:Value} {vs:List Value} {u w3:World} (hc:u.heap[c]? =some (.cells (funCells x vp va).toArray 36 (0,0))) (hp:u.ownsRow B 3 1 vp x.2.1.length (ints x.2.1)) (oB:u.ownsRow B 45 1 va x.2.2.2.1.length vs) (hR:BRow B u x.2.2.2.1 vs) (hb:BlkVal B b v u) (hBc:B≤c)
  (hown:w3.ownsRow B 45 1 (.slice (some ⟨gg,0,none⟩) (x.2.2.2.1.length+1) cap) (x.2.2.2.1.length+1) (vs ++ [v])) (hg:u.grownBy w3 va.ownBlock):FunAt B c (fBlock x b) (w3.setCell ⟨c,3,none⟩ (.slice (some ⟨gg,0,none⟩) (x.2.2.2.1.length+1) cap)):=by
 have s1:∀(e s:Nat) (v:Value) (n:Nat) (xs:List Value),e=3∨e=47→u.ownsRow B e s v n xs→w3.ownsRow B e s v n xs:=fun e s v n xs he h=>own_other hg oB (by rcases he with rfl | rfl <;> decide) v n xs h
 have hc3:w3.heap[c]? =some (.cells (funCells x vp va).toArray 36 (0,0)):=(hg.block c (Array.getElem?_eq_some_iff.1 hc).1 (fun e=>own_ne oB hc (by decide) e.symm)).trans hc
 have s2:Stay B B w3 (w3.setCell ⟨c,3,none⟩ (.slice (some ⟨gg,0,none⟩) (x.2.2.2.1.length+1) cap)):=far_kind ((Far.refl c w3).set 3 _) hc3 (by decide)
 refine⟨vp,_,(heap_setCell_same w3 c 3 _ 36 _ hc3).trans rfl,s2 _ _ _ _ _ (by simp) (s1 _ _ _ _ _ (by simp) hp),?_,hBc⟩
 refine BlksVal.stay ⟨vs ++ [v],?_,BRow.snoc (stay2_blk s1 _ _ hb) _ _ (BRow.keep (stay2_blk s1) _ _ hR)⟩ s2
 show w3.ownsRow B 45 1 _ (x.2.2.2.1 ++ [b]).length _
 rw [List.length_append];exact hown
theorem Tryz.info45:(Tryz.prog.info? 45).map (fun i=>(i.zero,i.size,i.bytes))=some (some (.slice none 0 0),1,24):=by kernel_rfl
theorem one_slice {ao:Option Addr} {n c:Nat}:∀u∈ [Value.slice ao n c],u.oneCell'=true:=by
 intro u hu
 simp only [List.mem_singleton] at hu
 subst hu;rfl
def RES5 (g:Nat) (w:World):Prop:=w.cell? ⟨g,0,none⟩=some (.string ⟨#[]⟩)∧w.cell? ⟨g,1,none⟩=some (.slice none 0 0)∧w.cell? ⟨g,2,none⟩=some (.int .i64 0)∧w.cell? ⟨g,3,none⟩=some (.slice none 0 0)∧w.cell? ⟨g,4,none⟩=some (.int .i64 0)∧
 w.frozen? ⟨g,0,none⟩=false∧w.frozen? ⟨g,1,none⟩=false∧w.frozen? ⟨g,2,none⟩=false∧w.frozen? ⟨g,3,none⟩=false∧w.frozen? ⟨g,4,none⟩=false
theorem res5 {g:Nat} {w:World} (h:w.heap[g]? =some (.cells #[.string ⟨#[]⟩,.slice none 0 0,.int .i64 0,.slice none 0 0,.int .i64 0] 36 (0,0))):RES5 g w:=by
 unfold RES5
 simp [World.cell?,World.frozen?,h]
def FRow (B:Nat) (w:World):List Fun→List Value→Prop
 |[],cs=>cs= []
 |x :: r,cs=>∃vp vb rest,cs=funCells x vp vb ++ rest∧w.ownsRow B 3 1 vp x.2.1.length (ints x.2.1)∧BlksVal B x.2.2.2.1 vb w∧FRow B w r rest
theorem FRow.stay {B B':Nat} {w w':World} (hs:Stay B B' w w'):∀(l:List Fun) (cs:List Value),FRow B w l cs→FRow B' w' l cs:=by
 intro l
 induction l with
 |nil=>intro cs h;exact h
 |cons x r ih=>
  rintro cs ⟨vp,vb,rest,h1,h2,h3,h4⟩
  exact⟨vp,vb,rest,h1,hs _ _ _ _ _ (by simp) h2,h3.stay hs,ih rest h4⟩
theorem FRow.snoc {B:Nat} {w:World} {x:Fun} {vp vb:Value} (h1:w.ownsRow B 3 1 vp x.2.1.length (ints x.2.1)) (h2:BlksVal B x.2.2.2.1 vb w):∀(l:List Fun) (cs:List Value),FRow B w l cs→FRow B w (l ++ [x]) (cs ++ funCells x vp vb):=by
 intro l
 induction l with
 |nil=>intro cs h;cases h;exact⟨vp,vb,[],by simp,h1,h2,rfl⟩
 |cons y r ih=>
  rintro cs ⟨ua,ut,rest,rfl,h4,h5,h6⟩
  exact⟨ua,ut,rest ++ funCells x vp vb,by simp,h4,h5,ih rest h6⟩
def ProgVal (B:Nat) (xs:List Fun) (v:Value) (w:World):Prop:=∃cs,w.ownsRow B 36 5 v xs.length cs∧FRow B w xs cs
abbrev fwG (E:Int) (f n:Nat) (acc:List Fun):G.Rd (List Fun × Nat):=G.funW numF idxF namF shpF tksF fndF mksF prtF E f n acc
abbrev progG (E:Int):G.Rd (List Fun × Nat):=G.program numF idxF namF shpF tksF fndF mksF prtF E
theorem fw_stop {E:Int} {f n:Nat} {acc:List Fun}:fwG E (f+1) n acc []= .ok ((acc,n),[]):=by
 unfold fwG G.funW;rw [if_pos rfl]
theorem fw_many {E:Int} {f n:Nat} {acc:List Fun} {l:List Tok} (h:l≠ []) (hn:32≤acc.length):fwG E (f+1) n acc l= .error (6,atOf E l):=by
 unfold fwG G.funW;rw [if_neg h,if_pos hn]
theorem fw_bad {E:Int} {f n:Nat} {acc:List Fun} {l:List Tok} {er:Er} (h:l≠ []) (hn:acc.length < 32) (hi:funG E n l= .error er):fwG E (f+1) n acc l= .error er:=by
 unfold fwG G.funW;rw [if_neg h,if_neg (by omega)];show G.andThen (funG E n l) _=_;rw [hi];rfl
theorem fw_go {E:Int} {f n n':Nat} {acc:List Fun} {l l':List Tok} {x:Fun} (h:l≠ []) (hn:acc.length < 32) (hi:funG E n l= .ok ((x,n'),l')):fwG E (f+1) n acc l=fwG E f n' (acc ++ [x]) l':=by
 conv=>lhs;unfold fwG G.funW
 rw [if_neg h,if_neg (by omega)];show G.andThen (funG E n l) _=_;rw [hi];rfl
theorem Tryz.info36:(Tryz.prog.info? 36).map (fun i=>(i.zero,i.size,i.bytes))=some (some (.agg #[.string ⟨#[]⟩,.slice none 0 0,.int .i64 0,.slice none 0 0,.int .i64 0]),5,80):=by kernel_rfl
theorem five_cell {w:World} {x:Fun} {vp vb:Value}:∀(j:Nat) (u:Value),(funCells x vp vb)[j]? =some u→(w.alloc (.cells (funCells x vp vb).toArray 36)).cell? ((⟨w.heap.size,0,none⟩:Addr).add j)=some u:=
 World.news_of_block (cs:=(funCells x vp vb).toArray) (heap_alloc_new w _)
theorem five_one {x:Fun} {ao ap:Option Addr} {m n c d:Nat}:∀u∈funCells x (.slice ao m c) (.slice ap n d),u.oneCell'=true:=by
 intro u hu
 simp only [funCells,List.mem_cons,List.not_mem_nil,or_false] at hu
 rcases hu with rfl | rfl | rfl | rfl | rfl <;> rfl
theorem blk_len {E:Int}:∀(f n:Nat) (acc:List (List Ins)) (l:List Tok) (v:List (List Ins) × Nat) (r:List Tok),blkG E f n acc l= .ok (v,r)→r.length≤l.length:=by
 intro f
 induction f with
 |zero=>intro n acc l v r h;cases h;exact Nat.le_refl _
 |succ f ih=>
  intro n acc l v r h
  by_cases hc:peek0 l= [125]
  ·rw [blk_stop hc] at h;cases h;exact Nat.le_refl _
  ·cases hi:blockG E acc.length n l with
   |error er=>rw [blk_bad hc hi] at h;cases h
   |ok q=>
    obtain⟨⟨b,n'⟩,l1⟩:=q
    rw [blk_go hc hi] at h
    have:=ih _ _ _ _ _ h
    have:=block_less hi
    omega
theorem fun_less {E:Int} {n n':Nat} {l l':List Tok} {x:Fun} (h:funG E n l= .ok ((x,n'),l')):l'.length < l.length:=by
 obtain⟨u1,l1,h1,h⟩:=G.then_ok h
 obtain⟨s,l2,h2,h⟩:=G.then_ok h
 obtain⟨u3,l3,h3,h⟩:=G.then_ok h
 obtain⟨p,l4,h4,h⟩:=G.then_ok h
 obtain⟨u5,l5,h5,h⟩:=G.then_ok h
 obtain⟨t,l6,h6,h⟩:=G.then_ok h
 obtain⟨u7,l7,h7,h⟩:=G.then_ok h
 obtain⟨b,l8,h8,h⟩:=G.then_ok h
 obtain⟨u9,l9,h9,h⟩:=G.then_ok h
 cases h
 have s1:=(G.want_sim (d:=0) (m:= []) (E':=E) (by simp) l u1 l1 h1).1.length_le
 have s2:=(G.name_sim (d:=0) (m:= []) (E':=E) nam_nil l1 s l2 h2).1.length_le
 have s3:=(G.want_sim (d:=0) (m:= []) (E':=E) (by simp) l2 u3 l3 h3).1.length_le
 have s4:=(G.params_sim (d:=0) (m:= []) (E':=E) l3 p l4 h4).1.length_le
 have s5:=(G.want_sim (d:=0) (m:= []) (E':=E) (by simp) l4 u5 l5 h5).1.length_le
 have s6:=(G.answer_sim (d:=0) (m:= []) (E':=E) l5 t l6 h6).1.length_le
 have s7:=(G.want_sim (d:=0) (m:= []) (E':=E) (by simp) l6 u7 l7 h7).1.length_le
 obtain⟨g1,g2,_⟩:=G.want_ok (by simp) h9
 have s8:=blk_len _ _ _ _ _ _ h8
 have:=tail_bulk g1
 rw [g2] at *
 omega
end Go.Proofs.YtljkgcfnoegibaaGreatDoor
namespace Go.Proofs.YtljkgcfnoegibaaGreatDoor.L2
open Go.RowKit
def okW:Nat→List (Nat × Nat)→Nat→Prop
 |lo,[],hi=>lo≤hi
 |lo,x :: r,hi=>lo≤x.1∧x.1 < x.2∧okW x.2 r hi
theorem okW_snoc (ws:List (Nat × Nat)):∀(lo a e hi:Nat),okW lo ws a→a < e→e≤hi→okW lo (ws ++ [(a,e)]) hi:=by
 induction ws with
 |nil=>intro lo a e hi h h2 h3;exact⟨h,h2,h3⟩
 |cons x r ih=>intro lo a e hi h h2 h3;exact⟨h.1,h.2.1,ih _ _ _ _ h.2.2 h2 h3⟩
theorem okW_mono (ws:List (Nat × Nat)):∀(lo hi hi2:Nat),okW lo ws hi→hi≤hi2→okW lo ws hi2:=by
 induction ws with
 |nil=>intro lo hi hi2 h h2;exact Nat.le_trans h h2
 |cons x r ih=>intro lo hi hi2 h h2;exact⟨h.1,h.2.1,ih _ _ _ h.2.2 h2⟩
theorem okW_shut (ws:List (Nat × Nat)) (b:Option Nat) (p:Nat) (h:okW 0 ws (b.getD p)) (hb:∀q,b=some q→q < p):okW 0 (shutW ws b p) p:=by
 cases b with
 |none=>exact h
 |some q=>exact okW_snoc ws 0 q p p h (hb q rfl) (Nat.le_refl _)
theorem scan_stands (l:List UInt8):∀(p:Nat) (ws:List (Nat × Nat)) (b:Option Nat) (n:Bool),okW 0 ws (b.getD p)→(∀q,b=some q→q < p)→
  (∀x,scan l p ws b n= .inl x→p≤x∧x < p+l.length)∧(∀ws',scan l p ws b n= .inr ws'→okW 0 ws' (p+l.length)):=by
 induction l with
 |nil=>
  intro p ws b n h hb
  refine⟨fun x hx=>(by rw [scan] at hx;cases hx),fun ws' hx=> ?_⟩
  rw [scan] at hx
  rw [←Sum.inr.inj hx]
  exact okW_shut ws b p h hb
 |cons c l ih=>
  intro p ws b n h hb
  have step:∀ws2 b2 n2,scan (c :: l) p ws b n=scan l (p+1) ws2 b2 n2→okW 0 ws2 (b2.getD (p+1))→(∀q,b2=some q→q < p+1)→
    (∀x,scan (c :: l) p ws b n= .inl x→p≤x∧x < p+(c :: l).length)∧(∀ws',scan (c :: l) p ws b n= .inr ws'→okW 0 ws' (p+(c :: l).length)):=by
   intro ws2 b2 n2 e h2 hb2
   rw [e,List.length_cons]
   obtain⟨i1,i2⟩:=ih (p+1) ws2 b2 n2 h2 hb2
   refine⟨fun x hx=> ?_,fun ws' hx=> ?_⟩
   ·have:=i1 x hx;omega
   ·have:=i2 ws' hx;rw [show p+(l.length+1)=p+1+l.length by omega];exact this
  have hs:=okW_shut ws b p h hb
  cases n with
  |true=>
   refine step ws b _ (scan_note c l p ws b) ?_ (fun q hq=>by have:=hb q hq;omega)
   cases b with
   |none=>exact okW_mono ws 0 p (p+1) h (by omega)
   |some q=>exact h
  |false=>
   cases ht:togB c.toNat with
   |true=>
    refine step ws (some (b.getD p)) false (scan_tog l p ws b ht) h (fun q hq=> ?_)
    have e:=Option.some.inj hq
    cases b with
    |none=>simp at e;omega
    |some r=>simp at e;have:=hb r rfl;omega
   |false=>
    cases h2:aloB c.toNat with
    |true=>exact step _ none false (scan_alo l p ws b ht h2) (okW_snoc _ 0 p (p+1) (p+1) hs (by omega) (Nat.le_refl _)) (fun q hq=>by cases hq)
    |false=>
     by_cases h3:(c.toNat:Int)=35
     ·exact step _ none true (scan_hash l p ws b ht h2 h3) (okW_mono _ 0 p (p+1) hs (by omega)) (fun q hq=>by cases hq)
     ·cases h4:blaB c.toNat with
      |true=>exact step _ none false (scan_bla l p ws b ht h2 h3 h4) (okW_mono _ 0 p (p+1) hs (by omega)) (fun q hq=>by cases hq)
      |false=>
       rw [scan_err l p ws b ht h2 h3 h4]
       exact⟨fun x hx=>by have:=Sum.inl.inj hx;simp only [List.length_cons];omega,fun ws' hx=>by cases hx⟩
def joinL:List (List UInt8)→List UInt8
 |[]=> []
 |x :: r=>x ++ r.flatMap fun y=>32 :: y
def wordOk (x:List UInt8):Prop:=(∃c:UInt8,x= [c]∧togB c.toNat=false∧aloB c.toNat=true)∨(x≠ []∧∀c∈x,togB (UInt8.toNat c)=true)
def cut (L:List UInt8) (x:Nat × Nat):List UInt8:=(L.drop x.1).take (x.2 - x.1)
def goodW (L:List UInt8) (x:Nat × Nat):Prop:=(x.2=x.1+1∧∃c,L[x.1]? =some c∧togB c.toNat=false∧aloB c.toNat=true)∨(x.1 < x.2∧∀j,x.1≤j→j < x.2→∃c,L[j]? =some c∧togB c.toNat=true)
theorem good_ok {L:List UInt8} {x:Nat × Nat} (h:goodW L x):wordOk (cut L x):=by
 rcases h with ⟨e,c,hc,h1,h2⟩ | ⟨hlt,h⟩
 ·refine .inl ⟨c,?_,h1,h2⟩
  obtain⟨hl,rfl⟩:=List.getElem?_eq_some_iff.1 hc
  rw [cut,e,Nat.add_sub_cancel_left,List.drop_eq_getElem_cons hl]
  rfl
 ·refine .inr ⟨?_,fun c hc=> ?_⟩
  ·obtain⟨c,hc,_⟩:=h x.1 (Nat.le_refl _) hlt
   obtain⟨hl,rfl⟩:=List.getElem?_eq_some_iff.1 hc
   intro e
   have:=congrArg List.length e
   simp [cut] at this
   omega
  ·obtain⟨j,hj,rfl⟩:=List.getElem_of_mem hc
   have hj2:j < x.2 - x.1:=by simp [cut] at hj;omega
   obtain⟨c,hc2,h3⟩:=h (x.1+j) (by omega) (by omega)
   obtain⟨hl,rfl⟩:=List.getElem?_eq_some_iff.1 hc2
   simp only [cut,List.getElem_take,List.getElem_drop]
   exact h3
theorem good_shut {L:List UInt8} {ws:List (Nat × Nat)} {b:Option Nat} {p:Nat} (h:∀x∈ws,goodW L x) (hb:∀q,b=some q→q < p∧∀j,q≤j→j < p→∃c,L[j]? =some c∧togB c.toNat=true):∀x∈shutW ws b p,goodW L x:=by
 cases b with
 |none=>exact h
 |some q=>
  intro x hx
  simp only [shutW,List.mem_append,List.mem_singleton] at hx
  rcases hx with hx | rfl
  ·exact h x hx
  ·exact .inr (hb q rfl)
theorem scan_good (L:List UInt8) (l:List UInt8):∀(p:Nat) (ws:List (Nat × Nat)) (b:Option Nat) (n:Bool),L.drop p=l→(∀x∈ws,goodW L x)→
  (∀q,b=some q→q < p∧∀j,q≤j→j < p→∃c,L[j]? =some c∧togB c.toNat=true)→(n=true→b=none)→∀ws',scan l p ws b n= .inr ws'→∀x∈ws',goodW L x:=by
 induction l with
 |nil=>
  intro p ws b n _ h hb _ ws' hx
  rw [scan] at hx
  rw [←Sum.inr.inj hx]
  exact good_shut h hb
 |cons c l ih=>
  intro p ws b n hd h hb hn ws' hx
  have hd2:L.drop (p+1)=l:=by rw [←List.drop_drop,hd];rfl
  have hc:L[p]? =some c:=by
   have:=congrArg (fun k=>k[0]?) hd
   simpa using this
  have hs:=good_shut h hb
  have nob:∀q,(none:Option Nat)=some q→q < p+1∧∀j,q≤j→j < p+1→∃c,L[j]? =some c∧togB c.toNat=true:=fun q hq=>by cases hq
  cases n with
  |true=>
   have hb0:=hn rfl
   subst hb0
   rw [scan_note] at hx
   exact ih (p+1) ws none _ hd2 h nob (fun _=>rfl) ws' hx
  |false=>
   cases ht:togB c.toNat with
   |true=>
    rw [scan_tog l p ws b ht] at hx
    refine ih (p+1) ws _ false hd2 h (fun q hq=> ?_) (fun k=>by cases k) ws' hx
    have e:=Option.some.inj hq
    cases b with
    |none=>
     simp only [Option.getD_none] at e
     subst e
     refine⟨by omega,fun j h1 h2=> ?_⟩
     have:j=p:=by omega
     subst this
     exact⟨c,hc,ht⟩
    |some r=>
     simp only [Option.getD_some] at e
     subst e
     obtain⟨g1,g2⟩:=hb r rfl
     refine⟨by omega,fun j h1 h2=> ?_⟩
     by_cases hj:j < p
     ·exact g2 j h1 hj
     ·have:j=p:=by omega
      subst this
      exact⟨c,hc,ht⟩
   |false=>
    cases h2:aloB c.toNat with
    |true=>
     rw [scan_alo l p ws b ht h2] at hx
     refine ih (p+1) _ none false hd2 (fun x hx2=> ?_) nob (fun _=>rfl) ws' hx
     simp only [List.mem_append,List.mem_singleton] at hx2
     rcases hx2 with hx2 | rfl
     ·exact hs x hx2
     ·exact .inl ⟨rfl,c,hc,ht,h2⟩
    |false=>
     by_cases h3:(c.toNat:Int)=35
     ·rw [scan_hash l p ws b ht h2 h3] at hx
      exact ih (p+1) _ none true hd2 hs nob (fun _=>rfl) ws' hx
     ·cases h4:blaB c.toNat with
      |true=>
       rw [scan_bla l p ws b ht h2 h3 h4] at hx
       exact ih (p+1) _ none false hd2 hs nob (fun _=>rfl) ws' hx
      |false=>
       rw [scan_err l p ws b ht h2 h3 h4] at hx
       cases hx
theorem words_ok {s:ByteArray} {ws:List (Nat × Nat)} (h:words s= .inr ws):okW 0 ws s.size∧∀x∈ws,wordOk (cut s.data.toList x):=by
 refine⟨?_,fun x hx=>good_ok (scan_good s.data.toList _ 0 [] none false rfl (fun _ k=>by cases k) (fun _ k=>by cases k) (fun _=>rfl) ws h x hx)⟩
 have:=(scan_stands s.data.toList 0 [] none false (Nat.le_refl 0) (fun _ k=>by cases k)).2 ws h
 rw [blen,Nat.zero_add] at this
 exact this
theorem join_len (L:List UInt8) (ws:List (Nat × Nat)):∀lo hi,okW lo ws hi→(joinL (ws.map (cut L))).length+lo≤hi+ws.length∧ws.length+lo≤hi:=by
 have tail:∀(ws:List (Nat × Nat)) lo hi,okW lo ws hi→((ws.map (cut L)).flatMap fun y=>32 :: y).length+lo≤hi+ws.length∧ws.length+lo≤hi:=by
  intro ws
  induction ws with
  |nil=>intro lo hi h;simp;exact h
  |cons x r ih=>
   intro lo hi h
   have h1:=h.1;have h2:=h.2.1
   obtain⟨i1,i2⟩:=ih _ _ h.2.2
   have hc:(cut L x).length≤x.2 - x.1:=by simp [cut];omega
   simp only [List.map_cons,List.flatMap_cons,List.length_append,List.length_cons]
   omega
 intro lo hi h
 cases ws with
 |nil=>simp [joinL];exact h
 |cons x r=>
  have h1:=h.1;have h2:=h.2.1
  obtain⟨i1,i2⟩:=tail r _ _ h.2.2
  have hc:(cut L x).length≤x.2 - x.1:=by simp [cut];omega
  simp only [List.map_cons,joinL,List.length_append,List.length_cons]
  omega
end Go.Proofs.YtljkgcfnoegibaaGreatDoor.L2
namespace Go.Proofs.YtljkgcfnoegibaaGreatDoor
open Go Go.RowKit
open G (Tok Er Ins Fun peek0 peek1 atOf)
def toks (s:ByteArray) (ws:List (Nat × Nat)):List Tok:=ws.map fun q=>((s.extract q.1 q.2).data.toList,(q.1:Int))
theorem toks_cells (s:ByteArray) (ws:List (Nat × Nat)):L2.cellsT (ws.map (L2.tok s))=cellsK (toks s ws):=by
 induction ws with
 |nil=>rfl
 |cons q r ih=>
  show Value.string (s.extract q.1 q.2) :: Value.int .i64 (q.1:Int) :: L2.cellsT (r.map (L2.tok s))=Value.string (bs (s.extract q.1 q.2).data.toList) :: Value.int .i64 (q.1:Int) :: cellsK (toks s r)
  rw [bs_of,ih]
def textG (s:ByteArray):Except Er (List Fun):=
 match L2.words s with
 |.inl x=> .error (1,(x:Int))
 |.inr ws=>match progG (s.size:Int) (toks s ws)with
  |.ok ((xs,_),_)=> .ok xs
  |.error er=> .error er
theorem toks_short {s:ByteArray} {ws:List (Nat × Nat)} (h:L2.words s= .inr ws) (hs:s.size≤65536):(toks s ws).length≤131072∧∀t∈toks s ws,t.1.length≤65536:=by
 have hok:=(L2.words_ok h).1
 have hl:=(L2.join_len s.data.toList ws 0 s.size hok).2
 refine⟨by simp [toks];omega,fun t ht=> ?_⟩
 simp only [toks,List.mem_map] at ht
 obtain⟨q,_,rfl⟩:=ht
 show(s.extract q.1 q.2).data.toList.length≤65536
 rw [ext_list]
 have:s.data.toList.length=s.size:=by simp
 simp
 omega
open G (Tok Er Ins Fun)
def dec0:DecidableEq (List UInt8 × Int):=instDecidableEqProd
def dec1:DecidableEq (List Int × List UInt8 × Int):= @instDecidableEqProd _ _ _ dec0
def dec2:DecidableEq (List Int × List Int × List UInt8 × Int):= @instDecidableEqProd _ _ _ dec1
def dec3:DecidableEq (Int × List Int × List Int × List UInt8 × Int):= @instDecidableEqProd _ _ _ dec2
def dec4:DecidableEq (Int × Int × List Int × List Int × List UInt8 × Int):= @instDecidableEqProd _ _ _ dec3
def dec5:DecidableEq (Int × Int × Int × List Int × List Int × List UInt8 × Int):= @instDecidableEqProd _ _ _ dec4
def dec6:DecidableEq Ins:= @instDecidableEqProd _ _ _ dec5
def dec7:DecidableEq (List Ins):= @instDecidableEqList _ dec6
def dec8:DecidableEq (List (List Ins)):= @instDecidableEqList _ dec7
def dec9:DecidableEq (List (List Ins) × Int):= @instDecidableEqProd _ _ dec8 _
def decA:DecidableEq (Int × List (List Ins) × Int):= @instDecidableEqProd _ _ _ dec9
def decB:DecidableEq (List Int × Int × List (List Ins) × Int):= @instDecidableEqProd _ _ _ decA
def decC:DecidableEq Fun:= @instDecidableEqProd _ _ _ decB
def decD:DecidableEq (List Fun):= @instDecidableEqList _ decC
def same (r:Except Er (List Fun)) (q:Except Er (List Fun)):Bool:=match r,q with
 |.ok xs,.ok ys=> @decide (xs=ys) (decD xs ys)
 |.error x,.error y=>decide (x=y)
 |_,_=>false
theorem own_view {w:World} {B e s n:Nat} {v:Value} {xs:List Value} (h:w.ownsRow B e s v n xs):(v= .slice none 0 0∧n=0)∨∃g cap,v= .slice (some ⟨g,0,none⟩) n cap∧n≤cap∧cap≤maxLen∧B≤g∧g < w.heap.size∧(∀j u,xs[j]? =some u→w.cell? ⟨g,j,none⟩=some u)∧∀j,w.frozen? ⟨g,j,none⟩=false:=by
 rcases h.2 with ⟨hv,hn⟩ | ⟨g,cap,cur,hv2,hbb,hg,hc1,hc2,hc3,hc4⟩
 ·exact .inl ⟨hv,hn⟩
 ·refine .inr ⟨g,cap,hv2,hc1,hc2,hbb,(Array.getElem?_eq_some_iff.1 hg).1,fun j u hj=> ?_,fun j=>by simp [World.frozen?,hg]⟩
  have:=h.cells (g:=g) (by rw [hv2];rfl) j u hj
  rwa [Addr.add_lit,Nat.zero_add] at this
theorem FRow.at {B:Nat} {w:World}:∀(l:List Fun) (cs:List Value) (i:Nat) (x:Fun),FRow B w l cs→l[i]? =some x→∃vp vb,(∀j u,(funCells x vp vb)[j]? =some u→cs[i * 5+j]? =some u)∧w.ownsRow B 3 1 vp x.2.1.length (ints x.2.1)∧BlksVal B x.2.2.2.1 vb w:=by
 intro l
 induction l with
 |nil=>intro cs i x _ h;simp at h
 |cons y r ih=>
  rintro cs i x ⟨vp,vb,rest,rfl,h1,h2,h3⟩ hi
  cases i with
  |zero=>
   simp at hi;subst hi
   refine⟨vp,vb,fun j u hj=> ?_,h1,h2⟩
   have hl:j < (funCells y vp vb).length:=(List.getElem?_eq_some_iff.1 hj).1
   rw [show 0 * 5+j=j by omega,List.getElem?_append_left hl];exact hj
  |succ i=>
   obtain⟨up,ub,k1,k2,k3⟩:=ih rest i x h3 (by simpa using hi)
   refine⟨up,ub,fun j u hj=> ?_,k2,k3⟩
   have hl:(funCells y vp vb).length=5:=rfl
   rw [List.getElem?_append_right (by rw [hl];omega),hl,show(i+1) * 5+j - 5=i * 5+j by omega]
   exact k1 j u hj
theorem InsRow.at {B:Nat} {w:World}:∀(l:List Ins) (cs:List Value) (i:Nat) (x:Ins),InsRow B w l cs→l[i]? =some x→∃va vt,(∀j u,(insCells x va vt)[j]? =some u→cs[i * 8+j]? =some u)∧w.ownsRow B 3 1 va x.2.2.2.2.1.length (ints x.2.2.2.2.1)∧w.ownsRow B 3 1 vt x.2.2.2.2.2.1.length (ints x.2.2.2.2.2.1):=by
 intro l
 induction l with
 |nil=>intro cs i x _ h;simp at h
 |cons y r ih=>
  rintro cs i x ⟨vp,vb,rest,rfl,h1,h2,h3⟩ hi
  cases i with
  |zero=>
   simp at hi;subst hi
   refine⟨vp,vb,fun j u hj=> ?_,h1,h2⟩
   have hl:j < (insCells y vp vb).length:=(List.getElem?_eq_some_iff.1 hj).1
   rw [show 0 * 8+j=j by omega,List.getElem?_append_left hl];exact hj
  |succ i=>
   obtain⟨up,ub,k1,k2,k3⟩:=ih rest i x h3 (by simpa using hi)
   refine⟨up,ub,fun j u hj=> ?_,k2,k3⟩
   have hl:(insCells y vp vb).length=8:=rfl
   rw [List.getElem?_append_right (by rw [hl];omega),hl,show(i+1) * 8+j - 8=i * 8+j by omega]
   exact k1 j u hj
theorem BRow.at {B:Nat} {w:World}:∀(l:List (List Ins)) (vs:List Value) (i:Nat) (b:List Ins),BRow B w l vs→l[i]? =some b→∃v,vs[i]? =some v∧BlkVal B b v w:=by
 intro l
 induction l with
 |nil=>intro cs i x _ h;simp at h
 |cons y r ih=>
  rintro cs i x ⟨v,rest,rfl,h1,h2⟩ hi
  cases i with
  |zero=>simp at hi;subst hi;exact⟨v,by simp,h1⟩
  |succ i=>
   obtain⟨u,k1,k2⟩:=ih rest i x h2 (by simpa using hi)
   exact⟨u,by simpa using k1,k2⟩
def wI (x:Ins):Nat:=1+x.2.2.2.2.1.length / 4+x.2.2.2.2.2.1.length / 4+x.2.2.2.2.2.2.1.length / 30
def wB (b:List Ins):Nat:=(b.map wI).sum
def wBs (l:List (List Ins)):Nat:=(l.map wB).sum
def wF0 (f:Fun):Nat:=f.2.2.2.1.length+f.2.1.length+f.1.length / 30
def wF (f:Fun):Nat:=wF0 f+wBs f.2.2.2.1
def wFs (p:List Fun):Nat:=(p.map wF).sum
def total (p:List Fun):Nat:=p.length+wFs p
def ShI (x:Ins):Prop:=x.2.2.2.2.1.length≤140737488355328∧x.2.2.2.2.2.1.length≤140737488355328∧x.2.2.2.2.2.2.1.length≤140737488355328
def ShF (f:Fun):Prop:=f.1.length≤140737488355328∧f.2.1.length≤140737488355328∧f.2.2.2.1.length≤140737488355328∧∀b∈f.2.2.2.1,∀x∈b,ShI x
theorem sum_take {α:Type} (g:α→Nat) (l:List α) (j:Nat) (x:α) (h:l[j]? =some x):((l.take (j+1)).map g).sum=((l.take j).map g).sum+g x:=by
 rw [List.take_add_one,h];simp
theorem sum_le {α:Type} (g:α→Nat) (l:List α) (j:Nat):((l.take j).map g).sum≤(l.map g).sum:=by
 have:(l.map g).sum=((l.take j).map g).sum+((l.drop j).map g).sum:=by rw [←List.sum_append,←List.map_append,List.take_append_drop]
 omega
theorem ints_at {l:List Int} {i:Nat} {n:Int} (h:l[i]? =some n):(ints l)[i]? =some (.int .i64 n):=by
 show(l.map _)[i]? =_
 rw [List.getElem?_map,h];rfl
theorem ints_of {B:Nat} {w:World} {l:List Int} {v:Value} (h:w.ownsRow B 3 1 v l.length (ints l)):IntsV w l v:=by
 rcases own_view h with ⟨rfl,hn⟩ | ⟨g,cap,rfl,h1,h2,h3,h4,h5,h6⟩
 ·have e:l= []:=List.length_eq_zero_iff.1 hn
  subst e
  exact⟨none,0,rfl,.inl rfl,Nat.le_refl _,Nat.zero_le _⟩
 ·exact⟨some ⟨g,0,none⟩,cap,rfl,.inr ⟨g,0,rfl,h4,fun i n hi=>by rw [Nat.zero_add];exact h5 i _ (ints_at hi)⟩,h1,h2⟩
theorem blk_of {B:Nat} {w:World} {l:List Ins} {v:Value} (h:BlkVal B l v w):BlkR w l v:=by
 obtain⟨cs,h0,hR⟩:=h
 rcases own_view h0 with ⟨rfl,hn⟩ | ⟨g,cap,rfl,h1,h2,h3,h4,h5,h6⟩
 ·have e:l= []:=List.length_eq_zero_iff.1 hn
  subst e
  exact⟨none,0,rfl,Nat.le_refl _,Nat.zero_le _,.inl rfl⟩
 ·refine⟨some ⟨g,0,none⟩,cap,rfl,h1,h2,.inr ⟨g,0,rfl,fun i x hi=> ?_⟩⟩
  obtain⟨va,vt,k1,k2,k3⟩:=InsRow.at _ _ i x hR hi
  exact⟨h4,va,vt,fun j t hj=>by rw [Nat.zero_add];exact h5 _ _ (k1 j t hj),ints_of k2,ints_of k3⟩
theorem blks_of {B:Nat} {w:World} {l:List (List Ins)} {v:Value} (h:BlksVal B l v w):BlksR w l v:=by
 obtain⟨cs,h0,hR⟩:=h
 rcases own_view h0 with ⟨rfl,hn⟩ | ⟨g,cap,rfl,h1,h2,h3,h4,h5,h6⟩
 ·have e:l= []:=List.length_eq_zero_iff.1 hn
  subst e
  exact⟨none,0,rfl,Nat.le_refl _,Nat.zero_le _,.inl rfl⟩
 ·refine⟨some ⟨g,0,none⟩,cap,rfl,h1,h2,.inr ⟨g,0,rfl,h4,fun i b hi=> ?_⟩⟩
  obtain⟨u,k1,k2⟩:=BRow.at _ _ i b hR hi
  exact⟨u,by rw [Nat.zero_add];exact h5 _ _ k1,blk_of k2⟩
theorem prog_of {B:Nat} {w:World} {l:List Fun} {v:Value} (h:ProgVal B l v w):ProgR w l v:=by
 obtain⟨cs,h0,hR⟩:=h
 rcases own_view h0 with ⟨rfl,hn⟩ | ⟨g,cap,rfl,h1,h2,h3,h4,h5,h6⟩
 ·have e:l= []:=List.length_eq_zero_iff.1 hn
  subst e
  exact⟨none,0,rfl,Nat.le_refl _,Nat.zero_le _,.inl rfl⟩
 ·refine⟨some ⟨g,0,none⟩,cap,rfl,h1,h2,.inr ⟨g,0,rfl,fun i x hi=> ?_⟩⟩
  obtain⟨vp,vb,k1,k2,k3⟩:=FRow.at _ _ i x hR hi
  exact⟨h4,vp,vb,fun j t hj=>by rw [Nat.zero_add];exact h5 _ _ (k1 j t hj),ints_of k2,blks_of k3⟩
end Go.Proofs.YtljkgcfnoegibaaGreatDoor
namespace Go.Proofs.YtljkgcfnoegibaaGreatDoor.G
def noI (x:Ins):Ins:=(x.1,x.2.1,x.2.2.1,x.2.2.2.1,x.2.2.2.2.1,x.2.2.2.2.2.1,x.2.2.2.2.2.2.1,0)
def noB (b:List Ins):List Ins:=b.map noI
def noF (f:Fun):Fun:=(f.1,f.2.1,f.2.2.1,f.2.2.2.1.map noB,0)
section
variable (dig:Int→List UInt8) (iw:Int→Int→List UInt8) (mks:Int→Int→Int)
variable (ltr:Int→List UInt8)
end
section
variable (nam:List UInt8→Bool) (shp:List UInt8→Int) (tks:Int→Nat)
variable (good:Int→Int→Bool) (mks:Int→Int→Int)
end
section
variable {E:Int} {num:List UInt8→Int × Int} {idx:List UInt8→Int→Option Int} {nam:List UInt8→Bool} {shp:List UInt8→Int} {tks:Int→Nat} {fnd:List UInt8→Int × Int} {mks:Int→Int→Int} {prt:Nat→List UInt8→Bool}
variable {dig:Int→List UInt8} {iw:Int→Int→List UInt8} {good:Int→Int→Bool} {ltr:Int→List UInt8}
end
end Go.Proofs.YtljkgcfnoegibaaGreatDoor.G
