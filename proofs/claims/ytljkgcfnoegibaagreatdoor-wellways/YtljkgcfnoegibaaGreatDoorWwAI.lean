/- Texts of one chain, joined. -/
import Derived.Test.YtljkgcfnoegibaaGreatDoorWwAD
import Derived.Test.YtljkgcfnoegibaaGreatDoorWwAE
import Derived.Test.YtljkgcfnoegibaaGreatDoorWwAF
import Derived.Test.YtljkgcfnoegibaaGreatDoorWwAG
import Derived.Test.YtljkgcfnoegibaaGreatDoorWwAH
import Derived.Defers
import Derived.Recover
set_option maxHeartbeats 4000000
set_option maxRecDepth 20000
namespace Go.Proofs.YtljkgcfnoegibaaGreatDoor
open Go Go.RowKit
open G (Tok Er Ins Fun peek0 peek1 atOf)
def FRow (B:Nat) (w:World):List Fun→List Value→Prop
 |[],cs=>cs= []
 |x :: r,cs=>∃vp vb rest,cs=funCells x vp vb ++ rest∧w.ownsRow B 3 1 vp x.2.1.length (ints x.2.1)∧BlksVal B x.2.2.2.1 vb w∧FRow B w r rest
theorem FRow.stay {B B':Nat} {w w':World} (hs:Stay B B' w w'):∀(l:List Fun) (cs:List Value),FRow B w l cs→FRow B' w' l cs:=by
 intro l
 induction l with
 |nil=>intro cs h;exact h
 |cons x r ih=>
  rintro cs ⟨vp,vb,rest,h1,h2,h3,h4⟩
  exact⟨vp,vb,rest,h1,hs _ _ _ _ _ (by simp) h2,h3.stay hs,ih rest h4⟩
theorem FRow.snoc {B:Nat} {w:World} {x:Fun} {vp vb:Value} (h1:w.ownsRow B 3 1 vp x.2.1.length (ints x.2.1)) (h2:BlksVal B x.2.2.2.1 vb w):∀(l:List Fun) (cs:List Value),FRow B w l cs→FRow B w (l ++ [x]) (cs ++ funCells x vp vb):=by
 intro l
 induction l with
 |nil=>intro cs h;cases h;exact⟨vp,vb,[],by simp,h1,h2,rfl⟩
 |cons y r ih=>
  rintro cs ⟨ua,ut,rest,rfl,h4,h5,h6⟩
  exact⟨ua,ut,rest ++ funCells x vp vb,by simp,h4,h5,ih rest h6⟩
def ProgVal (B:Nat) (xs:List Fun) (v:Value) (w:World):Prop:=∃cs,w.ownsRow B 36 5 v xs.length cs∧FRow B w xs cs
abbrev fwG (E:Int) (f n:Nat) (acc:List Fun):G.Rd (List Fun × Nat):=G.funW numF idxF namF shpF tksF fndF mksF prtF E f n acc
abbrev progG (E:Int):G.Rd (List Fun × Nat):=G.program numF idxF namF shpF tksF fndF mksF prtF E
theorem fw_stop {E:Int} {f n:Nat} {acc:List Fun}:fwG E (f+1) n acc []= .ok ((acc,n),[]):=by
 unfold fwG G.funW;rw [if_pos rfl]
theorem fw_many {E:Int} {f n:Nat} {acc:List Fun} {l:List Tok} (h:l≠ []) (hn:32≤acc.length):fwG E (f+1) n acc l= .error (6,atOf E l):=by
 unfold fwG G.funW;rw [if_neg h,if_pos hn]
theorem fw_bad {E:Int} {f n:Nat} {acc:List Fun} {l:List Tok} {er:Er} (h:l≠ []) (hn:acc.length < 32) (hi:funG E n l= .error er):fwG E (f+1) n acc l= .error er:=by
 unfold fwG G.funW;rw [if_neg h,if_neg (by omega)];show G.andThen (funG E n l) _=_;rw [hi];rfl
theorem fw_go {E:Int} {f n n':Nat} {acc:List Fun} {l l':List Tok} {x:Fun} (h:l≠ []) (hn:acc.length < 32) (hi:funG E n l= .ok ((x,n'),l')):fwG E (f+1) n acc l=fwG E f n' (acc ++ [x]) l':=by
 conv=>lhs;unfold fwG G.funW
 rw [if_neg h,if_neg (by omega)];show G.andThen (funG E n l) _=_;rw [hi];rfl
theorem Tryz.info36:(Tryz.prog.info? 36).map (fun i=>(i.zero,i.size,i.bytes))=some (some (.agg #[.string ⟨#[]⟩,.slice none 0 0,.int .i64 0,.slice none 0 0,.int .i64 0]),5,80):=by kernel_rfl
theorem five_cell {w:World} {x:Fun} {vp vb:Value}:∀(j:Nat) (u:Value),(funCells x vp vb)[j]? =some u→(w.alloc (.cells (funCells x vp vb).toArray 36)).cell? ((⟨w.heap.size,0,none⟩:Addr).add j)=some u:=
 World.news_of_block (cs:=(funCells x vp vb).toArray) (heap_alloc_new w _)
theorem five_one {x:Fun} {ao ap:Option Addr} {m n c d:Nat}:∀u∈funCells x (.slice ao m c) (.slice ap n d),u.oneCell'=true:=by
 intro u hu
 simp only [funCells,List.mem_cons,List.not_mem_nil,or_false] at hu
 rcases hu with rfl | rfl | rfl | rfl | rfl <;> rfl
theorem blk_len {E:Int}:∀(f n:Nat) (acc:List (List Ins)) (l:List Tok) (v:List (List Ins) × Nat) (r:List Tok),blkG E f n acc l= .ok (v,r)→r.length≤l.length:=by
 intro f
 induction f with
 |zero=>intro n acc l v r h;cases h;exact Nat.le_refl _
 |succ f ih=>
  intro n acc l v r h
  by_cases hc:peek0 l= [125]
  ·rw [blk_stop hc] at h;cases h;exact Nat.le_refl _
  ·cases hi:blockG E acc.length n l with
   |error er=>rw [blk_bad hc hi] at h;cases h
   |ok q=>
    obtain⟨⟨b,n'⟩,l1⟩:=q
    rw [blk_go hc hi] at h
    have:=ih _ _ _ _ _ h
    have:=block_less hi
    omega
theorem fun_less {E:Int} {n n':Nat} {l l':List Tok} {x:Fun} (h:funG E n l= .ok ((x,n'),l')):l'.length < l.length:=by
 obtain⟨u1,l1,h1,h⟩:=G.then_ok h
 obtain⟨s,l2,h2,h⟩:=G.then_ok h
 obtain⟨u3,l3,h3,h⟩:=G.then_ok h
 obtain⟨p,l4,h4,h⟩:=G.then_ok h
 obtain⟨u5,l5,h5,h⟩:=G.then_ok h
 obtain⟨t,l6,h6,h⟩:=G.then_ok h
 obtain⟨u7,l7,h7,h⟩:=G.then_ok h
 obtain⟨b,l8,h8,h⟩:=G.then_ok h
 obtain⟨u9,l9,h9,h⟩:=G.then_ok h
 cases h
 have s1:=(G.want_sim (d:=0) (m:= []) (E':=E) (by simp) l u1 l1 h1).1.length_le
 have s2:=(G.name_sim (d:=0) (m:= []) (E':=E) nam_nil l1 s l2 h2).1.length_le
 have s3:=(G.want_sim (d:=0) (m:= []) (E':=E) (by simp) l2 u3 l3 h3).1.length_le
 have s4:=(G.params_sim (d:=0) (m:= []) (E':=E) l3 p l4 h4).1.length_le
 have s5:=(G.want_sim (d:=0) (m:= []) (E':=E) (by simp) l4 u5 l5 h5).1.length_le
 have s6:=(G.answer_sim (d:=0) (m:= []) (E':=E) l5 t l6 h6).1.length_le
 have s7:=(G.want_sim (d:=0) (m:= []) (E':=E) (by simp) l6 u7 l7 h7).1.length_le
 obtain⟨g1,g2,_⟩:=G.want_ok (by simp) h9
 have s8:=blk_len _ _ _ _ _ _ h8
 have:=tail_bulk g1
 rw [g2] at *
 omega
end Go.Proofs.YtljkgcfnoegibaaGreatDoor
namespace Go.Proofs.YtljkgcfnoegibaaGreatDoor.L2
open Go.RowKit
def okW:Nat→List (Nat × Nat)→Nat→Prop
 |lo,[],hi=>lo≤hi
 |lo,x :: r,hi=>lo≤x.1∧x.1 < x.2∧okW x.2 r hi
theorem okW_snoc (ws:List (Nat × Nat)):∀(lo a e hi:Nat),okW lo ws a→a < e→e≤hi→okW lo (ws ++ [(a,e)]) hi:=by
 induction ws with
 |nil=>intro lo a e hi h h2 h3;exact⟨h,h2,h3⟩
 |cons x r ih=>intro lo a e hi h h2 h3;exact⟨h.1,h.2.1,ih _ _ _ _ h.2.2 h2 h3⟩
theorem okW_mono (ws:List (Nat × Nat)):∀(lo hi hi2:Nat),okW lo ws hi→hi≤hi2→okW lo ws hi2:=by
 induction ws with
 |nil=>intro lo hi hi2 h h2;exact Nat.le_trans h h2
 |cons x r ih=>intro lo hi hi2 h h2;exact⟨h.1,h.2.1,ih _ _ _ h.2.2 h2⟩
theorem okW_shut (ws:List (Nat × Nat)) (b:Option Nat) (p:Nat) (h:okW 0 ws (b.getD p)) (hb:∀q,b=some q→q < p):okW 0 (shutW ws b p) p:=by
 cases b with
 |none=>exact h
 |some q=>exact okW_snoc ws 0 q p p h (hb q rfl) (Nat.le_refl _)
theorem scan_stands (l:List UInt8):∀(p:Nat) (ws:List (Nat × Nat)) (b:Option Nat) (n:Bool),okW 0 ws (b.getD p)→(∀q,b=some q→q < p)→
  (∀x,scan l p ws b n= .inl x→p≤x∧x < p+l.length)∧(∀ws',scan l p ws b n= .inr ws'→okW 0 ws' (p+l.length)):=by
 induction l with
 |nil=>
  intro p ws b n h hb
  refine⟨fun x hx=>(by rw [scan] at hx;cases hx),fun ws' hx=> ?_⟩
  rw [scan] at hx
  rw [←Sum.inr.inj hx]
  exact okW_shut ws b p h hb
 |cons c l ih=>
  intro p ws b n h hb
  have step:∀ws2 b2 n2,scan (c :: l) p ws b n=scan l (p+1) ws2 b2 n2→okW 0 ws2 (b2.getD (p+1))→(∀q,b2=some q→q < p+1)→
    (∀x,scan (c :: l) p ws b n= .inl x→p≤x∧x < p+(c :: l).length)∧(∀ws',scan (c :: l) p ws b n= .inr ws'→okW 0 ws' (p+(c :: l).length)):=by
   intro ws2 b2 n2 e h2 hb2
   rw [e,List.length_cons]
   obtain⟨i1,i2⟩:=ih (p+1) ws2 b2 n2 h2 hb2
   refine⟨fun x hx=> ?_,fun ws' hx=> ?_⟩
   ·have:=i1 x hx;omega
   ·have:=i2 ws' hx;rw [show p+(l.length+1)=p+1+l.length by omega];exact this
  have hs:=okW_shut ws b p h hb
  cases n with
  |true=>
   refine step ws b _ (scan_note c l p ws b) ?_ (fun q hq=>by have:=hb q hq;omega)
   cases b with
   |none=>exact okW_mono ws 0 p (p+1) h (by omega)
   |some q=>exact h
  |false=>
   cases ht:togB c.toNat with
   |true=>
    refine step ws (some (b.getD p)) false (scan_tog l p ws b ht) h (fun q hq=> ?_)
    have e:=Option.some.inj hq
    cases b with
    |none=>simp at e;omega
    |some r=>simp at e;have:=hb r rfl;omega
   |false=>
    cases h2:aloB c.toNat with
    |true=>exact step _ none false (scan_alo l p ws b ht h2) (okW_snoc _ 0 p (p+1) (p+1) hs (by omega) (Nat.le_refl _)) (fun q hq=>by cases hq)
    |false=>
     by_cases h3:(c.toNat:Int)=35
     ·exact step _ none true (scan_hash l p ws b ht h2 h3) (okW_mono _ 0 p (p+1) hs (by omega)) (fun q hq=>by cases hq)
     ·cases h4:blaB c.toNat with
      |true=>exact step _ none false (scan_bla l p ws b ht h2 h3 h4) (okW_mono _ 0 p (p+1) hs (by omega)) (fun q hq=>by cases hq)
      |false=>
       rw [scan_err l p ws b ht h2 h3 h4]
       exact⟨fun x hx=>by have:=Sum.inl.inj hx;simp only [List.length_cons];omega,fun ws' hx=>by cases hx⟩
def joinL:List (List UInt8)→List UInt8
 |[]=> []
 |x :: r=>x ++ r.flatMap fun y=>32 :: y
def wordOk (x:List UInt8):Prop:=(∃c:UInt8,x= [c]∧togB c.toNat=false∧aloB c.toNat=true)∨(x≠ []∧∀c∈x,togB (UInt8.toNat c)=true)
def cut (L:List UInt8) (x:Nat × Nat):List UInt8:=(L.drop x.1).take (x.2 - x.1)
def goodW (L:List UInt8) (x:Nat × Nat):Prop:=(x.2=x.1+1∧∃c,L[x.1]? =some c∧togB c.toNat=false∧aloB c.toNat=true)∨(x.1 < x.2∧∀j,x.1≤j→j < x.2→∃c,L[j]? =some c∧togB c.toNat=true)
theorem good_ok {L:List UInt8} {x:Nat × Nat} (h:goodW L x):wordOk (cut L x):=by
 rcases h with ⟨e,c,hc,h1,h2⟩ | ⟨hlt,h⟩
 ·refine .inl ⟨c,?_,h1,h2⟩
  obtain⟨hl,rfl⟩:=List.getElem?_eq_some_iff.1 hc
  rw [cut,e,Nat.add_sub_cancel_left,List.drop_eq_getElem_cons hl]
  rfl
 ·refine .inr ⟨?_,fun c hc=> ?_⟩
  ·obtain⟨c,hc,_⟩:=h x.1 (Nat.le_refl _) hlt
   obtain⟨hl,rfl⟩:=List.getElem?_eq_some_iff.1 hc
   intro e
   have:=congrArg List.length e
   simp [cut] at this
   omega
  ·obtain⟨j,hj,rfl⟩:=List.getElem_of_mem hc
   have hj2:j < x.2 - x.1:=by simp [cut] at hj;omega
   obtain⟨c,hc2,h3⟩:=h (x.1+j) (by omega) (by omega)
   obtain⟨hl,rfl⟩:=List.getElem?_eq_some_iff.1 hc2
   simp only [cut,List.getElem_take,List.getElem_drop]
   exact h3
theorem good_shut {L:List UInt8} {ws:List (Nat × Nat)} {b:Option Nat} {p:Nat} (h:∀x∈ws,goodW L x) (hb:∀q,b=some q→q < p∧∀j,q≤j→j < p→∃c,L[j]? =some c∧togB c.toNat=true):∀x∈shutW ws b p,goodW L x:=by
 cases b with
 |none=>exact h
 |some q=>
  intro x hx
  simp only [shutW,List.mem_append,List.mem_singleton] at hx
  rcases hx with hx | rfl
  ·exact h x hx
  ·exact .inr (hb q rfl)
theorem scan_good (L:List UInt8) (l:List UInt8):∀(p:Nat) (ws:List (Nat × Nat)) (b:Option Nat) (n:Bool),L.drop p=l→(∀x∈ws,goodW L x)→
  (∀q,b=some q→q < p∧∀j,q≤j→j < p→∃c,L[j]? =some c∧togB c.toNat=true)→(n=true→b=none)→∀ws',scan l p ws b n= .inr ws'→∀x∈ws',goodW L x:=by
 induction l with
 |nil=>
  intro p ws b n _ h hb _ ws' hx
  rw [scan] at hx
  rw [←Sum.inr.inj hx]
  exact good_shut h hb
 |cons c l ih=>
  intro p ws b n hd h hb hn ws' hx
  have hd2:L.drop (p+1)=l:=by rw [←List.drop_drop,hd];rfl
  have hc:L[p]? =some c:=by
   have:=congrArg (fun k=>k[0]?) hd
   simpa using this
  have hs:=good_shut h hb
  have nob:∀q,(none:Option Nat)=some q→q < p+1∧∀j,q≤j→j < p+1→∃c,L[j]? =some c∧togB c.toNat=true:=fun q hq=>by cases hq
  cases n with
  |true=>
   have hb0:=hn rfl
   subst hb0
   rw [scan_note] at hx
   exact ih (p+1) ws none _ hd2 h nob (fun _=>rfl) ws' hx
  |false=>
   cases ht:togB c.toNat with
   |true=>
    rw [scan_tog l p ws b ht] at hx
    refine ih (p+1) ws _ false hd2 h (fun q hq=> ?_) (fun k=>by cases k) ws' hx
    have e:=Option.some.inj hq
    cases b with
    |none=>
     simp only [Option.getD_none] at e
     subst e
     refine⟨by omega,fun j h1 h2=> ?_⟩
     have:j=p:=by omega
     subst this
     exact⟨c,hc,ht⟩
    |some r=>
     simp only [Option.getD_some] at e
     subst e
     obtain⟨g1,g2⟩:=hb r rfl
     refine⟨by omega,fun j h1 h2=> ?_⟩
     by_cases hj:j < p
     ·exact g2 j h1 hj
     ·have:j=p:=by omega
      subst this
      exact⟨c,hc,ht⟩
   |false=>
    cases h2:aloB c.toNat with
    |true=>
     rw [scan_alo l p ws b ht h2] at hx
     refine ih (p+1) _ none false hd2 (fun x hx2=> ?_) nob (fun _=>rfl) ws' hx
     simp only [List.mem_append,List.mem_singleton] at hx2
     rcases hx2 with hx2 | rfl
     ·exact hs x hx2
     ·exact .inl ⟨rfl,c,hc,ht,h2⟩
    |false=>
     by_cases h3:(c.toNat:Int)=35
     ·rw [scan_hash l p ws b ht h2 h3] at hx
      exact ih (p+1) _ none true hd2 hs nob (fun _=>rfl) ws' hx
     ·cases h4:blaB c.toNat with
      |true=>
       rw [scan_bla l p ws b ht h2 h3 h4] at hx
       exact ih (p+1) _ none false hd2 hs nob (fun _=>rfl) ws' hx
      |false=>
       rw [scan_err l p ws b ht h2 h3 h4] at hx
       cases hx
theorem words_ok {s:ByteArray} {ws:List (Nat × Nat)} (h:words s= .inr ws):okW 0 ws s.size∧∀x∈ws,wordOk (cut s.data.toList x):=by
 refine⟨?_,fun x hx=>good_ok (scan_good s.data.toList _ 0 [] none false rfl (fun _ k=>by cases k) (fun _ k=>by cases k) (fun _=>rfl) ws h x hx)⟩
 have:=(scan_stands s.data.toList 0 [] none false (Nat.le_refl 0) (fun _ k=>by cases k)).2 ws h
 rw [blen,Nat.zero_add] at this
 exact this
theorem join_len (L:List UInt8) (ws:List (Nat × Nat)):∀lo hi,okW lo ws hi→(joinL (ws.map (cut L))).length+lo≤hi+ws.length∧ws.length+lo≤hi:=by
 have tail:∀(ws:List (Nat × Nat)) lo hi,okW lo ws hi→((ws.map (cut L)).flatMap fun y=>32 :: y).length+lo≤hi+ws.length∧ws.length+lo≤hi:=by
  intro ws
  induction ws with
  |nil=>intro lo hi h;simp;exact h
  |cons x r ih=>
   intro lo hi h
   have h1:=h.1;have h2:=h.2.1
   obtain⟨i1,i2⟩:=ih _ _ h.2.2
   have hc:(cut L x).length≤x.2 - x.1:=by simp [cut];omega
   simp only [List.map_cons,List.flatMap_cons,List.length_append,List.length_cons]
   omega
 intro lo hi h
 cases ws with
 |nil=>simp [joinL];exact h
 |cons x r=>
  have h1:=h.1;have h2:=h.2.1
  obtain⟨i1,i2⟩:=tail r _ _ h.2.2
  have hc:(cut L x).length≤x.2 - x.1:=by simp [cut];omega
  simp only [List.map_cons,joinL,List.length_append,List.length_cons]
  omega
end Go.Proofs.YtljkgcfnoegibaaGreatDoor.L2
namespace Go.Proofs.YtljkgcfnoegibaaGreatDoor
open Go Go.RowKit
open G (Tok Er Ins Fun peek0 peek1 atOf)
def toks (s:ByteArray) (ws:List (Nat × Nat)):List Tok:=ws.map fun q=>((s.extract q.1 q.2).data.toList,(q.1:Int))
theorem toks_cells (s:ByteArray) (ws:List (Nat × Nat)):L2.cellsT (ws.map (L2.tok s))=cellsK (toks s ws):=by
 induction ws with
 |nil=>rfl
 |cons q r ih=>
  show Value.string (s.extract q.1 q.2) :: Value.int .i64 (q.1:Int) :: L2.cellsT (r.map (L2.tok s))=Value.string (bs (s.extract q.1 q.2).data.toList) :: Value.int .i64 (q.1:Int) :: cellsK (toks s r)
  rw [bs_of,ih]
def textG (s:ByteArray):Except Er (List Fun):=
 match L2.words s with
 |.inl x=> .error (1,(x:Int))
 |.inr ws=>match progG (s.size:Int) (toks s ws)with
  |.ok ((xs,_),_)=> .ok xs
  |.error er=> .error er
theorem toks_short {s:ByteArray} {ws:List (Nat × Nat)} (h:L2.words s= .inr ws) (hs:s.size≤65536):(toks s ws).length≤131072∧∀t∈toks s ws,t.1.length≤65536:=by
 have hok:=(L2.words_ok h).1
 have hl:=(L2.join_len s.data.toList ws 0 s.size hok).2
 refine⟨by simp [toks];omega,fun t ht=> ?_⟩
 simp only [toks,List.mem_map] at ht
 obtain⟨q,_,rfl⟩:=ht
 show(s.extract q.1 q.2).data.toList.length≤65536
 rw [ext_list]
 have:s.data.toList.length=s.size:=by simp
 simp
 omega
open G (Tok Er Ins Fun)
def dec0:DecidableEq (List UInt8 × Int):=instDecidableEqProd
def dec1:DecidableEq (List Int × List UInt8 × Int):= @instDecidableEqProd _ _ _ dec0
def dec2:DecidableEq (List Int × List Int × List UInt8 × Int):= @instDecidableEqProd _ _ _ dec1
def dec3:DecidableEq (Int × List Int × List Int × List UInt8 × Int):= @instDecidableEqProd _ _ _ dec2
def dec4:DecidableEq (Int × Int × List Int × List Int × List UInt8 × Int):= @instDecidableEqProd _ _ _ dec3
def dec5:DecidableEq (Int × Int × Int × List Int × List Int × List UInt8 × Int):= @instDecidableEqProd _ _ _ dec4
def dec6:DecidableEq Ins:= @instDecidableEqProd _ _ _ dec5
def dec7:DecidableEq (List Ins):= @instDecidableEqList _ dec6
def dec8:DecidableEq (List (List Ins)):= @instDecidableEqList _ dec7
def dec9:DecidableEq (List (List Ins) × Int):= @instDecidableEqProd _ _ dec8 _
def decA:DecidableEq (Int × List (List Ins) × Int):= @instDecidableEqProd _ _ _ dec9
def decB:DecidableEq (List Int × Int × List (List Ins) × Int):= @instDecidableEqProd _ _ _ decA
def decC:DecidableEq Fun:= @instDecidableEqProd _ _ _ decB
def decD:DecidableEq (List Fun):= @instDecidableEqList _ decC
def same (r:Except Er (List Fun)) (q:Except Er (List Fun)):Bool:=match r,q with
 |.ok xs,.ok ys=> @decide (xs=ys) (decD xs ys)
 |.error x,.error y=>decide (x=y)
 |_,_=>false
theorem own_view {w:World} {B e s n:Nat} {v:Value} {xs:List Value} (h:w.ownsRow B e s v n xs):(v= .slice none 0 0∧n=0)∨∃g cap,v= .slice (some ⟨g,0,none⟩) n cap∧n≤cap∧cap≤maxLen∧B≤g∧g < w.heap.size∧(∀j u,xs[j]? =some u→w.cell? ⟨g,j,none⟩=some u)∧∀j,w.frozen? ⟨g,j,none⟩=false:=by
 rcases h.2 with ⟨hv,hn⟩ | ⟨g,cap,cur,hv2,hbb,hg,hc1,hc2,hc3,hc4⟩
 ·exact .inl ⟨hv,hn⟩
 ·refine .inr ⟨g,cap,hv2,hc1,hc2,hbb,(Array.getElem?_eq_some_iff.1 hg).1,fun j u hj=> ?_,fun j=>by simp [World.frozen?,hg]⟩
  have:=h.cells (g:=g) (by rw [hv2];rfl) j u hj
  rwa [Addr.add_lit,Nat.zero_add] at this
theorem FRow.at {B:Nat} {w:World}:∀(l:List Fun) (cs:List Value) (i:Nat) (x:Fun),FRow B w l cs→l[i]? =some x→∃vp vb,(∀j u,(funCells x vp vb)[j]? =some u→cs[i * 5+j]? =some u)∧w.ownsRow B 3 1 vp x.2.1.length (ints x.2.1)∧BlksVal B x.2.2.2.1 vb w:=by
 intro l
 induction l with
 |nil=>intro cs i x _ h;simp at h
 |cons y r ih=>
  rintro cs i x ⟨vp,vb,rest,rfl,h1,h2,h3⟩ hi
  cases i with
  |zero=>
   simp at hi;subst hi
   refine⟨vp,vb,fun j u hj=> ?_,h1,h2⟩
   have hl:j < (funCells y vp vb).length:=(List.getElem?_eq_some_iff.1 hj).1
   rw [show 0 * 5+j=j by omega,List.getElem?_append_left hl];exact hj
  |succ i=>
   obtain⟨up,ub,k1,k2,k3⟩:=ih rest i x h3 (by simpa using hi)
   refine⟨up,ub,fun j u hj=> ?_,k2,k3⟩
   have hl:(funCells y vp vb).length=5:=rfl
   rw [List.getElem?_append_right (by rw [hl];omega),hl,show(i+1) * 5+j - 5=i * 5+j by omega]
   exact k1 j u hj
theorem InsRow.at {B:Nat} {w:World}:∀(l:List Ins) (cs:List Value) (i:Nat) (x:Ins),InsRow B w l cs→l[i]? =some x→∃va vt,(∀j u,(insCells x va vt)[j]? =some u→cs[i * 8+j]? =some u)∧w.ownsRow B 3 1 va x.2.2.2.2.1.length (ints x.2.2.2.2.1)∧w.ownsRow B 3 1 vt x.2.2.2.2.2.1.length (ints x.2.2.2.2.2.1):=by
 intro l
 induction l with
 |nil=>intro cs i x _ h;simp at h
 |cons y r ih=>
  rintro cs i x ⟨vp,vb,rest,rfl,h1,h2,h3⟩ hi
  cases i with
  |zero=>
   simp at hi;subst hi
   refine⟨vp,vb,fun j u hj=> ?_,h1,h2⟩
   have hl:j < (insCells y vp vb).length:=(List.getElem?_eq_some_iff.1 hj).1
   rw [show 0 * 8+j=j by omega,List.getElem?_append_left hl];exact hj
  |succ i=>
   obtain⟨up,ub,k1,k2,k3⟩:=ih rest i x h3 (by simpa using hi)
   refine⟨up,ub,fun j u hj=> ?_,k2,k3⟩
   have hl:(insCells y vp vb).length=8:=rfl
   rw [List.getElem?_append_right (by rw [hl];omega),hl,show(i+1) * 8+j - 8=i * 8+j by omega]
   exact k1 j u hj
theorem BRow.at {B:Nat} {w:World}:∀(l:List (List Ins)) (vs:List Value) (i:Nat) (b:List Ins),BRow B w l vs→l[i]? =some b→∃v,vs[i]? =some v∧BlkVal B b v w:=by
 intro l
 induction l with
 |nil=>intro cs i x _ h;simp at h
 |cons y r ih=>
  rintro cs i x ⟨v,rest,rfl,h1,h2⟩ hi
  cases i with
  |zero=>simp at hi;subst hi;exact⟨v,by simp,h1⟩
  |succ i=>
   obtain⟨u,k1,k2⟩:=ih rest i x h2 (by simpa using hi)
   exact⟨u,by simpa using k1,k2⟩
def wI (x:Ins):Nat:=1+x.2.2.2.2.1.length / 4+x.2.2.2.2.2.1.length / 4+x.2.2.2.2.2.2.1.length / 30
def wB (b:List Ins):Nat:=(b.map wI).sum
def wBs (l:List (List Ins)):Nat:=(l.map wB).sum
def wF0 (f:Fun):Nat:=f.2.2.2.1.length+f.2.1.length+f.1.length / 30
def wF (f:Fun):Nat:=wF0 f+wBs f.2.2.2.1
def wFs (p:List Fun):Nat:=(p.map wF).sum
def total (p:List Fun):Nat:=p.length+wFs p
def ShI (x:Ins):Prop:=x.2.2.2.2.1.length≤140737488355328∧x.2.2.2.2.2.1.length≤140737488355328∧x.2.2.2.2.2.2.1.length≤140737488355328
def ShF (f:Fun):Prop:=f.1.length≤140737488355328∧f.2.1.length≤140737488355328∧f.2.2.2.1.length≤140737488355328∧∀b∈f.2.2.2.1,∀x∈b,ShI x
theorem sum_take {α:Type} (g:α→Nat) (l:List α) (j:Nat) (x:α) (h:l[j]? =some x):((l.take (j+1)).map g).sum=((l.take j).map g).sum+g x:=by
 rw [List.take_add_one,h];simp
theorem sum_le {α:Type} (g:α→Nat) (l:List α) (j:Nat):((l.take j).map g).sum≤(l.map g).sum:=by
 have:(l.map g).sum=((l.take j).map g).sum+((l.drop j).map g).sum:=by rw [←List.sum_append,←List.map_append,List.take_append_drop]
 omega
theorem ints_at {l:List Int} {i:Nat} {n:Int} (h:l[i]? =some n):(ints l)[i]? =some (.int .i64 n):=by
 show(l.map _)[i]? =_
 rw [List.getElem?_map,h];rfl
theorem ints_of {B:Nat} {w:World} {l:List Int} {v:Value} (h:w.ownsRow B 3 1 v l.length (ints l)):IntsV w l v:=by
 rcases own_view h with ⟨rfl,hn⟩ | ⟨g,cap,rfl,h1,h2,h3,h4,h5,h6⟩
 ·have e:l= []:=List.length_eq_zero_iff.1 hn
  subst e
  exact⟨none,0,rfl,.inl rfl,Nat.le_refl _,Nat.zero_le _⟩
 ·exact⟨some ⟨g,0,none⟩,cap,rfl,.inr ⟨g,0,rfl,h4,fun i n hi=>by rw [Nat.zero_add];exact h5 i _ (ints_at hi)⟩,h1,h2⟩
theorem blk_of {B:Nat} {w:World} {l:List Ins} {v:Value} (h:BlkVal B l v w):BlkR w l v:=by
 obtain⟨cs,h0,hR⟩:=h
 rcases own_view h0 with ⟨rfl,hn⟩ | ⟨g,cap,rfl,h1,h2,h3,h4,h5,h6⟩
 ·have e:l= []:=List.length_eq_zero_iff.1 hn
  subst e
  exact⟨none,0,rfl,Nat.le_refl _,Nat.zero_le _,.inl rfl⟩
 ·refine⟨some ⟨g,0,none⟩,cap,rfl,h1,h2,.inr ⟨g,0,rfl,fun i x hi=> ?_⟩⟩
  obtain⟨va,vt,k1,k2,k3⟩:=InsRow.at _ _ i x hR hi
  exact⟨h4,va,vt,fun j t hj=>by rw [Nat.zero_add];exact h5 _ _ (k1 j t hj),ints_of k2,ints_of k3⟩
theorem blks_of {B:Nat} {w:World} {l:List (List Ins)} {v:Value} (h:BlksVal B l v w):BlksR w l v:=by
 obtain⟨cs,h0,hR⟩:=h
 rcases own_view h0 with ⟨rfl,hn⟩ | ⟨g,cap,rfl,h1,h2,h3,h4,h5,h6⟩
 ·have e:l= []:=List.length_eq_zero_iff.1 hn
  subst e
  exact⟨none,0,rfl,Nat.le_refl _,Nat.zero_le _,.inl rfl⟩
 ·refine⟨some ⟨g,0,none⟩,cap,rfl,h1,h2,.inr ⟨g,0,rfl,h4,fun i b hi=> ?_⟩⟩
  obtain⟨u,k1,k2⟩:=BRow.at _ _ i b hR hi
  exact⟨u,by rw [Nat.zero_add];exact h5 _ _ k1,blk_of k2⟩
theorem prog_of {B:Nat} {w:World} {l:List Fun} {v:Value} (h:ProgVal B l v w):ProgR w l v:=by
 obtain⟨cs,h0,hR⟩:=h
 rcases own_view h0 with ⟨rfl,hn⟩ | ⟨g,cap,rfl,h1,h2,h3,h4,h5,h6⟩
 ·have e:l= []:=List.length_eq_zero_iff.1 hn
  subst e
  exact⟨none,0,rfl,Nat.le_refl _,Nat.zero_le _,.inl rfl⟩
 ·refine⟨some ⟨g,0,none⟩,cap,rfl,h1,h2,.inr ⟨g,0,rfl,fun i x hi=> ?_⟩⟩
  obtain⟨vp,vb,k1,k2,k3⟩:=FRow.at _ _ i x hR hi
  exact⟨h4,vp,vb,fun j t hj=>by rw [Nat.zero_add];exact h5 _ _ (k1 j t hj),ints_of k2,blks_of k3⟩
end Go.Proofs.YtljkgcfnoegibaaGreatDoor
namespace Go.Proofs.YtljkgcfnoegibaaGreatDoor.G
def noI (x:Ins):Ins:=(x.1,x.2.1,x.2.2.1,x.2.2.2.1,x.2.2.2.2.1,x.2.2.2.2.2.1,x.2.2.2.2.2.2.1,0)
def noB (b:List Ins):List Ins:=b.map noI
def noF (f:Fun):Fun:=(f.1,f.2.1,f.2.2.1,f.2.2.2.1.map noB,0)
section
variable (dig:Int→List UInt8) (iw:Int→Int→List UInt8) (mks:Int→Int→Int)
variable (ltr:Int→List UInt8)
end
section
variable (nam:List UInt8→Bool) (shp:List UInt8→Int) (tks:Int→Nat)
variable (good:Int→Int→Bool) (mks:Int→Int→Int)
end
section
variable {E:Int} {num:List UInt8→Int × Int} {idx:List UInt8→Int→Option Int} {nam:List UInt8→Bool} {shp:List UInt8→Int} {tks:Int→Nat} {fnd:List UInt8→Int × Int} {mks:Int→Int→Int} {prt:Nat→List UInt8→Bool}
variable {dig:Int→List UInt8} {iw:Int→Int→List UInt8} {good:Int→Int→Bool} {ltr:Int→List UInt8}
end
end Go.Proofs.YtljkgcfnoegibaaGreatDoor.G
namespace Go.Proofs.YtljkgcfnoegibaaGreatDoor
open Go Go.RowKit
open G (Tok Er Ins Fun)
def hasL (l:List Int) (n:Int):Bool:=l.any fun m=>decide (m=n)
theorem hasL_snoc (l:List Int) (m n:Int):hasL (l ++ [m]) n=(hasL l n || decide (m=n)):=by simp [hasL]
theorem hasL_mem {l:List Int} {n:Int}:hasL l n=true↔n∈l:=by simp [hasL]
theorem hasL_at {l:List Int} {k:Nat} {n:Int} (h:l[k]? =some n):hasL l n=true:=hasL_mem.2 (List.mem_of_getElem? h)
theorem take_more {α:Type} {l:List α} {k:Nat} {n:α} (h:l[k]? =some n):l.take (k+1)=l.take k ++ [n]:=by rw [List.take_add_one,h];rfl
theorem rhas_any (l:List Int) (n:Int) (ao:Option Addr) (c:Nat) (w:World) (hs:Sl w ao l) (hl:l.length≤maxLen):
  Calls Tryz.prog 17 #[.slice ao l.length c,.int .i64 n] w fun e w'=>e= .returned (.bool (hasL l n))∧w'=w:=by
 unfold maxLen at hl
 have HS:=hide hs
 clear hs
 go_enter Tryz.func17,Tryz.ntmps17
 go_wp2
 go_loopw [5] (fun i wr=>∃k:Nat,k≤l.length∧i= .int .i64 k∧wr=w∧Hid (hasL (l.take k) n=false)) (fun i _=>l.length - (intOf i).toNat)
 case atStart=>exact⟨0,Nat.zero_le _,rfl,rfl,hide rfl⟩
 case round=>
  obtain⟨k,hk,rfl,hw,HF⟩:=hrel
  subst hw
  by_cases hlt:k < l.length
  ·obtain⟨m,hm⟩:∃m,l[k]? =some m:=⟨l[k],List.getElem?_eq_getElem hlt⟩
   rcases HS.out with he | ⟨a,oa,rfl,hal,ha⟩
   ·subst he;simp at hlt
   have c1:=ha k m hm
   by_cases he:m=n
   ·have HE:Hid (true=hasL l n):=hide (by subst he;exact(hasL_at hm).symm)
    have he':(m == n)=true:=by simpa using he
    clear ha hm he
    go_wp2_with fail
    go_ret
    exact⟨L5.ret_bool HE.out,rfl⟩
   ·have HE:Hid (hasL (l.take (k+1)) n=false):=hide (by rw [take_more hm,hasL_snoc,HF.out];simp [he])
    have he':(m == n)=false:=by simpa using he
    clear ha hm he
    go_wp2_with fail
    go_roundw
    case rel=>exact⟨k+1,by omega,by go_num,trivial,HE⟩
    case measure=>simp [intOf];omega
  ·obtain rfl:k=l.length:=by omega
   have HE:Hid (false=hasL l n):=hide (by have:=HF.out;rw [List.take_length] at this;exact this.symm)
   go_wp2_with fail
   go_ret
   exact⟨L5.ret_bool HE.out,rfl⟩
def Grw (w:World) (l:List Int) (v:Value) (wr:World):Prop:=wr.ownsRow w.heap.size 3 1 v l.length (ints l)∧Below w.heap.size w wr
theorem Grw.start (w:World):Grw w [] (.slice none 0 0) w:=⟨World.ownsRow_nil _ _ _ _,Below.refl _ _⟩
theorem Grw.step {w wr w2:World} {l:List Int} {v v':Value} {x:Int} {o:Obj} (h:Grw w l v wr) (own:w2.ownsRow w.heap.size 3 1 v' (l.length+1) (ints l ++ [.int .i64 x])) (hg:(wr.alloc o).grownBy w2 v.ownBlock):Grw w (l ++ [x]) v' w2:=by
 refine⟨by simpa [ints] using own,?_⟩
 refine Below.grown (h.2.alloc h.2.size o) hg (by simp;have:=h.2.size;omega) ?_
 intro k hk
 exact(h.1.lt k hk).1
theorem Grw.slice {w wr:World} {l:List Int} {v:Value} (h:Grw w l v wr):∃ao c,v= .slice ao l.length c∧Sl wr ao l∧l.length≤maxLen:=by
 obtain⟨ao,c,rfl,h1,h2,h3⟩:=ints_of h.1
 exact⟨ao,c,rfl,h1,Nat.le_trans h2 h3⟩
def addL (acc:List Int) (n:Int):List Int:=if hasL acc n then acc else acc ++ [n]
theorem addL_yes {acc:List Int} {n:Int} (h:hasL acc n=true):addL acc n=acc:=by unfold addL;rw [if_pos h]
theorem addL_no {acc:List Int} {n:Int} (h:hasL acc n=false):addL acc n=acc ++ [n]:=by unfold addL;rw [if_neg (by simp [h])]
theorem addL_len (acc:List Int) (n:Int):(addL acc n).length≤acc.length+1:=by
 unfold addL
 split
 ·omega
 ·simp
def onceL (l:List Int):List Int:=l.foldl addL []
theorem onceL_take {l:List Int} {k:Nat} {n:Int} (h:l[k]? =some n):onceL (l.take (k+1))=addL (onceL (l.take k)) n:=by
 rw [take_more h];simp [onceL]
theorem onceL_len (l:List Int):(onceL l).length≤l.length:=by
 have key:∀(l acc:List Int),(l.foldl addL acc).length≤acc.length+l.length:=by
  intro l
  induction l with
  |nil=>intro acc;simp
  |cons n l ih=>
   intro acc
   rw [List.foldl_cons,List.length_cons]
   have h1:=ih (addL acc n)
   have h2:=addL_len acc n
   omega
 simpa [onceL] using key l []
theorem next_try (nm:List UInt8) (ps:List Int) (rt pl:Int) (bl:List (List Ins)) (ao bo:Option Addr) (c cb:Nat) (k:Nat) (b:List Ins) (op id nn ty pp:Int) (ar tt:List Int) (na:List UInt8) (w:World)
  (hb:BlksR w bl (.slice bo bl.length cb)) (hk:bl[k]? =some b) (hx:b[b.length - 1]? =some (op,id,nn,ty,ar,tt,na,pp)) (h63:tt.length≤1000000):
  Calls Tryz.prog 19 #[.agg #[.string (bs nm),.slice ao ps.length c,.int .i64 rt,.slice bo bl.length cb,.int .i64 pl],.int .i64 k] w fun e w'=>∃v,e= .returned v∧w'.ownsRow w.heap.size 3 1 v (onceL tt).length (ints (onceL tt))∧Below w.heap.size w w':=by
 obtain⟨i0,hi0,hz0,hz1,hz2⟩:=info_parts Tryz.info3
 have b0:=below_box w (.cells #[.string (bs nm),.slice ao ps.length c,.int .i64 rt,.slice bo bl.length cb,.int .i64 pl] 36)
 have X0:=hide (L5.Box.new w [.string (bs nm),.slice ao ps.length c,.int .i64 rt,.slice bo bl.length cb,.int .i64 pl] 36)
 have HB:=hide (hb.below b0)
 have B0:=hide b0
 clear b0 hb
 go_enter Tryz.func19,Tryz.ntmps19
 go_upto_region 1 with fail
 show Code.wp _ _ _ _ (w.alloc (.cells #[.string (bs nm),.slice ao ps.length c,.int .i64 rt,.slice bo bl.length cb,.int .i64 pl] 36))
 replace X0:Hid (L5.Box (w.alloc (.cells #[.string (bs nm),.slice ao ps.length c,.int .i64 rt,.slice bo bl.length cb,.int .i64 pl] 36)) w.heap.size [.string (bs nm),.slice ao ps.length c,.int .i64 rt,.slice bo bl.length cb,.int .i64 pl]):=X0
 generalize w.alloc (.cells #[.string (bs nm),.slice ao ps.length c,.int .i64 rt,.slice bo bl.length cb,.int .i64 pl] 36)=W at *
 obtain⟨_,_,e0,l1,l2,h2⟩:=HB.out
 injection e0 with e1 e2 e3
 subst e1 e3
 clear e2
 have hkt:k < bl.length:=(List.getElem?_eq_some_iff.1 hk).1
 have hkI:(k:Int) < bl.length:=by omega
 rcases h2 with h2 | ⟨gc,oc,rfl,gk,h2⟩
 ·subst h2;simp at hkt
 obtain⟨vk,kd,aok,capk,rfl,m1,m2,kk⟩:=h2 k b hk
 have hjt:b.length - 1 < b.length:=(List.getElem?_eq_some_iff.1 hx).1
 rcases kk with kk | ⟨gi,oi,rfl,kk⟩
 ·subst kk;simp at hjt
 obtain⟨ai,ti,ca,ct,hv,r0,r1,r2,r3,r4,r5,r6,r7⟩:=(kk (b.length - 1) _ hx).val
 dsimp only at hv r0 r1 r2 r3 r4 r5 r6 r7
 have HSt:Hid (Sl W ti tt):=hide (by
  obtain⟨a1,t1,c1,c2,e,s1,s2,_⟩:=hv
  injection e with e
  have e2:=congrArg (fun a=>a[5]?) e
  simp at e2
  rw [e2.1];exact s2)
 obtain⟨J,hJ⟩:∃J,J=b.length - 1:=⟨_,rfl⟩
 rw [←hJ] at r0 r1 r2 r3 r4 r5 r6 r7
 have hJI:(b.length:Int) - 1=(J:Int):=by omega
 have hJl:(J:Int) < b.length:=by omega
 unfold maxLen at m2 l2
 have hgi:gi < W.heap.size:=(kk (b.length - 1) _ hx).1
 have x3:=fun x=>(L5.grew_box X0.out x).2 3 _ rfl
 have kd':=fun x=>((L5.grewTo_below W x).cell (p:=⟨gc,oc+k,none⟩) gk).trans kd
 have r5':=fun x=>((L5.grewTo_below W x).cell (p:=⟨gi,oi+J * 8+5,none⟩) hgi).trans r5
 have hwr:IntKind.i64.wrap ((b.length:Int) - 1)=(J:Int):=by
  rw [hJI];exact IntWalk.i64_in _ ⟨by omega,by omega⟩
 clear hv kk h2 hx hk r0 r1 r2 r3 r4 r5 r6 r7 kd hJ
 go_wp2_with fail
 refine L5.region_grew (by kernel_rfl) (by kernel_rfl) ?_
 repeat (go_big_quiet_step (fail))
 refine wpQuiet_nil ?_
 rintro _ ⟨x,rfl⟩
 clear x3 kd' r5'
 have HX:=hide (L5.grewTo_below W x)
 obtain⟨w8,hw8⟩:∃w8:World,w8=L5.grewTo W x:=⟨_,rfl⟩
 rw [←hw8] at HX ⊢
 clear hw8
 go_wp2_with fail
 go_loopw [5,7] (fun v i wr=>∃I:Nat,I≤tt.length∧i= .int .i64 I∧Hid (Grw W (onceL (tt.take I)) v wr)) (fun _ i _=>tt.length - (intOf i).toNat)
 case atStart=>exact⟨0,Nat.zero_le _,rfl,hide ⟨World.ownsRow_nil _ _ _ _,HX.out⟩⟩
 case round=>
  obtain⟨I,hI,rfl,HG⟩:=hrel
  by_cases hit:I < tt.length
  ·have hiI:(I:Int) < tt.length:=by omega
   obtain⟨n,hn⟩:∃n,tt[I]? =some n:=⟨tt[I],List.getElem?_eq_getElem hit⟩
   rcases HSt.out with he | ⟨gt,ot,rfl,gtl,ht⟩
   ·subst he;simp at hit
   have c1:=(HG.out.2.cell (p:=⟨gt,ot+I,none⟩) gtl).trans (ht I n hn)
   obtain⟨vo,vc,rfl,vs,vl⟩:=HG.out.slice
   have HV:=hide vs
   have HN:=hide (onceL_take hn)
   have hlen:=onceL_len (tt.take I)
   rw [List.length_take] at hlen
   generalize onceL (tt.take I)=acc at *
   clear ht hn vs
   go_wp2_with fail
   refine(rhas_any acc n vo vc wr HV.out vl).mono ?_;rintro e w1 ⟨rfl,hw1⟩
   rw [hw1]
   clear hw1
   cases hh:hasL acc n with
   |true=>
    have HE:Hid (Grw W (onceL (tt.take (I+1))) (.slice vo acc.length vc) wr):=hide (by rw [HN.out,addL_yes hh];exact HG.out)
    replace hh:=hide hh
    go_wp2_with fail
    go_roundw
    case rel=>exact⟨I+1,by omega,by go_num,HE⟩
    case measure=>simp [intOf];omega
   |false=>
    have HA:=hide (HN.out.trans (addL_no hh))
    replace hh:=hide hh
    have hWs:=HG.out.2.size
    go_wp2_with (at_builtin;refine wpList_append_own _ rfl (.tmp 36) (.tmp 41) 33 rfl W.heap.size 3 i0 _ 1 8 Tryz.underlying33 hi0 hz0 hz1 hz2 rfl (by decide) _ _ _ rfl (HG.out.1.alloc _) ⟨wr.heap.size,0,none⟩ 1 1 [.int .i64 n] rfl rfl one_cell one_one (by unfold maxLen;omega) (by omega) (by simp;omega) ?_;intro v2 w2 own2 grow2 _)
    have HE:Hid (Grw W (onceL (tt.take (I+1))) v2 w2):=hide (by rw [HA.out];exact HG.out.step own2 grow2)
    clear own2 grow2
    go_wp2_with fail
    go_roundw
    case rel=>exact⟨I+1,by omega,by go_num,HE⟩
    case measure=>simp [intOf];omega
  ·obtain rfl:I=tt.length:=by omega
   have HE:Hid (Grw W (onceL tt) _ wr):=hide (by have:=HG.out;rwa [List.take_length] at this)
   have HF:=hide (own_base HE.out.1 B0.out.size)
   go_wp2_with fail
   go_ret
   exact⟨_,rfl,HF.out,below_step B0.out HE.out.2⟩
def lastTo (b:List Ins):List Int:=match b[b.length - 1]? with
 |some x=>x.2.2.2.2.2.1
 |none=> []
def nextF (f:Fun) (k:Nat):List Int:=onceL (lastTo (f.2.2.2.1.getD k []))
def succsF (f:Fun):List (List Int):=f.2.2.2.1.map fun b=>onceL (lastTo b)
def Ful (f:Fun):Prop:=f.2.2.2.1.length≤1000000∧∀b∈f.2.2.2.1,b≠ []∧∀x∈b,x.2.2.2.2.2.1.length≤1000000
theorem nextF_at {f:Fun} {k:Nat} {b:List Ins} (h:f.2.2.2.1[k]? =some b):nextF f k=onceL (lastTo b):=by
 unfold nextF;rw [List.getD_eq_getElem?_getD,h];rfl
theorem Ful.last {f:Fun} (h:Ful f) {b:List Ins} (hb:b∈f.2.2.2.1):∃x,b[b.length - 1]? =some x∧lastTo b=x.2.2.2.2.2.1∧x.2.2.2.2.2.1.length≤1000000:=by
 obtain⟨h1,h2⟩:=h.2 b hb
 have:b.length - 1 < b.length:=by
  have:b.length≠0:=fun e=>h1 (List.length_eq_zero_iff.1 e)
  omega
 refine⟨b[b.length - 1],List.getElem?_eq_getElem this,?_,h2 _ (List.getElem_mem this)⟩
 unfold lastTo
 rw [List.getElem?_eq_getElem this]
theorem next_any (f:Fun) (k:Nat) (v:Value) (w:World) (hv:FunV w f v) (hF:Ful f) (hk:k < f.2.2.2.1.length):
  Calls Tryz.prog 19 #[v,.int .i64 k] w fun e w'=>∃u,e= .returned u∧w'.ownsRow w.heap.size 3 1 u (nextF f k).length (ints (nextF f k))∧Below w.heap.size w w':=by
 obtain⟨b,hb⟩:∃b,f.2.2.2.1[k]? =some b:=⟨_,List.getElem?_eq_getElem hk⟩
 obtain⟨x,hx,hl,h63⟩:=hF.last (List.mem_of_getElem? hb)
 rw [nextF_at hb,hl]
 obtain⟨nm,ps,rt,bl,pl⟩:=f
 obtain⟨vp,vb,rfl,⟨ao,c,rfl,h1,_⟩,h2⟩:=hv
 have h2':=h2
 obtain⟨bo,cb,rfl,_⟩:=h2
 obtain⟨op,id,nn,ty,ar,tt,na,pp⟩:=x
 exact next_try nm ps rt pl bl ao bo c cb k b op id nn ty pp ar tt na w h2' hb hx h63
end Go.Proofs.YtljkgcfnoegibaaGreatDoor
