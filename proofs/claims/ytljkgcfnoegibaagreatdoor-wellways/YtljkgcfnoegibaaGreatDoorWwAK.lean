/- Texts of one chain, joined. -/
import Derived.Test.YtljkgcfnoegibaaGreatDoorWwAA
import Derived.Test.YtljkgcfnoegibaaGreatDoorWwAC
import Derived.Test.YtljkgcfnoegibaaGreatDoorWwAJ
import Derived.RegionTactic
import Derived.ChangeAlike
set_option maxHeartbeats 4000000
set_option maxRecDepth 20000
namespace Go.Proofs.YtljkgcfnoegibaaGreatDoor
open Go Go.RowKit
open G (Tok Er Ins Fun)
def Mid (B:Nat) (W w:World):Prop:=W.heap.size≤w.heap.size∧∀k,B≤k→k < W.heap.size→w.heap[k]? =W.heap[k]?
theorem Mid.refl (B:Nat) (W:World):Mid B W W:=⟨Nat.le_refl _,fun _ _ _=>rfl⟩
theorem Mid.put {B:Nat} {W w:World} (h:Mid B W w) {p:Addr} (hp:p.block < B∨W.heap.size≤p.block) (u:Value):Mid B W (w.setCell p u):=
 ⟨by simpa using h.1,fun k h1 h2=>(Below.heap_setCell w p u k (by omega)).trans (h.2 k h1 h2)⟩
theorem Mid.alloc {B:Nat} {W w:World} (h:Mid B W w) (o:Obj):Mid B W (w.alloc o):=
 ⟨by have:=h.1;simp;omega,fun k h1 h2=>(Below.heap_alloc w o k (by have:=h.1;omega)).trans (h.2 k h1 h2)⟩
theorem Mid.grown {B:Nat} {W w w':World} {row:Option Nat} (h:Mid B W w) (hg:w.grownBy w' row) (hr:∀k,row=some k→k < B∨W.heap.size≤k):Mid B W w':=
 ⟨Nat.le_trans h.1 hg.size,fun k h1 h2=>(hg.block k (by have:=h.1;omega) (fun e=>by have:=hr k e.symm;omega)).trans (h.2 k h1 h2)⟩
theorem Mid.below {B:Nat} {W w w':World} (h:Mid B W w) (b:Below w.heap.size w w'):Mid B W w':=
 ⟨Nat.le_trans h.1 b.size,fun k h1 h2=>(b.block k (by have:=h.1;omega)).trans (h.2 k h1 h2)⟩
theorem Mid.cell {B:Nat} {W w:World} (h:Mid B W w) {p:Addr} (h1:B≤p.block) (h2:p.block < W.heap.size):w.cell? p=W.cell? p:=World.cell?_of_block (w:=W) (h.2 p.block h1 h2)
theorem own_mid {B e s n:Nat} {W w:World} {v:Value} {xs:List Value} (h:W.ownsRow B e s v n xs) (m:Mid B W w):w.ownsRow B e s v n xs:=by
 refine⟨h.1,?_⟩
 rcases h.2 with hn | ⟨g,cap,cur,rfl,hb,hgg,rest⟩
 ·exact .inl hn
 ·exact .inr ⟨g,cap,cur,rfl,hb,(m.2 g hb (Array.getElem?_eq_some_iff.1 hgg).1).trans hgg,rest⟩
theorem RowsO.mid {B:Nat} {W w:World} {ll:List (List Int)} {v:Value} (h:RowsO B W ll v) (m:Mid B W w):RowsO B w ll v:=by
 obtain⟨us,h1,h2,h3⟩:=h
 refine⟨us,own_mid h1 m,h2,fun i l hl=> ?_⟩
 obtain⟨u,k1,k2⟩:=h3 i l hl
 exact⟨u,k1,own_mid k2 m⟩
theorem RowsO.row {B n c:Nat} {w:World} {ll:List (List Int)} {ao:Option Addr} (h:RowsO B w ll (.slice ao n c)) {K:Nat} {l:List Int} (hl:ll[K]? =some l):
  ∃g lo lc,ao=some ⟨g,0,none⟩∧w.cell? ⟨g,K,none⟩=some (.slice lo l.length lc)∧w.ownsRow B 3 1 (.slice lo l.length lc) l.length (ints l)∧B≤g∧g < w.heap.size:=by
 obtain⟨us,h1,h2,h3⟩:=h
 obtain⟨u,k1,k2⟩:=h3 K l hl
 obtain⟨lo,lc,rfl⟩:=own_len k2
 have hK:=(List.getElem?_eq_some_iff.1 hl).1
 rcases own_view h1 with ⟨_,hn⟩ | ⟨g,cap,e,q1,q2,q3,q4,q5,q6⟩
 ·omega
 ·injection e with e1 e2 e3
  exact⟨g,lo,lc,e1,q5 K _ k1,k2,q3,q4⟩
theorem own_cell {B n c:Nat} {w:World} {l:List Int} {ao:Option Addr} (h:w.ownsRow B 3 1 (.slice ao n c) l.length (ints l)) {j:Nat} {m:Int} (hm:l[j]? =some m):
  ∃g,ao=some ⟨g,0,none⟩∧w.cell? ⟨g,j,none⟩=some (.int .i64 m)∧g < w.heap.size:=by
 have hj:=(List.getElem?_eq_some_iff.1 hm).1
 rcases own_view h with ⟨_,hn⟩ | ⟨g,cap,e,q1,q2,q3,q4,q5,q6⟩
 ·omega
 ·injection e with e1 e2 e3
  exact⟨g,e1,q5 j _ (ints_at hm),q4⟩
theorem once_nodup (l:List Int):(onceL l).Nodup:=by
 have key:∀(l acc:List Int),acc.Nodup→(l.foldl addL acc).Nodup:=by
  intro l
  induction l with
  |nil=>intro acc h;exact h
  |cons m l ih=>
   intro acc h
   rw [List.foldl_cons]
   refine ih _ ?_
   cases hh:hasL acc m with
   |true=>rw [addL_yes hh];exact h
   |false=>
    rw [addL_no hh]
    refine List.nodup_append.2 ⟨h,by simp,?_⟩
    rintro x hx y hy rfl
    simp at hy
    subst hy
    rw [hasL_mem.2 hx] at hh
    cases hh
 exact key l [] List.nodup_nil
theorem take_fresh {l:List Int} (h:l.Nodup) {j:Nat} {m:Int} (hm:l[j]? =some m):hasL (l.take j) m=false:=by
 cases hh:hasL (l.take j) m with
 |false=>rfl
 |true=>
  exfalso
  have h1:=hasL_mem.1 hh
  obtain⟨i,hi,e⟩:=List.mem_iff_getElem.1 h1
  have hij:i < j:=by rw [List.length_take] at hi;omega
  obtain⟨hj,e2⟩:=List.getElem?_eq_some_iff.1 hm
  rw [List.getElem_take] at e
  exact absurd ((List.getElem_inj h).1 (e.trans e2.symm)) (by omega)
def pRows (f:Fun) (K:Nat) (acc:List Int):List (List Int):=(List.range f.2.2.2.1.length).map fun(b:Nat)=>predTo f b K ++ (if hasL acc b then [(K:Int)] else [])
theorem pRows_len (f:Fun) (K:Nat) (acc:List Int):(pRows f K acc).length=f.2.2.2.1.length:=by simp [pRows]
theorem pRows_at {f:Fun} (K:Nat) (acc:List Int) {M:Nat} (hM:M < f.2.2.2.1.length):(pRows f K acc)[M]? =some (predTo f M K ++ (if hasL acc M then [(K:Int)] else [])):=by
 unfold pRows;rw [List.getElem?_map,List.getElem?_range hM];rfl
theorem pRows_start (f:Fun):pRows f 0 []=List.replicate f.2.2.2.1.length []:=by
 apply List.ext_getElem?
 intro j
 rw [List.getElem?_replicate]
 by_cases hj:j < f.2.2.2.1.length
 ·rw [pRows_at _ _ hj,if_pos hj];simp [predTo,hasL]
 ·rw [if_neg hj,List.getElem?_eq_none (by rw [pRows_len];omega)]
theorem pRows_put {f:Fun} {K M:Nat} {acc:List Int} (hM:M < f.2.2.2.1.length):(pRows f K acc).set M (predTo f M K ++ [(K:Int)])=pRows f K (acc ++ [(M:Int)]):=by
 apply List.ext_getElem?
 intro j
 rw [List.getElem?_set,pRows_len]
 by_cases hj:j < f.2.2.2.1.length
 ·rw [pRows_at _ _ hj,pRows_at _ _ hj]
  by_cases e:M=j
  ·subst e
   rw [if_pos rfl,if_pos hM,hasL_snoc];simp
  ·have e2:¬(M:Int)=(j:Int):=by omega
   rw [if_neg e,hasL_snoc];simp [e2]
 ·have n1:∀acc,(pRows f K acc)[j]? =none:=fun acc=>List.getElem?_eq_none (by rw [pRows_len];omega)
  rw [n1,n1]
  by_cases e:M=j
  ·omega
  ·rw [if_neg e]
theorem pRows_next (f:Fun) (K:Nat):pRows f K (nextF f K)=pRows f (K+1) []:=by
 apply List.ext_getElem?
 intro j
 by_cases hj:j < f.2.2.2.1.length
 ·rw [pRows_at _ _ hj,pRows_at _ _ hj]
  cases hh:hasL (nextF f K) j with
  |true=>rw [predTo_yes hh];simp [hasL]
  |false=>rw [predTo_no hh];simp [hasL]
 ·rw [List.getElem?_eq_none (by rw [pRows_len];omega),List.getElem?_eq_none (by rw [pRows_len];omega)]
theorem pRows_end (f:Fun):pRows f f.2.2.2.1.length []=predsF f:=by
 unfold pRows predsF
 apply List.map_congr_left
 intro b _
 simp [hasL]
def revAt (l:List Int) (i:Nat):List Int:=(List.range l.length).map fun p=>if p < i∨l.length≤p+i then l.getD (l.length - 1 - p) 0 else l.getD p 0
theorem revAt_len (l:List Int) (i:Nat):(revAt l i).length=l.length:=by simp [revAt]
theorem revAt_at {l:List Int} (i:Nat) {p:Nat} (hp:p < l.length):(revAt l i)[p]? =some (if p < i∨l.length≤p+i then l.getD (l.length - 1 - p) 0 else l.getD p 0):=by
 unfold revAt;rw [List.getElem?_map,List.getElem?_range hp];rfl
theorem revAt_zero (l:List Int):revAt l 0=l:=by
 apply List.ext_getElem?
 intro p
 by_cases hp:p < l.length
 ·rw [revAt_at _ hp,if_neg (by omega),List.getElem?_eq_getElem hp,List.getD_eq_getElem?_getD,List.getElem?_eq_getElem hp];rfl
 ·rw [List.getElem?_eq_none (by rw [revAt_len];omega),List.getElem?_eq_none (by omega)]
theorem revAt_end {l:List Int} {i:Nat} (h:l.length≤2 * i+1):revAt l i=l.reverse:=by
 apply List.ext_getElem?
 intro p
 by_cases hp:p < l.length
 ·rw [revAt_at _ hp,List.getElem?_reverse hp,List.getElem?_eq_getElem (by omega:l.length - 1 - p < l.length)]
  congr 1
  by_cases e:p < i∨l.length≤p+i
  ·rw [if_pos e,List.getD_eq_getElem?_getD,List.getElem?_eq_getElem (by omega:l.length - 1 - p < l.length)];rfl
  ·rw [if_neg e,List.getD_eq_getElem?_getD,List.getElem?_eq_getElem hp]
   have e2:l.length - 1 - p=p:=by omega
   simp only [e2];rfl
 ·rw [List.getElem?_eq_none (by rw [revAt_len];omega),List.getElem?_eq_none (by rw [List.length_reverse];omega)]
theorem revAt_step {l:List Int} {i j:Nat} {x y:Int} (hj:j=l.length - 1 - i) (hij:i < j) (hx:(revAt l i)[i]? =some x) (hy:(revAt l i)[j]? =some y):((revAt l i).set i y).set j x=revAt l (i+1):=by
 have hi:i < l.length:=by omega
 have hjl:j < l.length:=by omega
 rw [revAt_at _ hi,if_neg (by omega)] at hx
 rw [revAt_at _ hjl,if_neg (by omega)] at hy
 injection hx with hx
 injection hy with hy
 subst hx hy
 apply List.ext_getElem?
 intro p
 rw [List.getElem?_set,List.getElem?_set,List.length_set,revAt_len]
 by_cases hp:p < l.length
 ·rw [revAt_at _ hp,revAt_at _ hp]
  by_cases e1:j=p
  ·subst e1
   rw [if_pos rfl,if_pos hjl,if_pos (by omega)]
   have e2:l.length - 1 - j=i:=by omega
   rw [e2]
  ·rw [if_neg e1]
   by_cases e2:i=p
   ·subst e2
    rw [if_pos rfl,if_pos hi,if_pos (by omega),hj]
   ·rw [if_neg e2]
    by_cases e3:p < i∨l.length≤p+i
    ·rw [if_pos e3,if_pos (by omega)]
    ·rw [if_neg e3,if_neg (by omega)]
 ·rw [if_neg (by omega),if_neg (by omega),List.getElem?_eq_none (by rw [revAt_len];omega),List.getElem?_eq_none (by rw [revAt_len];omega)]
theorem own_set2 {B g n c i j:Nat} {w:World} {l:List Int} {x y:Int} (h:w.ownsRow B 3 1 (.slice (some ⟨g,0,none⟩) n c) n (ints l)):((w.setCell ⟨g,i,none⟩ (.int .i64 y)).setCell ⟨g,j,none⟩ (.int .i64 x)).drew.ownsRow B 3 1 (.slice (some ⟨g,0,none⟩) n c) n (ints ((l.set i y).set j x)):=by
 rw [←ints_set,←ints_set]
 exact own_below (L5.below_drew1 _) _ _ _ _ _ _ (World.ownsRow.stored (World.ownsRow.stored h i (.int .i64 y)).1 j (.int .i64 x)).1
theorem reverse_any (l r:List Int) (hr:l.reverse=r) (B g c:Nat) (w:World) (h:w.ownsRow B 3 1 (.slice (some ⟨g,0,none⟩) l.length c) l.length (ints l)) (hl:l.length≤1000000):
  Calls Tryz.prog 144 #[.slice (some ⟨g,0,none⟩) l.length c] w fun e w'=>e= .returned (.tuple #[])∧w'.ownsRow B 3 1 (.slice (some ⟨g,0,none⟩) l.length c) l.length (ints r)∧Below B w w':=by
 have hB:B≤g:=(h.lt g rfl).1
 replace hr:=hide hr
 have H0:Hid (w.ownsRow B 3 1 (.slice (some ⟨g,0,none⟩) l.length c) l.length (ints (revAt l 0))):=hide (by rw [revAt_zero];exact h)
 clear h
 go_enter Tryz.func144,Tryz.ntmps144
 go_wp2_with fail
 go_loopw [2,3] (fun i j wr=>∃I:Nat,2 * I≤l.length∧i= .int .i64 I∧j= .int .i64 ((l.length:Int) - 1 - I)∧Hid (wr.ownsRow B 3 1 (.slice (some ⟨g,0,none⟩) l.length c) l.length (ints (revAt l I)))∧Hid (Below B w wr)) (fun i j _=>(intOf j - intOf i).toNat)
 case atStart=>exact⟨0,by omega,rfl,by go_num,H0,hide (Below.refl _ _)⟩
 case round=>
  clear H0
  obtain⟨I,hI,rfl,rfl,HO,HW⟩:=hrel
  by_cases hlt:2 * I+1 < l.length
  ·obtain⟨J,hJ⟩:∃J,J=l.length - 1 - I:=⟨_,rfl⟩
   have hJI:(l.length:Int) - 1 - I=(J:Int):=by omega
   have hIJ:(I:Int) < (J:Int):=by omega
   have hJl:(J:Int) < l.length:=by omega
   have hIl:(I:Int) < l.length:=by omega
   obtain⟨x,hx⟩:∃x,(revAt l I)[I]? =some x:=⟨_,List.getElem?_eq_getElem (by rw [revAt_len];omega)⟩
   obtain⟨y,hy⟩:∃y,(revAt l I)[J]? =some y:=⟨_,List.getElem?_eq_getElem (by rw [revAt_len];omega)⟩
   have c1:wr.cell? ⟨g,I,none⟩=some (.int .i64 x):=by rw [World.ownsRow.cellAt HO.out I (by omega)];exact ints_at hx
   have c2:wr.cell? ⟨g,J,none⟩=some (.int .i64 y):=by rw [World.ownsRow.cellAt HO.out J (by omega)];exact ints_at hy
   have f1:=World.ownsRow.frozenAt HO.out I
   have f2:=World.ownsRow.frozenAt HO.out J
   have HR:=hide (revAt_step hJ (by omega) hx hy)
   rw [hJI]
   clear hx hy hJ
   go_wp2_with fail
   go_region
   have HE:Hid (((wr.setCell ⟨g,I,none⟩ (.int .i64 y)).setCell ⟨g,J,none⟩ (.int .i64 x)).drew.ownsRow B 3 1 (.slice (some ⟨g,0,none⟩) l.length c) l.length (ints (revAt l (I+1)))):=hide (by rw [←HR.out];exact own_set2 HO.out)
   have HE2:Hid (Below B w ((wr.setCell ⟨g,I,none⟩ (.int .i64 y)).setCell ⟨g,J,none⟩ (.int .i64 x)).drew):=hide (((HW.out.setCell (p:=⟨g,I,none⟩) hB _).setCell (p:=⟨g,J,none⟩) hB _).drew)
   go_wp2_with fail
   go_roundw
   case rel=>exact⟨I+1,by omega,by go_num,by rw [←hJI];go_num,HE,HE2⟩
   case measure=>simp [intOf];omega
  ·have hnl:¬(I:Int) < (l.length:Int) - 1 - I:=by omega
   have HE:Hid (wr.ownsRow B 3 1 (.slice (some ⟨g,0,none⟩) l.length c) l.length (ints r)):=hide (by rw [←hr.out,←revAt_end (i:=I) (by omega)];exact HO.out)
   go_wp2_with fail
   go_end0
   exact⟨rfl,HE.out,HW.out⟩
theorem nextF_len {f:Fun} (hF:Ful f) {k:Nat} (hk:k < f.2.2.2.1.length):(nextF f k).length≤1000000:=by
 have hb:f.2.2.2.1[k]? =some f.2.2.2.1[k]:=List.getElem?_eq_getElem hk
 obtain⟨x,hx,hl,h63⟩:=hF.last (List.mem_of_getElem? hb)
 rw [nextF_at hb,hl]
 exact Nat.le_trans (onceL_len _) h63
def orderF (f:Fun):List Int:=(postF f f.2.2.2.1.length 0 [] []).reverse
theorem post0_num {f:Fun} (hT:Tos f) (h0:0 < f.2.2.2.1.length):(postF f f.2.2.2.1.length 0 [] []).Nodup∧Num f.2.2.2.1.length (postF f f.2.2.2.1.length 0 [] []):=
 (post_ext hT _ 0 [] [] ⟨by omega,by omega⟩ (by simp) (by simp)).num List.nodup_nil (fun m hm=>by simp at hm)
theorem orderF_len {f:Fun} (hT:Tos f) (h0:0 < f.2.2.2.1.length):(orderF f).length≤f.2.2.2.1.length:=by
 unfold orderF;rw [List.length_reverse]
 exact fit_len _ _ (post0_num hT h0).1 (post0_num hT h0).2
def placeAt:List Int→Int→Nat→Int
 |[],_,_=> -1
 |m :: l,n,i=>if m=n then i else placeAt l n (i+1)
def placeL (l:List Int) (n:Int):Int:=placeAt l n 0
theorem placeAt_yes:∀(l:List Int) (n:Int) (k i:Nat),hasL (l.take k) n=false→l[k]? =some n→placeAt l n i=((i+k:Nat):Int):=by
 intro l
 induction l with
 |nil=>intro n k i _ h;simp at h
 |cons m l ih=>
  intro n k i h1 h2
  cases k with
  |zero=>simp at h2;subst h2;simp [placeAt]
  |succ k=>
   simp only [List.take_succ_cons,hasL,List.any_cons,Bool.or_eq_false_iff,decide_eq_false_iff_not] at h1
   rw [placeAt,if_neg h1.1,ih n k (i+1) h1.2 (by simpa using h2)]
   congr 1;omega
theorem placeAt_no:∀(l:List Int) (n:Int) (i:Nat),hasL l n=false→placeAt l n i= -1:=by
 intro l
 induction l with
 |nil=>intro n i _;rfl
 |cons m l ih=>
  intro n i h
  simp only [hasL,List.any_cons,Bool.or_eq_false_iff,decide_eq_false_iff_not] at h
  rw [placeAt,if_neg h.1]
  exact ih n (i+1) h.2
theorem placeL_yes {l:List Int} {n:Int} {k:Nat} (h1:hasL (l.take k) n=false) (h2:l[k]? =some n):(k:Int)=placeL l n:=by
 rw [placeL,placeAt_yes l n k 0 h1 h2];simp
theorem placeL_no {l:List Int} {n:Int} (h:hasL l n=false):(-1:Int)=placeL l n:=(placeAt_no l n 0 h).symm
def placesF (f:Fun):List Int:=(List.range f.2.2.2.1.length).map fun(k:Nat)=>placeL (orderF f) (k:Int)
theorem placesF_len (f:Fun):(placesF f).length=f.2.2.2.1.length:=by simp [placesF]
def cnt (tr:List Int) (k:Int):Nat:=(tr.getD k.toNat 0).toNat
def finF (f:Fun) (tr:List Int):List Int→List Int→List Int
 |[],out=>out
 |k :: up,out=>finF f tr up (walkF f (f.2.2.2.1.length - (up.length+1)) (up.reverse ++ [k]) out ((nextF f k.toNat).drop (cnt tr k)) ++ [k])
theorem finF_same (f:Fun) {tr tr':List Int}:∀(up out:List Int),(∀k∈up,cnt tr k=cnt tr' k)→finF f tr up out=finF f tr' up out:=by
 intro up
 induction up with
 |nil=>intro out _;rfl
 |cons k up ih=>
  intro out h
  rw [finF,finF,h k (by simp)]
  exact ih _ (fun x hx=>h x (by simp [hx]))
theorem finF_done {f:Fun} {tr:List Int} {k:Int} {up out:List Int} (h:(nextF f k.toNat).length≤cnt tr k):finF f tr (k :: up) out=finF f tr up (out ++ [k]):=by
 rw [finF,List.drop_eq_nil_of_le h];rfl
theorem dropL_at {l:List Int} {c:Nat} {m:Int} (h:l[c]? =some m):l.drop c=m :: l.drop (c+1):=by
 obtain⟨h1,h2⟩:=List.getElem?_eq_some_iff.1 h
 rw [List.drop_eq_getElem_cons h1,h2]
theorem finF_old {f:Fun} {tr tr':List Int} {k m:Int} {up out:List Int} (hm:(nextF f k.toNat)[cnt tr k]? =some m) (hc:cnt tr' k=cnt tr k+1) (hs:∀x∈up,cnt tr x=cnt tr' x)
  (h:hasL out m=true∨hasL (up.reverse ++ [k]) m=true):finF f tr (k :: up) out=finF f tr' (k :: up) out:=by
 rw [finF,finF,dropL_at hm,hc]
 show finF f tr up (walkF f _ _ (stepF f _ _ out m) _ ++ [k])=_
 rw [stepF_no h]
 exact finF_same f _ _ hs
theorem finF_new {f:Fun} {tr tr':List Int} {k m:Int} {up out:List Int} (hm:(nextF f k.toNat)[cnt tr k]? =some m) (hc:cnt tr' k=cnt tr k+1) (hs:∀x∈up,cnt tr x=cnt tr' x)
  (h1:hasL out m=false) (h2:hasL (up.reverse ++ [k]) m=false) (h0:cnt tr' m=0) (hN:up.length+2≤f.2.2.2.1.length):finF f tr (k :: up) out=finF f tr' (m :: k :: up) out:=by
 rw [finF,finF,finF,dropL_at hm,hc,h0]
 show finF f tr up (walkF f _ _ (stepF f _ _ out m) _ ++ [k])=_
 rw [stepF_yes h1 h2,finF_same f _ _ hs,List.drop_zero]
 obtain⟨M,hM⟩:∃M,f.2.2.2.1.length - (up.length+1)=M+1:=⟨f.2.2.2.1.length - (up.length+2),by omega⟩
 have hM2:f.2.2.2.1.length - ((k :: up).length+1)=M:=by simp only [List.length_cons];omega
 rw [hM,hM2,postF_succ,List.reverse_cons]
theorem hasL_app (a b:List Int) (n:Int):hasL (a ++ b) n=(hasL a n || hasL b n):=by simp [hasL]
theorem sum_less (g g':Nat→Nat) (k:Nat) (h1:g' k+1=g k) (h2:∀j,j≠k→g' j=g j):∀n,k < n→((List.range n).map g').sum+1=((List.range n).map g).sum:=by
 have key:∀n,n≤k→((List.range n).map g').sum=((List.range n).map g).sum:=by
  intro n
  induction n with
  |zero=>intro _;rfl
  |succ n ih=>
   intro hn
   rw [List.range_succ,List.map_append,List.map_append,List.sum_append,List.sum_append,ih (by omega)]
   simp [h2 n (by omega)]
 intro n
 induction n with
 |zero=>intro h;omega
 |succ n ih=>
  intro hn
  rw [List.range_succ,List.map_append,List.map_append,List.sum_append,List.sum_append]
  by_cases e:n=k
  ·subst e
   rw [key n (Nat.le_refl _)]
   simp
   omega
  ·have:=ih (by omega)
   simp [h2 n e]
   omega
def leftN (f:Fun) (done tr:List Int):Nat:=((List.range f.2.2.2.1.length).map fun(k:Nat)=>(nextF f k).length - cnt tr k).sum+(f.2.2.2.1.length - done.length)
def Dfs (f:Fun) (way done tr:List Int) (mt:List Bool):Prop:=
 finF f tr way.reverse done=postF f f.2.2.2.1.length 0 [] []∧(way.Nodup∧Num f.2.2.2.1.length way)∧(done.Nodup∧Num f.2.2.2.1.length done)∧(∀m∈done,m ∉ way)∧
 tr.length=f.2.2.2.1.length∧mt.length=f.2.2.2.1.length∧(∀k:Nat,k < f.2.2.2.1.length→mt[k]? =some (hasL done k || hasL way k))∧
 (∀k:Nat,k < f.2.2.2.1.length→∃c:Nat,tr[k]? =some (c:Int)∧c≤(nextF f k).length∧((hasL done k || hasL way k)=false→c=0))
theorem cnt_at {tr:List Int} {k c:Nat} (h:tr[k]? =some (c:Int)):cnt tr k=c:=by
 unfold cnt;rw [Int.toNat_natCast,List.getD_eq_getElem?_getD,h];simp
theorem cnt_set {tr:List Int} {k:Nat} (hk:k < tr.length) (c:Nat):cnt (tr.set k (c:Int)) k=c:=cnt_at (by rw [List.getElem?_set];simp [hk])
theorem cnt_other {tr:List Int} {k:Nat} (c:Int) {m:Int} (hm:0≤m) (h:m≠k):cnt (tr.set k c) m=cnt tr m:=by
 unfold cnt;rw [List.getD_eq_getElem?_getD,List.getD_eq_getElem?_getD,List.getElem?_set_ne (by omega)]
theorem Dfs.start {f:Fun} (h0:0 < f.2.2.2.1.length):Dfs f [0] [] (List.replicate f.2.2.2.1.length 0) ((List.replicate f.2.2.2.1.length false).set 0 true):=by
 refine⟨?_,⟨by simp,fun m hm=>by simp at hm;subst hm;omega⟩,⟨List.nodup_nil,fun m hm=>by simp at hm⟩,by simp,by simp,by simp,?_,?_⟩
 ·obtain⟨M,hM⟩:∃M,f.2.2.2.1.length=M+1:=⟨f.2.2.2.1.length - 1,by omega⟩
  have hc:cnt (List.replicate (M+1) 0) 0=0:=by simp [cnt]
  rw [hM,postF_succ]
  show finF f _ [0] []=_
  rw [finF,finF,hc,hM]
  simp
 ·intro k hk
  rw [List.getElem?_set]
  by_cases e:0=k
  ·subst e;simp [h0,hasL]
  ·rw [if_neg e,List.getElem?_replicate,if_pos hk]
   have:¬(0:Int)=(k:Int):=by omega
   simp [hasL,this]
 ·intro k hk
  exact⟨0,by rw [List.getElem?_replicate,if_pos hk];rfl,Nat.zero_le _,fun _=>rfl⟩
theorem Dfs.ended {f:Fun} {done tr:List Int} {mt:List Bool} (h:Dfs f [] done tr mt):done=postF f f.2.2.2.1.length 0 [] []:=h.1
theorem Dfs.pop {f:Fun} {up done tr:List Int} {mt:List Bool} {k:Nat} (h:Dfs f (up ++ [(k:Int)]) done tr mt) (hc:tr[k]? =some (((nextF f k).length:Nat):Int)):
  Dfs f up (done ++ [(k:Int)]) tr mt∧leftN f (done ++ [(k:Int)]) tr < leftN f done tr:=by
 obtain⟨h1,h2,h3,h4,h5,h6,h7,h8⟩:=h
 rw [List.reverse_append] at h1
 have hk:=h2.2 (k:Int) (by simp)
 have hd:(done ++ [(k:Int)]).Nodup∧Num f.2.2.2.1.length (done ++ [(k:Int)]):=by
  refine⟨List.nodup_append.2 ⟨h3.1,by simp,?_⟩,?_⟩
  ·rintro x hx y hy rfl
   simp at hy
   exact h4 x hx (by simp [hy])
  ·intro m hm
   rcases List.mem_append.1 hm with hm | hm
   ·exact h3.2 m hm
   ·simp at hm;subst hm;exact hk
 have hn:=List.nodup_append.1 h2.1
 have hku:(k:Int) ∉ up:=fun h=>hn.2.2 _ h _ (by simp) rfl
 refine⟨⟨?_,⟨hn.1,fun m hm=>h2.2 m (by simp [hm])⟩,hd,?_,h5,h6,?_,?_⟩,?_⟩
 ·rw [←h1]
  exact(finF_done (by rw [Int.toNat_natCast,cnt_at hc];exact Nat.le_refl _)).symm
 ·intro m hm
  rcases List.mem_append.1 hm with hm | hm
  ·exact fun h=>h4 m hm (by simp [h])
  ·simp at hm;subst hm;exact hku
 ·intro j hj
  rw [h7 j hj,hasL_app,hasL_app]
  cases hasL done j <;> cases hasL up j <;> cases hasL [(k:Int)] j <;> rfl
 ·intro j hj
  obtain⟨c,q1,q2,q3⟩:=h8 j hj
  refine⟨c,q1,q2,fun e=>q3 ?_⟩
  rw [←e,hasL_app,hasL_app]
  cases hasL done j <;> cases hasL up j <;> cases hasL [(k:Int)] j <;> rfl
 ·have:=fit_len _ _ hd.1 hd.2
  simp at this
  unfold leftN
  simp only [List.length_append,List.length_singleton]
  omega
theorem left_less {f:Fun} {done tr:List Int} {k c:Nat} (hk:k < f.2.2.2.1.length) (ht:tr.length=f.2.2.2.1.length) (hc:tr[k]? =some (c:Int)) (hl:c < (nextF f k).length):leftN f done (tr.set k ((c:Int)+1)) < leftN f done tr:=by
 have h:=sum_less (fun(j:Nat)=>(nextF f j).length - cnt tr j) (fun(j:Nat)=>(nextF f j).length - cnt (tr.set k ((c+1:Nat):Int)) j) k (by
  simp only [cnt_set (tr:=tr) (by omega:k < tr.length) (c+1),cnt_at hc];omega) (fun j hj=>by
  simp only [cnt_other (tr:=tr) (k:=k) ((c+1:Nat):Int) (m:=(j:Int)) (by omega) (by omega)]) _ hk
 unfold leftN
 rw [show((c:Int)+1)=((c+1:Nat):Int) by omega]
 omega
theorem Dfs.counts {f:Fun} {way done tr:List Int} {k c:Nat} (h5:tr.length=f.2.2.2.1.length) (hk:k < f.2.2.2.1.length) (hw:hasL way k=true) (hl:c < (nextF f k).length)
  (h8:∀j:Nat,j < f.2.2.2.1.length→∃d:Nat,tr[j]? =some (d:Int)∧d≤(nextF f j).length∧((hasL done j || hasL way j)=false→d=0)):
  ∀j:Nat,j < f.2.2.2.1.length→∃d:Nat,(tr.set k ((c:Int)+1))[j]? =some (d:Int)∧d≤(nextF f j).length∧((hasL done j || hasL way j)=false→d=0):=by
 intro j hj
 by_cases e:j=k
 ·subst e
  exact⟨c+1,by rw [List.getElem?_set];simp [h5,hj],hl,fun h=>by simp [hw] at h⟩
 ·obtain⟨d,q1,q2,q3⟩:=h8 j hj
  exact⟨d,by rw [List.getElem?_set_ne (by omega)];exact q1,q2,q3⟩
theorem Dfs.old {f:Fun} {up done tr:List Int} {mt:List Bool} {k c m:Nat} (h:Dfs f (up ++ [(k:Int)]) done tr mt) (hc:tr[k]? =some (c:Int)) (hm:(nextF f k)[c]? =some (m:Int)) (hM:m < f.2.2.2.1.length) (hb:mt[m]? =some true):
  Dfs f (up ++ [(k:Int)]) done (tr.set k ((c:Int)+1)) mt∧leftN f done (tr.set k ((c:Int)+1)) < leftN f done tr:=by
 obtain⟨h1,h2,h3,h4,h5,h6,h7,h8⟩:=h
 have hk:k < f.2.2.2.1.length:=by have:=(h2.2 (k:Int) (by simp)).2;omega
 have hl:c < (nextF f k).length:=(List.getElem?_eq_some_iff.1 hm).1
 have hn:=List.nodup_append.1 h2.1
 have hku:(k:Int) ∉ up:=fun h=>hn.2.2 _ h _ (by simp) rfl
 refine⟨⟨?_,h2,h3,h4,by simpa using h5,h6,h7,Dfs.counts h5 hk (by rw [hasL_mem];simp) hl h8⟩,left_less hk h5 hc hl⟩
 rw [←h1,List.reverse_append]
 refine(finF_old (m:=(m:Int)) ?_ ?_ ?_ ?_).symm
 ·rw [Int.toNat_natCast,cnt_at hc];exact hm
 ·rw [cnt_at hc];exact cnt_set (by omega) (c+1)
 ·intro x hx
  have hx':x∈up:=by simpa using hx
  exact(cnt_other _ (h2.2 x (by simp [hx'])).1 (fun e=>hku (e ▸ hx'))).symm
 ·have:=h7 m hM
  rw [hb] at this
  injection this with this
  rw [hasL_app] at this
  show hasL done m=true∨hasL (up.reverse.reverse ++ [(k:Int)]) m=true
  rw [List.reverse_reverse,hasL_app]
  cases hd:hasL done m with
  |true=>exact .inl rfl
  |false=>rw [hd] at this;right;simpa using this.symm
theorem Dfs.new {f:Fun} {up done tr:List Int} {mt:List Bool} {k c m:Nat} (h:Dfs f (up ++ [(k:Int)]) done tr mt) (hc:tr[k]? =some (c:Int)) (hm:(nextF f k)[c]? =some (m:Int)) (hM:m < f.2.2.2.1.length) (hb:mt[m]? =some false):
  Dfs f (up ++ [(k:Int)] ++ [(m:Int)]) done (tr.set k ((c:Int)+1)) (mt.set m true)∧leftN f done (tr.set k ((c:Int)+1)) < leftN f done tr:=by
 obtain⟨h1,h2,h3,h4,h5,h6,h7,h8⟩:=h
 have hk:k < f.2.2.2.1.length:=by have:=(h2.2 (k:Int) (by simp)).2;omega
 have hl:c < (nextF f k).length:=(List.getElem?_eq_some_iff.1 hm).1
 have hn:=List.nodup_append.1 h2.1
 have hku:(k:Int) ∉ up:=fun h=>hn.2.2 _ h _ (by simp) rfl
 have hb2:=h7 m hM
 rw [hb] at hb2
 injection hb2 with hb2
 obtain⟨hd,hw⟩:=Bool.or_eq_false_iff.1 hb2.symm
 have hmk:m≠k:=by
  rintro rfl
  rw [hasL_app] at hw
  simp [hasL] at hw
 have hnw:(up ++ [(k:Int)] ++ [(m:Int)]).Nodup∧Num f.2.2.2.1.length (up ++ [(k:Int)] ++ [(m:Int)]):=by
  refine⟨List.nodup_append.2 ⟨h2.1,by simp,?_⟩,?_⟩
  ·rintro x hx y hy rfl
   simp at hy
   exact hasL_no.1 hw (hy ▸ hx)
  ·intro x hx
   rcases List.mem_append.1 hx with hx | hx
   ·exact h2.2 x hx
   ·simp at hx;subst hx;omega
 have hlen:=fit_len _ _ hnw.1 hnw.2
 simp at hlen
 refine⟨⟨?_,hnw,h3,?_,by simpa using h5,by simpa using h6,?_,?_⟩,left_less hk h5 hc hl⟩
 ·rw [←h1,List.reverse_append,List.reverse_append]
  refine(finF_new (m:=(m:Int)) ?_ ?_ ?_ hd ?_ ?_ ?_).symm
  ·rw [Int.toNat_natCast,cnt_at hc];exact hm
  ·rw [cnt_at hc];exact cnt_set (by omega) (c+1)
  ·intro x hx
   have hx':x∈up:=by simpa using hx
   exact(cnt_other _ (h2.2 x (by simp [hx'])).1 (fun e=>hku (e ▸ hx'))).symm
  ·show hasL (up.reverse.reverse ++ [(k:Int)]) m=false
   rw [List.reverse_reverse];exact hw
  ·rw [cnt_other _ (by omega) (by omega)]
   obtain⟨d,q1,_,q3⟩:=h8 m hM
   rw [cnt_at q1]
   exact q3 (by rw [hd,hw];rfl)
  ·simp;omega
 ·intro x hx hx2
  rcases List.mem_append.1 hx2 with hx2 | hx2
  ·exact h4 x hx hx2
  ·simp at hx2;subst hx2;exact hasL_no.1 hd hx
 ·intro j hj
  rw [List.getElem?_set]
  by_cases e:m=j
  ·subst e
   rw [if_pos rfl,if_pos (by omega),hasL_app _ [(m:Int)]]
   simp [hasL]
  ·rw [if_neg e,h7 j hj,hasL_app _ [(m:Int)]]
   have:¬(m:Int)=(j:Int):=by omega
   simp [hasL,this]
 ·intro j hj
  obtain⟨d,q1,q2,q3⟩:=Dfs.counts (done:=done) h5 hk (by rw [hasL_mem];simp) hl h8 j hj
  refine⟨d,q1,q2,fun e=>q3 ?_⟩
  rw [hasL_app _ [(m:Int)]] at e
  simp only [Bool.or_eq_false_iff] at e ⊢
  exact⟨e.1,e.2.1⟩
theorem placeL_snoc {l:List Int} {m n:Int}:placeL (l ++ [m]) n=if hasL l n then placeL l n else if m=n then(l.length:Int)else -1:=by
 have key:∀(l:List Int) (i:Nat),placeAt (l ++ [m]) n i=if hasL l n then placeAt l n i else if m=n then((i+l.length:Nat):Int)else -1:=by
  intro l
  induction l with
  |nil=>intro i;simp [placeAt,hasL]
  |cons x l ih=>
   intro i
   by_cases e:x=n
   ·simp [placeAt,hasL,e]
   ·rw [List.cons_append,placeAt,if_neg e,ih]
    have:hasL (x :: l) n=hasL l n:=by simp [hasL,e]
    rw [this,placeAt,if_neg e]
    have e2:i+1+l.length=i+(x :: l).length:=by simp only [List.length_cons];omega
    rw [e2]
 have:=key l 0
 simpa [placeL] using this
def placesTo (n:Nat) (l:List Int):List Int:=(List.range n).map fun(k:Nat)=>placeL l (k:Int)
theorem placesTo_len (n:Nat) (l:List Int):(placesTo n l).length=n:=by simp [placesTo]
theorem placesTo_nil (n:Nat):placesTo n []=List.replicate n (-1):=by
 unfold placesTo
 apply List.ext_getElem?
 intro j
 rw [List.getElem?_map,List.getElem?_replicate]
 by_cases h:j < n
 ·rw [List.getElem?_range h,if_pos h];rfl
 ·rw [List.getElem?_eq_none (by simpa using h),if_neg h];rfl
theorem placesTo_snoc {n:Nat} {l:List Int} {m:Nat} (h:hasL l m=false):placesTo n (l ++ [(m:Int)])=(placesTo n l).set m (l.length:Int):=by
 unfold placesTo
 apply List.ext_getElem?
 intro j
 rw [List.getElem?_set,List.getElem?_map,List.getElem?_map,List.length_map,List.length_range]
 by_cases hj:j < n
 ·rw [List.getElem?_range hj,Option.map_some,Option.map_some,placeL_snoc]
  by_cases e:m=j
  ·subst e
   rw [if_pos rfl,if_pos hj,h]
   simp
  ·rw [if_neg e]
   have e2:¬(m:Int)=(j:Int):=by omega
   cases hh:hasL l j with
   |true=>simp
   |false=>rw [if_neg (by simp),if_neg e2,←placeL_no hh]
 ·have:(List.range n)[j]? =none:=List.getElem?_eq_none (by simpa using hj)
  rw [this]
  by_cases e:m=j
  ·subst e;simp [hj]
  ·rw [if_neg e];rfl
theorem placesF_to (f:Fun):placesF f=placesTo f.2.2.2.1.length (orderF f):=rfl
open L5 (word tk0 tk1 mk ds num beside num_out beside_list)
def rowVal (k:Nat):Value:= .agg #[.string (word k),.int .i64 (tk0 k),.int .i64 (tk1 k),.int .i64 (mk k),.int .i64 (ds k)]
def Tab (w:World):Prop:=0 < w.heap.size∧∀k,k < 30→
 w.cell? ⟨0,k * 5,none⟩=some (.string (word k))∧w.cell? ⟨0,k * 5+1,none⟩=some (.int .i64 (tk0 k))∧w.cell? ⟨0,k * 5+2,none⟩=some (.int .i64 (tk1 k))∧w.cell? ⟨0,k * 5+3,none⟩=some (.int .i64 (mk k))∧w.cell? ⟨0,k * 5+4,none⟩=some (.int .i64 (ds k))
theorem Tab.below {w w':World} (h:Tab w) (b:Below w.heap.size w w'):Tab w':=
 ⟨Nat.lt_of_lt_of_le h.1 b.size,fun k hk=>by
  obtain⟨h0,h1,h2,h3,h4⟩:=h.2 k hk
  exact⟨(b.cell h.1).trans h0,(b.cell h.1).trans h1,(b.cell h.1).trans h2,(b.cell h.1).trans h3,(b.cell h.1).trans h4⟩⟩
theorem of_in (k:Nat) (w:World) (h0:1≤k) (h1:k≤29) (ht:Tab w):
  Calls Tryz.prog 54 #[.int .i64 k] w fun e w'=>e= .returned (rowVal k)∧Below w.heap.size w w':=by
 have T:=ht.below (below_box w (.cells #[.string ⟨#[]⟩,.int .i64 0,.int .i64 0,.int .i64 0,.int .i64 0] 91))
 obtain⟨c0,c1,c2,c3,c4⟩:=T.2 k (by omega)
 clear T ht
 go_enter Tryz.func54,Tryz.ntmps54
 go_wp2_with fail
 exact bodyPost_ret (v:=rowVal k) (by simp [results,Tryz.results54,go_sem,rowVal]) rfl ⟨rfl,below_box _ _⟩
theorem of_out (op:Int) (w:World) (h:¬(1≤op∧op≤29)) (ht:Tab w):
  Calls Tryz.prog 54 #[.int .i64 op] w fun e w'=>e= .returned (rowVal 0)∧Below w.heap.size w w':=by
 have T:=ht.below (below_box w (.cells #[.string ⟨#[]⟩,.int .i64 0,.int .i64 0,.int .i64 0,.int .i64 0] 91))
 obtain⟨c0,c1,c2,c3,c4⟩:=T.2 0 (by omega)
 simp only [Nat.zero_mul,Nat.zero_add] at c0 c1 c2 c3 c4
 clear T ht
 by_cases h1:op < 1
 all_goals
  go_enter Tryz.func54,Tryz.ntmps54
  go_wp2_with fail
  exact bodyPost_ret (v:=rowVal 0) (by simp [results,Tryz.results54,go_sem,rowVal]) rfl ⟨rfl,below_box _ _⟩
theorem of_any (op:Int) (w:World) (ht:Tab w):
  Calls Tryz.prog 54 #[.int .i64 op] w fun e w'=>e= .returned (rowVal (num op))∧Below w.heap.size w w':=by
 by_cases h:1≤op∧op≤29
 ·have e:op=(op.toNat:Int):=by omega
  have:=of_in op.toNat w (by omega) (by omega) ht
  rw [←e] at this
  rwa [show num op=op.toNat from if_pos h]
 ·rw [num_out h];exact of_out op w h ht
theorem field_does (a b c d e:Value) (w:World):Sem.run Tryz.prog (Instr.field 91 (.agg #[a,b,c,d,e]) 3) w= .ok e w:=rfl
theorem does_any (op things:Int) (w:World) (ht:Tab w):
  Calls Tryz.prog 53 #[.int .i64 op,.int .i64 things] w fun e w'=>e= .returned (.bool (beside (num op) things))∧Below w.heap.size w w':=by
 have hf:=field_does
 go_enter Tryz.func53,Tryz.ntmps53
 go_wp2_with fail
 refine(of_any op _ ht).mono ?_;rintro e w1 ⟨rfl,b1⟩
 unfold rowVal
 go_wp2_with fail
 go_ret
 exact⟨rfl,b1⟩
def endsB (op:Int):Bool:=decide (26≤op∧op≤29)
theorem ends_l (op:Int):([26,27,28,29]:List Int).contains op=beside (num op) 8:=beside_list (by decide +kernel) (by decide) op
theorem ends_b (op:Int):beside (num op) 8=endsB op:=by
 rw [←ends_l,Bool.eq_iff_iff]
 simp [endsB]
 omega
theorem ends_any (op:Int) (w:World) (ht:Tab w):Calls Tryz.prog 142 #[.int .i64 op] w fun e w'=>e= .returned (.bool (endsB op))∧Below w.heap.size w w':=by
 rw [←ends_b]
 go_enter Tryz.func142,Tryz.ntmps142
 go_wp2_with fail
 refine(does_any op 8 _ ht).mono ?_;rintro e w1 ⟨rfl,b1⟩
 go_wp2_with fail
 go_ret
 exact⟨rfl,b1⟩
def thereB (b:Int) (n:Nat):Bool:=decide (0≤b∧b < (n:Int))
theorem there_any (b:Int) (n:Nat) (w:World):Calls Tryz.prog 123 #[.int .i64 b,.int .i64 n] w fun e w'=>e= .returned (.bool (thereB b n))∧w'=w:=by
 by_cases h:0≤b
 ·have HE:Hid (decide (b < (n:Int))=thereB b n):=hide (by simp [thereB,h])
  have h2:decide (0≤b)=true:=by simpa using h
  go_enter Tryz.func123,Tryz.ntmps123
  go_wp2
  go_ret
  exact⟨L5.ret_bool HE.out,rfl⟩
 ·have HE:Hid (false=thereB b n):=hide (by simp [thereB,h])
  have h2:decide (0≤b)=false:=by simpa using h
  go_enter Tryz.func123,Tryz.ntmps123
  go_wp2
  go_ret
  exact⟨L5.ret_bool HE.out,rfl⟩
end Go.Proofs.YtljkgcfnoegibaaGreatDoor
