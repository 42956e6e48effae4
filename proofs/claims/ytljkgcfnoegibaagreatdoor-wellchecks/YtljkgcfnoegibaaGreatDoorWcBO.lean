/- Texts of one chain, joined. -/
import Derived.Test.YtljkgcfnoegibaaGreatDoorWcBB
import Derived.Test.YtljkgcfnoegibaaGreatDoorWcBN
set_option maxHeartbeats 2000000
set_option maxRecDepth 20000
namespace Go.Proofs.YtljkgcfnoegibaaGreatDoor
open Go Go.RowKit Go.Maps
open G (Tok Er Ins Fun)
def KM (wM w':World):Prop:=wM.heap.size≤w'.heap.size∧∀(a:Addr) (v:Value),wM.cell? a=some v→w'.cell? a=some v
theorem KM.refl (w:World):KM w w:=⟨Nat.le_refl _,fun _ _ h=>h⟩
theorem KM.chg {B:Nat} {wM w w':World} (h:KM wM w) (k:Chg B w w'):KM wM w':=⟨Nat.le_trans h.1 k.1.size,fun a v ha=>k.cell (h.2 a v ha)⟩
theorem cell_lt {w:World} {a:Addr} {v:Value} (h:w.cell? a=some v):a.block < w.heap.size:=by
 obtain⟨x,t,z,hx⟩:=cell_cells h
 exact(Array.getElem?_eq_some_iff.1 hx).1
theorem KM.grown {r:Nat} {wM w w':World} (h:KM wM w) (k:w.grownBy w' (some r)) (hr:wM.heap.size≤r):KM wM w':=⟨Nat.le_trans h.1 k.size,fun a v ha=>k.cell (h.2 a v ha) (by
 intro e
 injection e with e
 have:=cell_lt ha
 omega)⟩
theorem KM.sl {wM w:World} (h:KM wM w) {ao:Option Addr} {l:List Int} (hs:Sl wM ao l):Sl w ao l:=by
 rcases hs with hs | ⟨b,o,e,hb,hc⟩
 ·exact .inl hs
 ·exact .inr ⟨b,o,e,Nat.lt_of_lt_of_le hb h.1,fun i n hi=>h.2 _ _ (hc i n hi)⟩
theorem chg_sl {B:Nat} {w w':World} (h:Chg B w w') {ao:Option Addr} {l:List Int} (hs:Sl w ao l):Sl w' ao l:=KM.sl (KM.chg (KM.refl w) h) hs
theorem KM.tree {wM w:World} (h:KM wM w) {ll:List (List Int)} {N t ub uo db dd uc dc:Nat} (ht:TreeC wM ll N t ub uo db dd uc dc):TreeC w ll N t ub uo db dd uc dc:=by
 obtain⟨h1,h2,h3,h4,h5,h6,h7⟩:=ht
 have:=h.1
 exact⟨by omega,by omega,by omega,h.2 _ _ h4,h.2 _ _ h5,fun k hk=>h.2 _ _ (h6 k hk),fun k hk=>h.2 _ _ (h7 k hk)⟩
def PrC (w:World) (f:Fun) (qb qo:Nat):Prop:=∀k,k < f.2.2.2.1.length→∃qa qac,w.cell? ⟨qb,qo+k,none⟩=some (.slice qa (predTo f k f.2.2.2.1.length).length qac)∧Sl w qa (predTo f k f.2.2.2.1.length)
def plM (f:Fun) (k i:Nat):Int→Option (Int × Int):=fun a=>(plF f a k i).map fun m=>(m.1,m.2.1)
def S1 (w0 wM:World) (f:Fun) (mb tb an:Nat) (k i:Nat) (w:World):Prop:=Below w0.heap.size w0 w∧KM wM w∧SMap w mb (an+(bigL f k i).length) (plM f k i)∧IMap w tb 1000000 (fun a=>tyL f a (bigL f f.2.2.2.1.length 0))
theorem S1.grown {w0 wM:World} {f:Fun} {mb tb an k i:Nat} {w w':World} {r:Nat} (h:S1 w0 wM f mb tb an k i w) (hg:w.grownBy w' (some r)) (hr:wM.heap.size≤r) (hm:mb < wM.heap.size) (ht:tb < wM.heap.size) (h0:w0.heap.size≤wM.heap.size):S1 w0 wM f mb tb an k i w':=by
 obtain⟨h1,h2,h3,h4⟩:=h
 have hs:=h2.1
 refine⟨h1.trans (grown_below hg (by omega) (by omega)),h2.grown hg hr,NMap.kept h3 hg (by intro e;injection e with e;omega),NMap.kept h4 hg (by intro e;injection e with e;omega)⟩
theorem S1.next {w0 wM:World} {f:Fun} {mb tb an k:Nat} {w:World} (hk:k < f.2.2.2.1.length) (h:S1 w0 wM f mb tb an k (blkN f k).length w):S1 w0 wM f mb tb an (k+1) 0 w:=by
 obtain⟨h1,h2,h3,h4⟩:=h
 refine⟨h1,h2,?_,h4⟩
 rw [bigL_next hk]
 have:plM f (k+1) 0=plM f k (blkN f k).length:=funext fun a=>by unfold plM;rw [plF_next hk]
 rw [this]
 exact h3
def KeyX (x:Ins):Prop:=(mkX x≠0→I64 x.2.1)∧(∀a∈x.2.2.2.2.1,I64 a)∧(∀a∈x.2.2.2.2.2.1,I64 a)∧x.2.2.2.2.1.length≤1000000∧x.2.2.2.2.2.1.length≤1000000
theorem makesF_any (po ap ab:Option Addr) (pn pc an cp bn cb:Nat) (nm:ByteArray) (rt pl:Int) (src:Bool) (qb qo qn qc tr tb mb:Nat) (f:Fun) (w0 wM w:World) (k i:Nat) (xv:Value) (hbk:BlksR w0 f.2.2.2.1 (.slice ab bn cb)) (hbn:bn=f.2.2.2.1.length) (hM:Mod f) (hT:L5.Tab w0) (h0M:w0.heap.size≤wM.heap.size) (hmb:w0.heap.size≤mb) (hqb:qb < wM.heap.size) (hqn:qn=f.2.2.2.1.length) (hP:PrC wM f qb qo)
  (hKf:an+(bigL f f.2.2.2.1.length 0).length≤1000000) (hKx:KeyX (insN f k i)) (htm:tb=mb→mkX (insN f k i)=0) (hk:k < bn) (hi:i < (blkN f k).length) (hS:S1 w0 wM f mb tb an k i w) (hx:InsV w (insN f k i) xv):
  Calls Tryz.prog 69 #[.agg #[.slice po pn pc,.string nm,.slice ap an cp,.int .i64 rt,.slice ab bn cb,.int .i64 pl,.bool src,.slice (some ⟨qb,qo,none⟩) qn qc,.pointer (some ⟨tr,0,none⟩),.map (some tb),.map (some mb)],.agg #[.int .i64 k,.int .i64 i],xv] w fun e w'=>e= .returned (.int .i64 (valC f k i src))∧(valC f k i src=0→S1 w0 wM f mb tb an k (i+1) w')∧Chg w0.heap.size w w':=by
 obtain⟨h1,h2,h3,h4⟩:=hS
 have hkl:k < f.2.2.2.1.length:=by omega
 obtain⟨ao,to,ca,ct,rfl,s1,s2,_⟩:=hx
 have hval:valC f k i src=if(decide (L5.imakes (insN f k i).1 (insN f k i).2.2.2.1≠0) && (plM f k i (insN f k i).2.1).isSome)=true then 5 else if(decide ((insN f k i).1=20) && !phiF f k i)=true then 11 else if(src && (decide ((insN f k i).1=23) || decide ((insN f k i).1=24) || decide ((insN f k i).1=25) || (decide ((insN f k i).1=21) && decide ((insN f k i).2.2.1≠0))))=true then 2 else 0:=by
  unfold valC laterX
  have e:(madeF f (insN f k i).2.1 k i).2.2.2=(plM f k i (insN f k i).2.1).isSome:=by
   rw [made_pl]
   unfold plM
   cases plF f (insN f k i).2.1 k i <;> rfl
  rw [e]
  rfl
 have hnl:an+(bigL f k i).length < maxLen:=by
  have:=bigL_le hkl (Nat.le_of_lt hi)
  unfold maxLen
  omega
 have hs2:=h2.1
 refine(makes11_try po ap ab pn pc an cp bn cb nm rt pl src qb qo qn qc tr tb mb (insN f k i).1 (insN f k i).2.1 (insN f k i).2.2.1 (insN f k i).2.2.2.1 (insN f k i).2.2.2.2.2.2.2 (insN f k i).2.2.2.2.1 (insN f k i).2.2.2.2.2.1 (bs (insN f k i).2.2.2.2.2.2.1) ao to ca ct (k:Int) (i:Int) w w0.heap.size (an+(bigL f k i).length) (plM f k i) (phiF f k i) (by omega) hmb hnl (hT.below h1) h3 (fun h=>wf_of (hKx.1 h)) ?_ (valC f k i src) hval).mono ?_
 ·intro h20 w' hC
  have hb':=h1.trans hC.1
  have hK':=h2.chg hC
  obtain⟨qa,qac,hq1,hq2⟩:=hP k hkl
  rw [phi_join hkl]
  refine joins_try po ap ab pn pc an cp bn cb nm rt pl src qb qo qn qc tr tb mb k (i:Int) (predTo f k f.2.2.2.1.length) (insN f k i).2.2.2.2.2.1 to qa ct qac w' (decide (i=0) || decide ((insN f k (i - 1)).1=20)) (predTo_nodup f k _) ?_ hKx.2.2.2.2 ?_ (fun a ha=>wf_of (hKx.2.2.1 a ha)) (by omega) ?_ (Nat.lt_of_lt_of_le hqb hK'.1) (hK'.2 _ _ hq1) (hK'.sl hq2) ?_
  ·refine Nat.le_trans (predTo_len f k _) hM.1
  ·intro a ha
   have h5:=predTo_num f k _ a ha
   have h6:=hM.1
   exact wf_of ⟨by omega,by omega⟩
  ·exact chg_sl hC s2
  ·by_cases hi0:i=0
   ·left
    subst hi0
    simp
   ·right
    obtain⟨g,o,aoo,acc,e1,e2,e3,e4⟩:=blks_row (k:=k) (hbn ▸ hbk) (by omega)
    obtain⟨g2,o2,e5,e6⟩:=blk_ins (i:=i - 1) (e4.below hb') (by omega)
    subst e5
    obtain⟨_,_,_,_,_,d0,_⟩:=e6.val
    have h6:=hM.blk k
    refine⟨i - 1,g,o,g2,o2,(blkN f k).length,acc,(insN f k (i - 1)).1,by omega,e1,Nat.lt_of_lt_of_le e2 (Nat.le_trans (by omega) hb'.size),hk,(hb'.cell (p:=⟨g,o+k,none⟩) e2).trans e3,by omega,h6,e6.1,d0,?_⟩
    simp [hi0]
 ·rintro e w' ⟨rfl,hs',hC,hG,hB⟩
  refine⟨rfl,fun hv=> ?_,hC⟩
  refine⟨h1.trans hC.1,h2.chg hC,?_,?_⟩
  ·have hs3:=hs' hv
   rw [bigL_step hi,List.length_append]
   have e1:putM (plM f k i) (insN f k i).2.1 ((k:Int),(i:Int)) (decide (L5.imakes (insN f k i).1 (insN f k i).2.2.2.1≠0))=plM f k (i+1):=by
    funext a
    unfold putM plM
    by_cases hm0:mkX (insN f k i)=0
    ·rw [plF_stay hkl hi hm0]
     have:(decide (L5.imakes (insN f k i).1 (insN f k i).2.2.2.1≠0))=false:=by
      unfold mkX at hm0
      simp [hm0]
     rw [this]
     simp
    ·have hno:plF f (insN f k i).2.1 k i=none:=by
      rw [hval] at hv
      split at hv
      ·omega
      ·rename_i hc
       unfold mkX at hm0
       cases hp:plF f (insN f k i).2.1 k i with
       |none=>rfl
       |some m=>
        exfalso
        apply hc
        unfold plM
        rw [hp]
        simp [hm0]
     rw [plF_put hkl hi hm0 hno a]
     have:(decide (L5.imakes (insN f k i).1 (insN f k i).2.2.2.1≠0))=true:=by
      unfold mkX at hm0
      simp [hm0]
     rw [this]
     by_cases ha:a=(insN f k i).2.1
     ·simp [ha]
     ·simp [ha]
   rw [e1] at hs3
   exact hs3
  ·by_cases hm0:mkX (insN f k i)=0
   ·exact NMap.below h4 (hB hm0)
   ·exact NMap.kept h4 hG (fun e=>hm0 (htm (by injection e)))
theorem tkI_tkC {f:Fun} {v kd b1 b2:Int} (hy:∀a,tyL f a (bigL f f.2.2.2.1.length 0)=(plF f a f.2.2.2.1.length 0).map (·.2.2)):tkI (succsF f) (plM f f.2.2.2.1.length 0) (fun a=>tyL f a (bigL f f.2.2.2.1.length 0)) v kd b1 b2=tkC f v kd (b1,b2):=by
 unfold tkI tkC plM
 simp only [hy]
 cases plF f v f.2.2.2.1.length 0 with
 |none=>rfl
 |some m=>rfl
theorem takesF_any (po ap ab:Option Addr) (pn pc an cp bn cb:Nat) (nm:ByteArray) (rt pl:Int) (src:Bool) (qb qo qn qc tr tb mb:Nat) (p:List Fun) (f:Fun) (w0 wM w:World) (k i:Nat) (xv:Value) {ub uo db dd uc dc:Nat} (hp:ProgR w0 p (.slice po pn pc)) (hpn:pn=p.length) (hpl:p.length≤1000000) (hrt:rt=f.2.2.1) (hbk:BlksR w0 f.2.2.2.1 (.slice ab bn cb)) (hbn:bn=f.2.2.2.1.length) (hT:L5.Tab w0)
  (hTr:TreeC wM (succsF f) (succsF f).length tr ub uo db dd uc dc) (hTo:Tos f) (h0:0 < f.2.2.2.1.length) (hR:reachB f=true) (hy:∀a,tyL f a (bigL f f.2.2.2.1.length 0)=(plF f a f.2.2.2.1.length 0).map (·.2.2)) (hck:checkC (insN f k i)=0) (hphi:(insN f k i).1=20→phiF f k i=true)
  (hKx:KeyX (insN f k i)) (hk:k < bn) (hS:S1 w0 wM f mb tb an f.2.2.2.1.length 0 w) (hx:InsV w (insN f k i) xv):
  Calls Tryz.prog 70 #[.agg #[.slice po pn pc,.string nm,.slice ap an cp,.int .i64 rt,.slice ab bn cb,.int .i64 pl,.bool src,.slice (some ⟨qb,qo,none⟩) qn qc,.pointer (some ⟨tr,0,none⟩),.map (some tb),.map (some mb)],.agg #[.int .i64 k,.int .i64 i],xv] w fun e w'=>e= .returned (.int .i64 (lookC p f k i))∧Below w.heap.size w w':=by
 obtain⟨h1,h2,h3,h4⟩:=hS
 have hkl:k < f.2.2.2.1.length:=by omega
 obtain⟨ao,to,ca,ct,rfl,s1,s2,_⟩:=hx
 have hG:=gr_succs hTo h0
 have hcn:=check_cnt hck
 have hlook:lookC p f k i=if headX p f (insN f k i)≠0 then headX p f (insN f k i)else(fstN (fun n=>if takC p f k i n≠0 then some (takC p f k i n)else none) (insN f k i).2.2.2.2.1.length).getD 0:=rfl
 have hin:(insN f k i).1=20→∀n,n < (insN f k i).2.2.2.2.1.length→n < (insN f k i).2.2.2.2.2.1.length∧0≤(insN f k i).2.2.2.2.2.1.getD n 0∧(insN f k i).2.2.2.2.2.1.getD n 0 < f.2.2.2.1.length:=fun h20 n hn=>by
  have hlt:n < (insN f k i).2.2.2.2.2.1.length:=by
   unfold cntOk at hcn
   rw [if_pos h20] at hcn
   simp at hcn
   omega
  have hj:=hphi h20
  rw [phi_join hkl,Bool.and_eq_true] at hj
  refine⟨hlt,join_num hj.2 _ ?_⟩
  rw [List.getD_eq_getElem?_getD,List.getElem?_eq_getElem hlt]
  exact List.getElem_mem hlt
 rw [hlook]
 refine takes11_try po ap ab pn pc an cp bn cb nm rt pl src qb qo qn qc tr tb mb (insN f k i).1 (insN f k i).2.1 (insN f k i).2.2.1 (insN f k i).2.2.2.1 (insN f k i).2.2.2.2.2.2.2 (insN f k i).2.2.2.2.1 (insN f k i).2.2.2.2.2.1 (bs (insN f k i).2.2.2.2.2.2.1) ao to ca ct (k:Int) (i:Int) w (headX p f (insN f k i)) (wantX p f (insN f k i)) (fromX f k i) (takC p f k i) hKx.2.2.2.1 s1 ?_ ?_ ?_
 ·intro w' b
  have hb:=h1.trans ⟨b.os,b.tape,b.output,b.size,fun j hj=>b.block j (Nat.lt_of_lt_of_le hj h1.size)⟩
  exact wanted_any po ap ab pn pc an cp bn cb nm rt pl src qb qo qn qc tr tb mb (insN f k i).1 (insN f k i).2.1 (insN f k i).2.2.1 (insN f k i).2.2.2.1 (insN f k i).2.2.2.2.2.2.2 (insN f k i).2.2.2.2.1 (insN f k i).2.2.2.2.2.1 (bs (insN f k i).2.2.2.2.2.2.1) ao to ca ct p f (insN f k i).2.2.2.2.2.2.1 w' (hp.below hb) hpn hpl rfl hrt (hT.below hb) (insN f k i) rfl hKx.2.2.2.1 hck
 ·intro n w' hn b
  have hb:=h1.trans ⟨b.os,b.tape,b.output,b.size,fun j hj=>b.block j (Nat.lt_of_lt_of_le hj h1.size)⟩
  by_cases h20:(insN f k i).1=20
  ·obtain⟨q1,q2,q3⟩:=hin h20 n hn
   have e:fromX f k i n=((insN f k i).2.2.2.2.2.1.getD n 0,((blkN f ((insN f k i).2.2.2.2.2.1.getD n 0).toNat).length:Int)):=by unfold fromX;rw [if_pos h20]
   rw [e]
   refine from_phi po ap ab pn pc an cp bn cb nm rt pl src qb qo qn qc tr tb mb (insN f k i).1 (insN f k i).2.1 (insN f k i).2.2.1 (insN f k i).2.2.2.1 (insN f k i).2.2.2.2.2.2.2 (insN f k i).2.2.2.2.1 (insN f k i).2.2.2.2.2.1 (bs (insN f k i).2.2.2.2.2.2.1) ao to ca ct (k:Int) (i:Int) n _ _ w' q1 (s2.below b) rfl q2 (by omega) ?_ h20
   intro w'' b2
   obtain⟨g,o,aoo,acc,e1,e2,e3,e4⟩:=blks_row (k:=((insN f k i).2.2.2.2.2.1.getD n 0).toNat) (hbn ▸ hbk) (by omega)
   have hb2:=hb.trans ⟨b2.os,b2.tape,b2.output,b2.size,fun j hj=>b2.block j (Nat.lt_of_lt_of_le hj hb.size)⟩
   exact⟨g,o,aoo,acc,e1,(hb2.cell (p:=⟨g,o+((insN f k i).2.2.2.2.2.1.getD n 0).toNat,none⟩) e2).trans e3⟩
  ·have e:fromX f k i n=((k:Int),(i:Int)):=by unfold fromX;rw [if_neg h20]
   rw [e]
   exact from_other po ap ab pn pc an cp bn cb nm rt pl src qb qo qn qc tr tb mb (insN f k i).1 (insN f k i).2.1 (insN f k i).2.2.1 (insN f k i).2.2.2.1 (insN f k i).2.2.2.2.2.2.2 (insN f k i).2.2.2.2.1 (insN f k i).2.2.2.2.2.1 (bs (insN f k i).2.2.2.2.2.2.1) ao to ca ct (k:Int) (i:Int) (n:Int) w' h20
 ·intro n w' hn b
  have hK':=h2.chg (Chg.of_below (B:=0) b (Nat.zero_le _))
  have hwf:Wf6 ((insN f k i).2.2.2.2.1.getD n 0):=wf_of (hKx.2.1 _ (by rw [List.getD_eq_getElem?_getD,List.getElem?_eq_getElem hn];exact List.getElem_mem hn))
  have h:=taken_any po ap ab pn pc an cp bn cb nm rt pl src qb qo qn qc tr tb mb ((insN f k i).2.2.2.2.1.getD n 0) (wantX p f (insN f k i) n) (fromX f k i n).1 (fromX f k i n).2 w' hG (hK'.tree hTr) (NMap.below h3 b) (NMap.below h4 b) hwf
  rw [tkI_tkC hy,tk_eq hTo h0 hR hkl (fun h20=>(hin h20 n hn).2)] at h
  exact h
open Go Go.RowKit
open Mix (Up)
def Off (w:World) (b:Nat):Prop:=b < w.heap.size∧∀(cur:Array Value) (z:Nat × Nat),w.heap[b]? ≠some (Obj.cells cur 111 z)
theorem Off.below {w w':World} {b:Nat} (h:Off w b) (k:Below w.heap.size w w'):Off w' b:=⟨Nat.lt_of_lt_of_le h.1 k.size,fun cur z=>by rw [k.block b h.1];exact h.2 cur z⟩
theorem off_of {w:World} {b t:Nat} {cur:Array Value} {z:Nat × Nat} (h:w.heap[b]? =some (Obj.cells cur t z)) (ht:t≠111):Off w b:=⟨(Array.getElem?_eq_some_iff.1 h).1,fun cur' z' e=>by
 rw [h] at e
 injection e with e
 injection e with _ e
 exact ht e⟩
def SlG (w:World) (ao:Option Addr) (l:List Int):Prop:=l= []∨∃b o,ao=some ⟨b,o,none⟩∧Off w b∧∀i n,l[i]? =some n→w.cell? ⟨b,o+i,none⟩=some (.int .i64 n)
theorem SlG.sl {w:World} {ao:Option Addr} {l:List Int} (h:SlG w ao l):Sl w ao l:=by
 rcases h with h | ⟨b,o,e,hb,hc⟩
 ·exact .inl h
 ·exact .inr ⟨b,o,e,hb.1,hc⟩
theorem SlG.below {w w':World} {ao:Option Addr} {l:List Int} (h:SlG w ao l) (k:Below w.heap.size w w'):SlG w' ao l:=by
 rcases h with h | ⟨b,o,e,hb,hc⟩
 ·exact .inl h
 ·exact .inr ⟨b,o,e,hb.below k,fun i n hi=>(k.cell (p:=⟨b,o+i,none⟩) hb.1).trans (hc i n hi)⟩
def IntsG (w:World) (l:List Int) (v:Value):Prop:=∃ao c,v= .slice ao l.length c∧SlG w ao l
theorem IntsG.below {w w':World} {l:List Int} {v:Value} (h:IntsG w l v) (k:Below w.heap.size w w'):IntsG w' l v:=by
 obtain⟨ao,c,e,h⟩:=h
 exact⟨ao,c,e,h.below k⟩
def Up.intsG (l:List Int):Up:=⟨fun v w=>IntsG w l v,fun _ _ _ b h=>h.below b⟩
theorem own_slG {B:Nat} {w:World} {l:List Int} {v:Value} (h:w.ownsRow B 3 1 v l.length (ints l)):IntsG w l v:=by
 have h2:=h
 rcases h2.2 with ⟨hn,hx⟩ | ⟨g,cap,cur,e1,h1,h2,h3,h4,h5,h6⟩
 ·have hl:l= []:=by
   have:=h.1
   cases l with
   |nil=>rfl
   |cons a t=>rw [hx] at this;simp at this
  subst hl
  exact⟨none,0,hn,.inl rfl⟩
 ·refine⟨some ⟨g,0,none⟩,cap,e1,?_⟩
  by_cases hl:l= []
  ·exact .inl hl
  ·refine .inr ⟨g,0,rfl,off_of h2 (by decide),fun i n hi=> ?_⟩
   obtain⟨ao,c,e,hs,_⟩:=ints_of h
   rw [e1] at e
   injection e with e2 e3 e4
   rcases hs with hs | ⟨b,o,e5,hb,hc⟩
   ·exact absurd hs hl
   ·rw [←e2] at e5
    injection e5 with e5
    injection e5 with e6 e7
    subst e6 e7
    exact hc i n hi
theorem intsG_of {B:Nat} {w:World} {l:List Int} {v:Value} (h:w.ownsRow B 3 1 v l.length (ints l)):IntsG w l v:=own_slG h
theorem slG_row {B g n:Nat} {w:World} {l:List Int} (h:RowAt w B 3 g n (ints l)):SlG w (some ⟨g,0,none⟩) l:=by
 by_cases hl:l= []
 ·exact .inl hl
 ·rcases Sl.of_row h with hs | ⟨b,o,e5,hb,hc⟩
  ·exact absurd hs hl
  ·injection e5 with e5
   injection e5 with e6 e7
   subst e6 e7
   exact .inr ⟨g,0,rfl,off_of (rowAt_heap h) (by decide),hc⟩
def TreeG (w:World) (f:Fun) (v:Value):Prop:=∃(t:Nat) (uo dd:Option Addr) (uc dc:Nat),v= .pointer (some ⟨t,0,none⟩)∧L5.Box w t [.slice uo f.2.2.2.1.length uc,.slice dd f.2.2.2.1.length dc]∧Off w t∧SlG w uo (upsL (succsF f))∧SlG w dd (dpsL (succsF f))
theorem TreeG.below {w w':World} {f:Fun} {v:Value} (h:TreeG w f v) (b:Below w.heap.size w w'):TreeG w' f v:=by
 obtain⟨t,uo,dd,uc,dc,e,h1,h2,h3,h4⟩:=h
 exact⟨t,uo,dd,uc,dc,e,h1.below b,h2.below b,h3.below b,h4.below b⟩
def RowsG (w:World) (ll:List (List Int)) (v:Value):Prop:=∃g o c,v= .slice (some ⟨g,o,none⟩) ll.length c∧Off w g∧∀k l,ll[k]? =some l→∃ao ac,w.cell? ⟨g,o+k,none⟩=some (.slice ao l.length ac)∧SlG w ao l
theorem RowsG.below {w w':World} {ll:List (List Int)} {v:Value} (h:RowsG w ll v) (b:Below w.heap.size w w'):RowsG w' ll v:=by
 obtain⟨g,o,c,e,h1,h2⟩:=h
 refine⟨g,o,c,e,h1.below b,fun k l hl=> ?_⟩
 obtain⟨ao,ac,q1,q2⟩:=h2 k l hl
 exact⟨ao,ac,(b.cell (p:=⟨g,o+k,none⟩) h1.1).trans q1,q2.below b⟩
theorem rowsG_of {B:Nat} {w:World} {ll:List (List Int)} {v:Value} (h:RowsO B w ll v) (h0:0 < ll.length):RowsG w ll v:=by
 obtain⟨us,h1,h2,h3⟩:=h
 have h1':=h1
 rcases h1'.2 with ⟨hn,hx⟩ | ⟨g,cap,cur,e1,q1,q2,q3,q4,q5,q6⟩
 ·rw [hx] at h2
  simp at h2
  omega
 ·subst e1
  refine⟨g,0,cap,rfl,off_of q2 (by decide),fun k l hl=> ?_⟩
  obtain⟨u,hu,ho⟩:=h3 k l hl
  obtain⟨ao,c,rfl,hs⟩:=own_slG ho
  refine⟨ao,c,?_,hs⟩
  have:=World.ownsRow.cells h1 (g:=g) rfl k _ hu
  rw [Nat.zero_add]
  rw [Addr.add_lit,Nat.zero_add] at this
  exact this
def ofUpG (fv ov:Value) (f:Fun) (t:Tmp):Up:=match t with
 |7=>Up.eq ov
 |8 | 10=>Up.eq fv
 |9=>Up.ints (placesF f)
 |11=>Up.rows (predsF f)
 |12 | 4=>Up.intsG (upsL (succsF f))
 |_=>Up.any
theorem domOfG_any (f:Fun) (v:Value) (w:World) (hv:FunV w f v) (hF:Ful f) (hT:Tos f) (h0:0 < f.2.2.2.1.length):
  Calls Tryz.prog 67 #[v] w fun e w'=>∃a,e= .returned (.pointer (some a))∧TreeG w' f (.pointer (some a))∧Below w.heap.size w w':=by
 have hv2:=hv
 obtain⟨vp,vb,rfl,_,_⟩:=hv2
 have b0:=below_box w (.cells #[.string (bs f.1),vp,.int .i64 f.2.2.1,vb,.int .i64 f.2.2.2.2] 36)
 have X0:=hide (L5.Box.new w [.string (bs f.1),vp,.int .i64 f.2.2.1,vb,.int .i64 f.2.2.2.2] 36)
 have HV:=hide (hv.below b0)
 have B0:=hide b0
 have HIn:=hide (upIn_of hF hT h0)
 have HGr:=hide (gr_succs hT h0)
 have HOu:=hide (ordU_of hT h0)
 have hN:f.2.2.2.1.length≤1000000:=hF.1
 have hol:(orderF f).length≤1000000:=Nat.le_trans (orderF_len hT h0) hF.1
 have HCo:=hide (fun v w hv=>orderP_any f v w hv hF hT h0)
 have HCp:=hide (fun v w hv=>placesP_any f v w hv hF hT h0)
 have HCr:=hide (fun v w hv=>preds_any f v w hv hF hT)
 have HSl:=hide (succsF_len f)
 have HPl:=hide (placesF_len f)
 clear b0 hv hF hT
 obtain⟨lp,cp,rfl⟩:∃ao c,vp= .slice ao f.2.1.length c:=by
  obtain⟨vp',vb',e,⟨ao,c,e2,_⟩,_⟩:=HV.out
  injection e with e
  have e1:=congrArg (fun a=>a[1]?) e
  simp at e1
  exact⟨ao,c,by rw [e1,e2]⟩
 obtain⟨lb,cb,rfl⟩:∃ao c,vb= .slice ao f.2.2.2.1.length c:=by
  obtain⟨vp',vb',e,_,⟨ao,c,e2,_⟩⟩:=HV.out
  injection e with e
  have e1:=congrArg (fun a=>a[3]?) e
  simp at e1
  exact⟨ao,c,by rw [e1,e2]⟩
 generalize bs f.1=nm at *
 generalize f.2.1.length=lps at *
 generalize f.2.2.1=rt at *
 obtain⟨lbs,hlbs⟩:∃n,n=f.2.2.2.1.length:=⟨_,rfl⟩
 rw [←hlbs] at X0 HV B0 h0 hN ⊢
 have HLB:=hide hlbs
 clear hlbs
 generalize f.2.2.2.2=pl at *
 go_enter Tryz.func67,Tryz.ntmps67
 go_upto_region 1 with fail
 show Code.wp _ _ _ _ (w.alloc (.cells #[.string nm,.slice lp lps cp,.int .i64 rt,.slice lb lbs cb,.int .i64 pl] 36))
 replace X0:Hid (L5.Box (w.alloc (.cells #[.string nm,.slice lp lps cp,.int .i64 rt,.slice lb lbs cb,.int .i64 pl] 36)) w.heap.size [.string nm,.slice lp lps cp,.int .i64 rt,.slice lb lbs cb,.int .i64 pl]):=X0
 generalize w.alloc (.cells #[.string nm,.slice lp lps cp,.int .i64 rt,.slice lb lbs cb,.int .i64 pl] 36)=W at *
 generalize hq:w.heap.size=q at *
 obtain⟨x0,x1,x2,x3,x4⟩:_∧_∧_∧_∧_:=⟨X0.out.2 0 _ rfl,X0.out.2 1 _ rfl,X0.out.2 2 _ rfl,X0.out.2 3 _ rfl,X0.out.2 4 _ rfl⟩
 have HO:=hide (HCo.out _ W HV.out)
 go_wp2_with fail
 refine HO.out.mono ?_;rintro e w2 ⟨u,rfl,hu,b2⟩
 have HOi:=hide (ints_of hu)
 obtain⟨oo,oc,rfl⟩:=own_len hu
 have X2:=hide (X0.out.below b2)
 have HV2:=hide (HV.out.below b2)
 have B2:Hid (Below w.heap.size w w2):=hide (by have h:=B0.out;rw [←hq] at h;exact below_step h b2)
 clear x0 x1 x2 x3 x4 HO hu b2 X0 HV HCo
 have CP:∀w,Below w2.heap.size w2 w→Calls Tryz.prog 97 #[(.agg #[.string nm,.slice lp lps cp,.int .i64 rt,.slice lb lbs cb,.int .i64 pl])] w fun e w'=>∃v,e= .returned v∧Below w.heap.size w w'∧IntsV w' (placesF f) v:=fun w b=>(HCp.out _ w (HV2.out.below b)).mono fun e w' ⟨g,he,h,b'⟩=>⟨_,he,b',places_read h⟩
 have CR:∀w,Below w2.heap.size w2 w→Calls Tryz.prog 66 #[(.agg #[.string nm,.slice lp lps cp,.int .i64 rt,.slice lb lbs cb,.int .i64 pl])] w fun e w'=>∃v,e= .returned v∧Below w.heap.size w w'∧RowsV w' (predsF f) v:=fun w b=>(HCr.out _ w (HV2.out.below b)).mono fun e w' ⟨v,he,h,b'⟩=>⟨_,he,b',h.read⟩
 have CV:∀w,Below w2.heap.size w2 w→∀(p9 p11:Value),IntsV w (placesF f) p9→RowsV w (predsF f) p11→Calls Tryz.prog 96 #[(.slice oo (orderF f).length oc),p9,p11] w fun e w'=>∃v,e= .returned v∧Below w.heap.size w w'∧IntsG w' (upsL (succsF f)) v:=by
  rintro w b p9 p11 ⟨po,pc,rfl,hps,_,_⟩ ⟨ro,rc,rfl,hrs,_,_⟩
  obtain⟨oo',oc',e,hos,_,_⟩:=HOi.out.below b
  injection e with e1 e2 e3
  subst e1 e3
  refine(ups_any (succsF f) (atF f) (orderF f) (placesF f) (predsF f) HIn.out oo po ro oc pc rc w hos hps hrs).mono ?_
  rintro e w' ⟨g,rfl,hr,hb⟩
  refine⟨_,rfl,hb,?_⟩
  have h1:(upsL (succsF f)).length=(succsF f).length:=upsL_len _
  unfold RowAt at hr
  rw [←h1] at hr ⊢
  exact intsG_of hr
 have CX:∃v w',Below w2.heap.size w2 w'∧IntsG w' (upsL (succsF f)) v:=by
  obtain⟨_,w3,v3,_,b3,h3⟩:=calls_exist (CP w2 (Below.refl _ _))
  obtain⟨_,w4,v4,_,b4,h4⟩:=calls_exist (CR w3 b3)
  obtain⟨_,w5,v5,_,b5,h5⟩:=calls_exist (CV w4 (below_step b3 b4) v3 v4 (h3.below b4) h4)
  exact⟨v5,w5,below_step (below_step b3 b4) b5,h5⟩
 have xs:=fun(w:World) (b:Below w2.heap.size w2 w)=>And.intro ((X2.out.below b).2 0 _ rfl) (And.intro ((X2.out.below b).2 1 _ rfl) (And.intro ((X2.out.below b).2 2 _ rfl) (And.intro ((X2.out.below b).2 3 _ rfl) ((X2.out.below b).2 4 _ rfl))))
 go_upto_region 2 with fail
 refine Mix.wp_region_mix (ofUpG (.agg #[.string nm,.slice lp lps cp,.int .i64 rt,.slice lb lbs cb,.int .i64 pl]) (.slice oo (orderF f).length oc) f) (by kernel_rfl) (by kernel_rfl) ?_
 refine Mix.mix_step rfl (valid_eq (.slice oo (orderF f).length oc) rfl) ?_ ?_
 ·intro w b k
  clear k
  simp [go_sem]
  exact⟨Below.refl _ _,fun d hd=>by cases hd;rfl⟩
 rintro v ⟨_,_,h⟩
 obtain rfl:v=(.slice oo (orderF f).length oc):=h _ rfl
 clear h
 simp only [Act.put,sU1,sU2,sU3]
 refine Mix.mix_step rfl (valid_eq (.agg #[.string nm,.slice lp lps cp,.int .i64 rt,.slice lb lbs cb,.int .i64 pl]) rfl) ?_ ?_
 ·intro w b k
  obtain⟨x0,x1,x2,x3,x4⟩:=xs w b
  clear k
  simp [go_sem,x0,x1,x2,x3,x4]
  exact⟨Below.refl _ _,fun d hd=>by cases hd;rfl⟩
 rintro v ⟨_,_,h⟩
 obtain rfl:v=(.agg #[.string nm,.slice lp lps cp,.int .i64 rt,.slice lb lbs cb,.int .i64 pl]):=h _ rfl
 clear h
 simp only [Act.put,sU1,sU2,sU3]
 refine Mix.mix_step rfl (valid_of (CP w2 (Below.refl _ _))) ?_ ?_
 ·intro w b k
  clear k
  simp [go_sem]
  exact Calls.mono (CP w b) fun e w' ⟨v,he,hb,hf⟩=>⟨v,he,hb,fun d hd=>by cases hd;exact hf⟩
 rintro p9 -
 simp only [Act.put,sU1,sU2,sU3]
 refine Mix.mix_step rfl (valid_eq (.agg #[.string nm,.slice lp lps cp,.int .i64 rt,.slice lb lbs cb,.int .i64 pl]) rfl) ?_ ?_
 ·intro w b k
  obtain⟨x0,x1,x2,x3,x4⟩:=xs w b
  clear k
  simp [go_sem,x0,x1,x2,x3,x4]
  exact⟨Below.refl _ _,fun d hd=>by cases hd;rfl⟩
 rintro v ⟨_,_,h⟩
 obtain rfl:v=(.agg #[.string nm,.slice lp lps cp,.int .i64 rt,.slice lb lbs cb,.int .i64 pl]):=h _ rfl
 clear h
 simp only [Act.put,sU1,sU2,sU3]
 refine Mix.mix_step rfl (valid_of (CR w2 (Below.refl _ _))) ?_ ?_
 ·intro w b k
  clear k
  simp [go_sem]
  exact Calls.mono (CR w b) fun e w' ⟨v,he,hb,hf⟩=>⟨v,he,hb,fun d hd=>by cases hd;exact hf⟩
 rintro p11 -
 simp only [Act.put,sU1,sU2,sU3]
 refine Mix.mix_step rfl (by obtain⟨v,w',b,h⟩:=CX;exact⟨v,w',b,fun d hd=>by cases hd;exact h⟩) ?_ ?_
 ·intro w b k
  have f1:IntsV w (placesF f) p9:=k 9 (by decide +kernel) (by simp [Mix.add]) p9 rfl
  have f2:RowsV w (predsF f) p11:=k 11 (by decide +kernel) (by simp [Mix.add]) p11 rfl
  clear k
  simp [go_sem]
  exact Calls.mono (CV w b p9 p11 f1 f2) fun e w' ⟨v,he,hb,hf⟩=>⟨v,he,hb,fun d hd=>by cases hd;exact hf⟩
 rintro p12 -
 simp only [Act.put,sU1,sU2,sU3]
 refine Mix.mix_step rfl (by obtain⟨v,w',b,h⟩:=CX;exact⟨v,w',b,fun d hd=>by cases hd;exact h⟩) ?_ ?_
 ·intro w b k
  have f1:IntsG w (upsL (succsF f)) p12:=k 12 (by decide +kernel) (by simp [Mix.add]) p12 rfl
  clear k
  simp [go_sem]
  exact⟨Below.refl _ _,fun d hd=>by cases hd;exact f1⟩
 rintro p4 -
 simp only [Act.put,sU1,sU2,sU3]
 refine Mix.mix_nil ?_
 intro w4 b4 hk
 have f4:IntsG w4 (upsL (succsF f)) p4:=hk 4 (by simp [Mix.add]) p4 rfl
 clear CP CR CV CX xs hk HCp HCr HIn X2 HV2
 obtain⟨uo,uc,rfl,husG⟩:=f4
 have hus:=husG.sl
 have HUg:=hide husG
 clear husG
 have e4:(upsL (succsF f)).length=lbs:=by rw [upsL_len,HSl.out,HLB.out]
 rw [e4]
 have HUs:=hide hus
 have HD:Hid (Calls Tryz.prog 98 #[.slice oo (orderF f).length oc,.slice uo lbs uc] w4 fun e w'=>∃g,e= .returned (.slice (some ⟨g,0,none⟩) lbs lbs)∧RowAt w' w4.heap.size 3 g lbs (ints (dpsL (succsF f)))∧Below w4.heap.size w4 w'):=hide (by
  obtain⟨oo',oc',e,hos,_,_⟩:=HOi.out.below b4
  injection e with e1 e2 e3
  subst e1 e3
  have e5:(succsF f).length=lbs:=by rw [HSl.out,HLB.out]
  have:=depths_any (succsF f) HGr.out (orderF f) HOu.out (by rw [e5];exact hN) hol oo uo oc uc w4 hos hus
  rw [e5] at this
  exact this)
 have B4:Hid (Below w.heap.size w w4):=hide (below_step B2.out b4)
 clear hus e4 b4 B2 HOi
 go_wp2_with fail
 refine HD.out.mono ?_;rintro e w5 ⟨g,rfl,hr5,b5⟩
 have HE:Hid (TreeG (w5.alloc (.cells #[.slice uo lbs uc,.slice (some ⟨g,0,none⟩) lbs lbs] 136)) f (.pointer (some ⟨w5.heap.size,0,none⟩))∧Below w.heap.size w (w5.alloc (.cells #[.slice uo lbs uc,.slice (some ⟨g,0,none⟩) lbs lbs] 136))):=hide (by
  have b6:=below_box w5 (.cells #[.slice uo lbs uc,.slice (some ⟨g,0,none⟩) lbs lbs] 136)
  refine⟨⟨w5.heap.size,uo,some ⟨g,0,none⟩,uc,lbs,rfl,?_,off_of (heap_alloc_new w5 _) (by decide),(HUg.out.below b5).below b6,(slG_row hr5).below b6⟩,below_step (below_step B4.out b5) b6⟩
  rw [←HLB.out]
  exact L5.Box.new w5 [.slice uo lbs uc,.slice (some ⟨g,0,none⟩) lbs lbs] 136)
 clear HD hr5 b5 HUs B4 HUg
 go_wp2_with fail
 go_ret
 exact⟨_,rfl,HE.out.1,HE.out.2⟩
def TyM (B:Nat) (w:World) (f:Fun) (v:Value):Prop:=∃b,v= .map (some b)∧B≤b∧IMap w b 1000000 (fun a=>tyL f a (bigL f f.2.2.2.1.length 0))
def Map0 (B:Nat) (w:World) (v:Value):Prop:=∃b,v= .map (some b)∧B≤b∧w.heap[b]? =some (.map #[] 0)
def BoxL (B:Nat) (w:World) (v:Value):Prop:=∃b,v= .pointer (some ⟨b,0,none⟩)∧B≤b∧w.heap[b]? =some (.cells #[.slice none 0 0,.string ⟨#[]⟩,.slice none 0 0,.int .i64 0,.slice none 0 0,.int .i64 0,.bool false,.slice none 0 0,.pointer none,.map none,.map none] 111 (0,0))
theorem TyM.below {B:Nat} {w w':World} {f:Fun} {v:Value} (h:TyM B w f v) (b:Below w.heap.size w w'):TyM B w' f v:=by
 obtain⟨q,e,h1,h2⟩:=h
 exact⟨q,e,h1,NMap.below h2 b⟩
theorem Map0.below {B:Nat} {w w':World} {v:Value} (h:Map0 B w v) (b:Below w.heap.size w w'):Map0 B w' v:=by
 obtain⟨q,e,h1,h2⟩:=h
 exact⟨q,e,h1,(b.block q (Array.getElem?_eq_some_iff.1 h2).1).trans h2⟩
theorem BoxL.below {B:Nat} {w w':World} {v:Value} (h:BoxL B w v) (b:Below w.heap.size w w'):BoxL B w' v:=by
 obtain⟨q,e,h1,h2⟩:=h
 exact⟨q,e,h1,(b.block q (Array.getElem?_eq_some_iff.1 h2).1).trans h2⟩
def Up.treeG (f:Fun):Up:=⟨fun v w=>TreeG w f v,fun _ _ _ b h=>h.below b⟩
def Up.rowsG (ll:List (List Int)):Up:=⟨fun v w=>RowsG w ll v,fun _ _ _ b h=>h.below b⟩
def Up.tyM (B:Nat) (f:Fun):Up:=⟨fun v w=>TyM B w f v,fun _ _ _ b h=>h.below b⟩
def Up.map0 (B:Nat):Up:=⟨fun v w=>Map0 B w v,fun _ _ _ b h=>h.below b⟩
def Up.boxl (B:Nat):Up:=⟨fun v w=>BoxL B w v,fun _ _ _ b h=>h.below b⟩
def LookU (B:Nat) (po:Option Addr) (pn pc:Nat) (nm:ByteArray) (lp:Option Addr) (lps cp:Nat) (rt:Int) (lb:Option Addr) (lbs cb:Nat) (pl:Int) (src:Bool) (f:Fun) (w:World) (v:Value):Prop:=
 ∃(qb qo qc tr tb mb:Nat),v= .agg #[.slice po pn pc,.string nm,.slice lp lps cp,.int .i64 rt,.slice lb lbs cb,.int .i64 pl,.bool src,.slice (some ⟨qb,qo,none⟩) lbs qc,.pointer (some ⟨tr,0,none⟩),.map (some tb),.map (some mb)]∧RowsG w (predsF f) (.slice (some ⟨qb,qo,none⟩) lbs qc)∧TreeG w f (.pointer (some ⟨tr,0,none⟩))∧TyM B w f (.map (some tb))∧Map0 B w (.map (some mb))
theorem LookU.below {B:Nat} {po:Option Addr} {pn pc:Nat} {nm:ByteArray} {lp:Option Addr} {lps cp:Nat} {rt:Int} {lb:Option Addr} {lbs cb:Nat} {pl:Int} {src:Bool} {f:Fun} {w w':World} {v:Value} (h:LookU B po pn pc nm lp lps cp rt lb lbs cb pl src f w v) (b:Below w.heap.size w w'):LookU B po pn pc nm lp lps cp rt lb lbs cb pl src f w' v:=by
 obtain⟨qb,qo,qc,tr,tb,mb,e,h1,h2,h3,h4⟩:=h
 exact⟨qb,qo,qc,tr,tb,mb,e,h1.below b,h2.below b,h3.below b,h4.below b⟩
def Up.lookU (B:Nat) (po:Option Addr) (pn pc:Nat) (nm:ByteArray) (lp:Option Addr) (lps cp:Nat) (rt:Int) (lb:Option Addr) (lbs cb:Nat) (pl:Int) (src:Bool) (f:Fun):Up:=⟨fun v w=>LookU B po pn pc nm lp lps cp rt lb lbs cb pl src f w v,fun _ _ _ b h=>h.below b⟩
def fnUp (sv fv:Value) (src:Bool) (f:Fun) (B:Nat) (U:Up) (t:Tmp):Up:=match t with
 |19=>Up.eq sv
 |20 | 22 | 24 | 26=>Up.eq fv
 |21=>Up.eq (.bool src)
 |23=>Up.rowsG (predsF f)
 |25=>Up.treeG f
 |27=>Up.tyM B f
 |28=>Up.map0 B
 |29=>U
 |8=>Up.boxl B
 |_=>Up.any
theorem set_look {w:World} {b:Nat} (po:Option Addr) (pn pc:Nat) (nm:ByteArray) (lp:Option Addr) (lps cp:Nat) (rt:Int) (lb:Option Addr) (lbs cb:Nat) (pl:Int) (src:Bool) (qb qo qc tr tb mb:Nat) (h:w.heap[b]? =some (.cells #[.slice none 0 0,.string ⟨#[]⟩,.slice none 0 0,.int .i64 0,.slice none 0 0,.int .i64 0,.bool false,.slice none 0 0,.pointer none,.map none,.map none] 111 (0,0))):
  (((((((((((w.setCell ⟨b,0,none⟩ (.slice po pn pc)).setCell ⟨b,1,none⟩ (.string nm)).setCell ⟨b,2,none⟩ (.slice lp lps cp)).setCell ⟨b,3,none⟩ (.int .i64 rt)).setCell ⟨b,4,none⟩ (.slice lb lbs cb)).setCell ⟨b,5,none⟩ (.int .i64 pl)).setCell ⟨b,6,none⟩ (.bool src)).setCell ⟨b,7,none⟩ (.slice (some ⟨qb,qo,none⟩) lbs qc)).setCell ⟨b,8,none⟩ (.pointer (some ⟨tr,0,none⟩))).setCell ⟨b,9,none⟩ (.map (some tb))).setCell ⟨b,10,none⟩ (.map (some mb))).heap[b]? =some (.cells #[.slice po pn pc,.string nm,.slice lp lps cp,.int .i64 rt,.slice lb lbs cb,.int .i64 pl,.bool src,.slice (some ⟨qb,qo,none⟩) lbs qc,.pointer (some ⟨tr,0,none⟩),.map (some tb),.map (some mb)] 111 (0,0)):=by
 have h1:=(heap_setCell_same w b 0 _ 111 (.slice po pn pc) h).trans (show _=some (Obj.cells #[.slice po pn pc,.string ⟨#[]⟩,.slice none 0 0,.int .i64 0,.slice none 0 0,.int .i64 0,.bool false,.slice none 0 0,.pointer none,.map none,.map none] 111 (0,0)) from rfl)
 have h2:=(heap_setCell_same (w.setCell ⟨b,0,none⟩ (.slice po pn pc)) b 1 _ 111 (.string nm) h1).trans (show _=some (Obj.cells #[.slice po pn pc,.string nm,.slice none 0 0,.int .i64 0,.slice none 0 0,.int .i64 0,.bool false,.slice none 0 0,.pointer none,.map none,.map none] 111 (0,0)) from rfl)
 have h3:=(heap_setCell_same ((w.setCell ⟨b,0,none⟩ (.slice po pn pc)).setCell ⟨b,1,none⟩ (.string nm)) b 2 _ 111 (.slice lp lps cp) h2).trans (show _=some (Obj.cells #[.slice po pn pc,.string nm,.slice lp lps cp,.int .i64 0,.slice none 0 0,.int .i64 0,.bool false,.slice none 0 0,.pointer none,.map none,.map none] 111 (0,0)) from rfl)
 have h4:=(heap_setCell_same (((w.setCell ⟨b,0,none⟩ (.slice po pn pc)).setCell ⟨b,1,none⟩ (.string nm)).setCell ⟨b,2,none⟩ (.slice lp lps cp)) b 3 _ 111 (.int .i64 rt) h3).trans (show _=some (Obj.cells #[.slice po pn pc,.string nm,.slice lp lps cp,.int .i64 rt,.slice none 0 0,.int .i64 0,.bool false,.slice none 0 0,.pointer none,.map none,.map none] 111 (0,0)) from rfl)
 have h5:=(heap_setCell_same ((((w.setCell ⟨b,0,none⟩ (.slice po pn pc)).setCell ⟨b,1,none⟩ (.string nm)).setCell ⟨b,2,none⟩ (.slice lp lps cp)).setCell ⟨b,3,none⟩ (.int .i64 rt)) b 4 _ 111 (.slice lb lbs cb) h4).trans (show _=some (Obj.cells #[.slice po pn pc,.string nm,.slice lp lps cp,.int .i64 rt,.slice lb lbs cb,.int .i64 0,.bool false,.slice none 0 0,.pointer none,.map none,.map none] 111 (0,0)) from rfl)
 have h6:=(heap_setCell_same (((((w.setCell ⟨b,0,none⟩ (.slice po pn pc)).setCell ⟨b,1,none⟩ (.string nm)).setCell ⟨b,2,none⟩ (.slice lp lps cp)).setCell ⟨b,3,none⟩ (.int .i64 rt)).setCell ⟨b,4,none⟩ (.slice lb lbs cb)) b 5 _ 111 (.int .i64 pl) h5).trans (show _=some (Obj.cells #[.slice po pn pc,.string nm,.slice lp lps cp,.int .i64 rt,.slice lb lbs cb,.int .i64 pl,.bool false,.slice none 0 0,.pointer none,.map none,.map none] 111 (0,0)) from rfl)
 have h7:=(heap_setCell_same ((((((w.setCell ⟨b,0,none⟩ (.slice po pn pc)).setCell ⟨b,1,none⟩ (.string nm)).setCell ⟨b,2,none⟩ (.slice lp lps cp)).setCell ⟨b,3,none⟩ (.int .i64 rt)).setCell ⟨b,4,none⟩ (.slice lb lbs cb)).setCell ⟨b,5,none⟩ (.int .i64 pl)) b 6 _ 111 (.bool src) h6).trans (show _=some (Obj.cells #[.slice po pn pc,.string nm,.slice lp lps cp,.int .i64 rt,.slice lb lbs cb,.int .i64 pl,.bool src,.slice none 0 0,.pointer none,.map none,.map none] 111 (0,0)) from rfl)
 have h8:=(heap_setCell_same (((((((w.setCell ⟨b,0,none⟩ (.slice po pn pc)).setCell ⟨b,1,none⟩ (.string nm)).setCell ⟨b,2,none⟩ (.slice lp lps cp)).setCell ⟨b,3,none⟩ (.int .i64 rt)).setCell ⟨b,4,none⟩ (.slice lb lbs cb)).setCell ⟨b,5,none⟩ (.int .i64 pl)).setCell ⟨b,6,none⟩ (.bool src)) b 7 _ 111 (.slice (some ⟨qb,qo,none⟩) lbs qc) h7).trans (show _=some (Obj.cells #[.slice po pn pc,.string nm,.slice lp lps cp,.int .i64 rt,.slice lb lbs cb,.int .i64 pl,.bool src,.slice (some ⟨qb,qo,none⟩) lbs qc,.pointer none,.map none,.map none] 111 (0,0)) from rfl)
 have h9:=(heap_setCell_same ((((((((w.setCell ⟨b,0,none⟩ (.slice po pn pc)).setCell ⟨b,1,none⟩ (.string nm)).setCell ⟨b,2,none⟩ (.slice lp lps cp)).setCell ⟨b,3,none⟩ (.int .i64 rt)).setCell ⟨b,4,none⟩ (.slice lb lbs cb)).setCell ⟨b,5,none⟩ (.int .i64 pl)).setCell ⟨b,6,none⟩ (.bool src)).setCell ⟨b,7,none⟩ (.slice (some ⟨qb,qo,none⟩) lbs qc)) b 8 _ 111 (.pointer (some ⟨tr,0,none⟩)) h8).trans (show _=some (Obj.cells #[.slice po pn pc,.string nm,.slice lp lps cp,.int .i64 rt,.slice lb lbs cb,.int .i64 pl,.bool src,.slice (some ⟨qb,qo,none⟩) lbs qc,.pointer (some ⟨tr,0,none⟩),.map none,.map none] 111 (0,0)) from rfl)
 have h10:=(heap_setCell_same (((((((((w.setCell ⟨b,0,none⟩ (.slice po pn pc)).setCell ⟨b,1,none⟩ (.string nm)).setCell ⟨b,2,none⟩ (.slice lp lps cp)).setCell ⟨b,3,none⟩ (.int .i64 rt)).setCell ⟨b,4,none⟩ (.slice lb lbs cb)).setCell ⟨b,5,none⟩ (.int .i64 pl)).setCell ⟨b,6,none⟩ (.bool src)).setCell ⟨b,7,none⟩ (.slice (some ⟨qb,qo,none⟩) lbs qc)).setCell ⟨b,8,none⟩ (.pointer (some ⟨tr,0,none⟩))) b 9 _ 111 (.map (some tb)) h9).trans (show _=some (Obj.cells #[.slice po pn pc,.string nm,.slice lp lps cp,.int .i64 rt,.slice lb lbs cb,.int .i64 pl,.bool src,.slice (some ⟨qb,qo,none⟩) lbs qc,.pointer (some ⟨tr,0,none⟩),.map (some tb),.map none] 111 (0,0)) from rfl)
 have h11:=(heap_setCell_same ((((((((((w.setCell ⟨b,0,none⟩ (.slice po pn pc)).setCell ⟨b,1,none⟩ (.string nm)).setCell ⟨b,2,none⟩ (.slice lp lps cp)).setCell ⟨b,3,none⟩ (.int .i64 rt)).setCell ⟨b,4,none⟩ (.slice lb lbs cb)).setCell ⟨b,5,none⟩ (.int .i64 pl)).setCell ⟨b,6,none⟩ (.bool src)).setCell ⟨b,7,none⟩ (.slice (some ⟨qb,qo,none⟩) lbs qc)).setCell ⟨b,8,none⟩ (.pointer (some ⟨tr,0,none⟩))).setCell ⟨b,9,none⟩ (.map (some tb))) b 10 _ 111 (.map (some mb)) h10).trans (show _=some (Obj.cells #[.slice po pn pc,.string nm,.slice lp lps cp,.int .i64 rt,.slice lb lbs cb,.int .i64 pl,.bool src,.slice (some ⟨qb,qo,none⟩) lbs qc,.pointer (some ⟨tr,0,none⟩),.map (some tb),.map (some mb)] 111 (0,0)) from rfl)
 exact h11
theorem zero_at {w:World} {b:Nat} (h:w.heap[b]? =some (.cells #[.slice none 0 0,.string ⟨#[]⟩,.slice none 0 0,.int .i64 0,.slice none 0 0,.int .i64 0,.bool false,.slice none 0 0,.pointer none,.map none,.map none] 111 (0,0))):(w.cell? ⟨b,0,none⟩=some (.slice none 0 0)∧w.cell? ⟨b,1,none⟩=some (.string ⟨#[]⟩)∧w.cell? ⟨b,2,none⟩=some (.slice none 0 0)∧w.cell? ⟨b,3,none⟩=some (.int .i64 0)∧w.cell? ⟨b,4,none⟩=some (.slice none 0 0)∧w.cell? ⟨b,5,none⟩=some (.int .i64 0)∧w.cell? ⟨b,6,none⟩=some (.bool false)∧w.cell? ⟨b,7,none⟩=some (.slice none 0 0)∧w.cell? ⟨b,8,none⟩=some (.pointer none)∧w.cell? ⟨b,9,none⟩=some (.map none)∧w.cell? ⟨b,10,none⟩=some (.map none))∧(w.frozen? ⟨b,0,none⟩=false∧w.frozen? ⟨b,1,none⟩=false∧w.frozen? ⟨b,2,none⟩=false∧w.frozen? ⟨b,3,none⟩=false∧w.frozen? ⟨b,4,none⟩=false∧w.frozen? ⟨b,5,none⟩=false∧w.frozen? ⟨b,6,none⟩=false∧w.frozen? ⟨b,7,none⟩=false∧w.frozen? ⟨b,8,none⟩=false∧w.frozen? ⟨b,9,none⟩=false∧w.frozen? ⟨b,10,none⟩=false):=by
 refine⟨⟨?_,?_,?_,?_,?_,?_,?_,?_,?_,?_,?_⟩,⟨?_,?_,?_,?_,?_,?_,?_,?_,?_,?_,?_⟩⟩ <;> simp [World.cell?,World.frozen?,h]
theorem grown_set2 {w w1:World} {r:Nat} (h:w.grownBy w1 (some r)) (i:Nat) (u:Value):w.grownBy (w1.setCell ⟨r,i,none⟩ u) (some r):=h.trans (grown_set w1 ⟨r,i,none⟩ u)
end Go.Proofs.YtljkgcfnoegibaaGreatDoor
