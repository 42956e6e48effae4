/- Texts of one chain, joined. -/
import Derived.Test.YtljkgcfnoegibaaGreatDoorWwAD
import Derived.Test.YtljkgcfnoegibaaGreatDoorWwAE
set_option maxHeartbeats 4000000
set_option maxRecDepth 20000
namespace Go.Proofs.YtljkgcfnoegibaaGreatDoor
open Go Go.RowKit
open G (Tok Er Ins Fun)
def IntsV (w:World) (l:List Int) (v:Value):Prop:=∃ao c,v= .slice ao l.length c∧Sl w ao l∧l.length≤c∧c≤maxLen
theorem IntsV.below {w w':World} {l:List Int} {v:Value} (h:IntsV w l v) (b:Below w.heap.size w w'):IntsV w' l v:=by
 obtain⟨ao,c,e,h1,h2⟩:=h
 exact⟨ao,c,e,h1.below b,h2⟩
def insC (x:Ins) (va vt:Value):List Value:= [.int .i64 x.1,.int .i64 x.2.1,.int .i64 x.2.2.1,.int .i64 x.2.2.2.1,va,vt,.string (bs x.2.2.2.2.2.2.1),.int .i64 x.2.2.2.2.2.2.2]
def InsR (w:World) (x:Ins) (g o:Nat):Prop:=g < w.heap.size∧∃va vt,(∀j t,(insC x va vt)[j]? =some t→w.cell? ⟨g,o+j,none⟩=some t)∧IntsV w x.2.2.2.2.1 va∧IntsV w x.2.2.2.2.2.1 vt
theorem InsR.below {w w':World} {x:Ins} {g o:Nat} (h:InsR w x g o) (b:Below w.heap.size w w'):InsR w' x g o:=by
 obtain⟨hg,va,vt,h1,h2,h3⟩:=h
 exact⟨Nat.lt_of_lt_of_le hg b.size,va,vt,fun j t hj=>(b.cell (p:=⟨g,o+j,none⟩) hg).trans (h1 j t hj),h2.below b,h3.below b⟩
def BlkR (w:World) (l:List Ins) (v:Value):Prop:=∃ao c,v= .slice ao l.length c∧l.length≤c∧c≤maxLen∧(l= []∨∃g o,ao=some ⟨g,o,none⟩∧∀i x,l[i]? =some x→InsR w x g (o+i * 8))
theorem BlkR.below {w w':World} {l:List Ins} {v:Value} (h:BlkR w l v) (b:Below w.heap.size w w'):BlkR w' l v:=by
 obtain⟨ao,c,e,h1,h2,h3⟩:=h
 refine⟨ao,c,e,h1,h2,?_⟩
 rcases h3 with h3 | ⟨g,o,e2,h4⟩
 ·exact .inl h3
 ·exact .inr ⟨g,o,e2,fun i x hi=>(h4 i x hi).below b⟩
def BlksR (w:World) (l:List (List Ins)) (v:Value):Prop:=∃ao c,v= .slice ao l.length c∧l.length≤c∧c≤maxLen∧(l= []∨∃g o,ao=some ⟨g,o,none⟩∧g < w.heap.size∧∀i b,l[i]? =some b→∃u,w.cell? ⟨g,o+i,none⟩=some u∧BlkR w b u)
theorem BlksR.below {w w':World} {l:List (List Ins)} {v:Value} (h:BlksR w l v) (b:Below w.heap.size w w'):BlksR w' l v:=by
 obtain⟨ao,c,e,h1,h2,h3⟩:=h
 refine⟨ao,c,e,h1,h2,?_⟩
 rcases h3 with h3 | ⟨g,o,e2,hg,h4⟩
 ·exact .inl h3
 ·refine .inr ⟨g,o,e2,Nat.lt_of_lt_of_le hg b.size,fun i x hi=> ?_⟩
  obtain⟨u,hu,hb⟩:=h4 i x hi
  exact⟨u,(b.cell (p:=⟨g,o+i,none⟩) hg).trans hu,hb.below b⟩
def funC (f:Fun) (vp vb:Value):List Value:= [.string (bs f.1),vp,.int .i64 f.2.2.1,vb,.int .i64 f.2.2.2.2]
def FunV (w:World) (f:Fun) (v:Value):Prop:=∃vp vb,v= .agg #[.string (bs f.1),vp,.int .i64 f.2.2.1,vb,.int .i64 f.2.2.2.2]∧IntsV w f.2.1 vp∧BlksR w f.2.2.2.1 vb
theorem FunV.below {w w':World} {f:Fun} {v:Value} (h:FunV w f v) (b:Below w.heap.size w w'):FunV w' f v:=by
 obtain⟨vp,vb,e,h1,h2⟩:=h
 exact⟨vp,vb,e,h1.below b,h2.below b⟩
def FunR (w:World) (f:Fun) (g o:Nat):Prop:=g < w.heap.size∧∃vp vb,(∀j t,(funC f vp vb)[j]? =some t→w.cell? ⟨g,o+j,none⟩=some t)∧IntsV w f.2.1 vp∧BlksR w f.2.2.2.1 vb
theorem FunR.below {w w':World} {x:Fun} {g o:Nat} (h:FunR w x g o) (b:Below w.heap.size w w'):FunR w' x g o:=by
 obtain⟨hg,va,vt,h1,h2,h3⟩:=h
 exact⟨Nat.lt_of_lt_of_le hg b.size,va,vt,fun j t hj=>(b.cell (p:=⟨g,o+j,none⟩) hg).trans (h1 j t hj),h2.below b,h3.below b⟩
def ProgR (w:World) (l:List Fun) (v:Value):Prop:=∃ao c,v= .slice ao l.length c∧l.length≤c∧c≤maxLen∧(l= []∨∃g o,ao=some ⟨g,o,none⟩∧∀i x,l[i]? =some x→FunR w x g (o+i * 5))
theorem ProgR.below {w w':World} {l:List Fun} {v:Value} (h:ProgR w l v) (b:Below w.heap.size w w'):ProgR w' l v:=by
 obtain⟨ao,c,e,h1,h2,h3⟩:=h
 refine⟨ao,c,e,h1,h2,?_⟩
 rcases h3 with h3 | ⟨g,o,e2,h4⟩
 ·exact .inl h3
 ·exact .inr ⟨g,o,e2,fun i x hi=>(h4 i x hi).below b⟩
def letL (t:Int):List UInt8:=(L5.letter t).data.toList
def parT (ps:List Int):List UInt8:=jn [32] (ps.map letL)
def blkW (k:Nat) (b:List Ins):List (List UInt8):= [labW (k:Int),[58,10]] ++ b.flatMap fun x=> [[32,32],insT x,[10]]
def blksW:Nat→List (List Ins)→List (List UInt8)
 |_,[]=> []
 |k,b :: r=>blkW k b ++ blksW (k+1) r
def headW (f:Fun):List (List UInt8):= [[102,117,110,99,32],f.1,[40],parT f.2.1,[41,32],letL f.2.2.1,[32,123,10]]
def funW (f:Fun):List (List UInt8):=headW f ++ blksW 0 f.2.2.2.1 ++ [[125,10]]
theorem box5 {w:World} {c:Nat} {a0 a1 a2 a3 a4:Value} (h:w.heap[c]? =some (.cells #[a0,a1,a2,a3,a4] 36 (0,0))):w.cell? ⟨c,0,none⟩=some a0∧w.cell? ⟨c,1,none⟩=some a1∧w.cell? ⟨c,2,none⟩=some a2∧w.cell? ⟨c,3,none⟩=some a3∧w.cell? ⟨c,4,none⟩=some a4:=by
 simp [World.cell?,h]
theorem InsR.val {w:World} {x:Ins} {g o:Nat} (h:InsR w x g o):∃ao to ca ct,InsV w x (.agg #[.int .i64 x.1,.int .i64 x.2.1,.int .i64 x.2.2.1,.int .i64 x.2.2.2.1,.slice ao x.2.2.2.2.1.length ca,.slice to x.2.2.2.2.2.1.length ct,.string (bs x.2.2.2.2.2.2.1),.int .i64 x.2.2.2.2.2.2.2])∧
  w.cell? ⟨g,o,none⟩=some (.int .i64 x.1)∧w.cell? ⟨g,o+1,none⟩=some (.int .i64 x.2.1)∧w.cell? ⟨g,o+2,none⟩=some (.int .i64 x.2.2.1)∧w.cell? ⟨g,o+3,none⟩=some (.int .i64 x.2.2.2.1)∧
  w.cell? ⟨g,o+4,none⟩=some (.slice ao x.2.2.2.2.1.length ca)∧w.cell? ⟨g,o+5,none⟩=some (.slice to x.2.2.2.2.2.1.length ct)∧w.cell? ⟨g,o+6,none⟩=some (.string (bs x.2.2.2.2.2.2.1))∧w.cell? ⟨g,o+7,none⟩=some (.int .i64 x.2.2.2.2.2.2.2):=by
 obtain⟨hg,va,vt,h1,⟨ao,ca,rfl,a1,a2,a3⟩,⟨to,ct,rfl,t1,t2,t3⟩⟩:=h
 exact⟨ao,to,ca,ct,⟨ao,to,ca,ct,rfl,a1,t1,a2,a3,t2,t3⟩,h1 0 _ rfl,h1 1 _ rfl,h1 2 _ rfl,h1 3 _ rfl,h1 4 _ rfl,h1 5 _ rfl,h1 6 _ rfl,h1 7 _ rfl⟩
theorem FunR.val {w:World} {f:Fun} {g o:Nat} (h:FunR w f g o):∃ao bo c cb,FunV w f (.agg #[.string (bs f.1),.slice ao f.2.1.length c,.int .i64 f.2.2.1,.slice bo f.2.2.2.1.length cb,.int .i64 f.2.2.2.2])∧
  w.cell? ⟨g,o,none⟩=some (.string (bs f.1))∧w.cell? ⟨g,o+1,none⟩=some (.slice ao f.2.1.length c)∧w.cell? ⟨g,o+2,none⟩=some (.int .i64 f.2.2.1)∧w.cell? ⟨g,o+3,none⟩=some (.slice bo f.2.2.2.1.length cb)∧w.cell? ⟨g,o+4,none⟩=some (.int .i64 f.2.2.2.2):=by
 obtain⟨hg,va,vt,h1,h2,h3⟩:=h
 have h2':=h2
 have h3':=h3
 obtain⟨ao,c,rfl,_⟩:=h2
 obtain⟨bo,cb,rfl,_⟩:=h3
 exact⟨ao,bo,c,cb,⟨_,_,rfl,h2',h3'⟩,h1 0 _ rfl,h1 1 _ rfl,h1 2 _ rfl,h1 3 _ rfl,h1 4 _ rfl⟩
def pasB (t:Int):Bool:=decide (t=1) || decide (t=2)
theorem passed_any (t:Int) (w:World):Calls Tryz.prog 88 #[.int .i64 t] w fun e w'=>e= .returned (.bool (pasB t))∧w'=w:=by
 by_cases h1:t=1
 ·have HB:Hid (true=pasB t):=hide (by simp [pasB,h1])
  have e1:(t == 1)=true:=by simpa using h1
  clear h1
  go_enter Tryz.func88,Tryz.ntmps88
  go_wp2_with fail
  go_ret
  exact⟨L5.ret_bool HB.out,rfl⟩
 ·have e1:(t == 1)=false:=by simpa using h1
  by_cases h2:t=2
  ·have HB:Hid (true=pasB t):=hide (by simp [pasB,h2])
   have e2:(t == 2)=true:=by simpa using h2
   clear h1 h2
   go_enter Tryz.func88,Tryz.ntmps88
   go_wp2_with fail
   go_ret
   exact⟨L5.ret_bool HB.out,rfl⟩
  ·have HB:Hid (false=pasB t):=hide (by simp [pasB,h1,h2])
   have e2:(t == 2)=false:=by simpa using h2
   clear h1 h2
   go_enter Tryz.func88,Tryz.ntmps88
   go_wp2_with fail
   go_ret
   exact⟨L5.ret_bool HB.out,rfl⟩
theorem head1_any (t:Int) (w:World):Calls Tryz.prog 90 #[.int .i64 t] w fun e w'=>e= .returned (.bool (!pasB t))∧w'=w:=by
 go_enter Tryz.func90,Tryz.ntmps90
 go_wp2_with fail
 refine(passed_any t w).mono ?_;rintro e w1 ⟨rfl,rfl⟩
 cases hb:pasB t with
 |true=>
  replace hb:=hide hb
  go_wp2_with fail
  go_ret
  exact⟨L5.ret_bool (by rw [hb.out];rfl),rfl⟩
 |false=>
  replace hb:=hide hb
  go_wp2_with fail
  go_ret
  exact⟨L5.ret_bool (by rw [hb.out];rfl),rfl⟩
def firstP:List Int→Int→Int
 |[],_=> -1
 |t :: r,k=>if(!pasB t)then k else firstP r (k+1)
theorem firstP_drop (xs:List Int) (k:Nat) (t:Int) (h:xs[k]? =some t):firstP (xs.drop k) k=if(!pasB t)then(k:Int)else firstP (xs.drop (k+1)) ((k+1:Nat):Int):=by
 have:xs.drop k=t :: xs.drop (k+1):=by
  obtain⟨h1,h2⟩:=List.getElem?_eq_some_iff.1 h
  rw [List.drop_eq_getElem_cons h1,h2]
 rw [this];rfl
theorem firstP_any (l:List Int):∀k:Int,0≤k→(l.any (fun t=> !pasB t)=true→0≤firstP l k)∧(l.any (fun t=> !pasB t)=false→firstP l k= -1):=by
 induction l with
 |nil=>intro k _;simp [firstP]
 |cons t r ih=>
  intro k hk
  rw [firstP,List.any_cons]
  cases hb:pasB t with
  |false=>simp;exact hk
  |true=>simpa using ih (k+1) (by omega)
theorem indexP_any (xs:List Int) (ao:Option Addr) (c:Nat) (w:World) (hs:Sl w ao xs) (hm:xs.length≤maxLen):
  Calls Tryz.prog 112 #[.slice ao xs.length c,.func (Fn.func 90) #[] #[]] w fun e w'=>e= .returned (.int .i64 (firstP xs 0))∧Below w.heap.size w w':=by
 have X:=hide hs
 unfold maxLen at hm
 clear hs
 go_enter Tryz.func112,Tryz.ntmps112
 go_wp2_with fail
 go_loopw [8] (fun i wr=>∃k:Nat,i= .int .i64 k∧k≤xs.length∧Below w.heap.size w wr∧Hid (firstP xs 0=firstP (xs.drop k) k)) (fun i _=>xs.length - (intOf i).toNat)
 case atStart=>exact⟨0,rfl,Nat.zero_le _,Below.refl _ _,rfl⟩
 case round=>
  obtain⟨k,rfl,hk,HB,HF⟩:=hrel
  have HB:=hide HB
  by_cases hlt:k < xs.length
  ·obtain⟨t,ht⟩:∃t,xs[k]? =some t:=⟨xs[k],List.getElem?_eq_getElem hlt⟩
   have HS:=hide (HF.out.trans (firstP_drop xs k t ht))
   rcases X.out with he | ⟨b,o,rfl,hb,hc⟩
   ·subst he;simp at hlt
   have hcell:wr.cell? ⟨b,o+k,none⟩=some (.int .i64 t):=(HB.out.cell (p:=⟨b,o+k,none⟩) hb).trans (hc k t ht)
   have hlt':(k:Int) < xs.length:=by omega
   clear hc ht
   go_wp2_with fail
   refine(head1_any t _).mono ?_;rintro e w1 ⟨rfl,rfl⟩
   cases hbt:pasB t with
   |false=>
    have HE:=hide (HS.out.trans (if_pos (by simp [hbt])))
    replace hbt:=hide hbt
    go_wp2_with fail
    go_ret
    exact⟨by rw [HE.out];rfl,HB.out⟩
   |true=>
    have HE:=hide (HS.out.trans (if_neg (by simp [hbt])))
    replace hbt:=hide hbt
    go_wp2_with fail
    go_roundw
    case rel=>exact⟨k+1,by go_num,by omega,HB.out,HE.out⟩
    case measure=>simp [intOf];omega
  ·have hk2:k=xs.length:=by omega
   subst hk2
   have HE:=hide (HF.out.trans (by rw [List.drop_length];rfl:_=(-1:Int)))
   go_wp2_with fail
   go_ret
   exact⟨by rw [HE.out];rfl,HB.out⟩
def parB (ps:List Int):Bool:=ps.any fun t=> !pasB t
theorem containsP_any (xs:List Int) (ao:Option Addr) (c:Nat) (w:World) (hs:Sl w ao xs) (hm:xs.length≤maxLen):
  Calls Tryz.prog 89 #[.slice ao xs.length c,.func (Fn.func 90) #[] #[]] w fun e w'=>e= .returned (.bool (parB xs))∧Below w.heap.size w w':=by
 obtain⟨f1,f2⟩:=firstP_any xs 0 (Int.le_refl 0)
 have X:=hide hs
 have F1:=hide f1
 have F2:=hide f2
 clear hs f1 f2
 go_enter Tryz.func89,Tryz.ntmps89
 go_wp2_with fail
 refine(indexP_any xs ao c _ X.out hm).mono ?_;rintro e w1 ⟨rfl,b1⟩
 cases hb:parB xs with
 |true=>
  have h1:=F1.out hb
  replace hb:=hide hb
  generalize firstP xs 0=r at *
  clear F1 F2
  go_wp2_with fail
  go_ret
  exact⟨L5.ret_bool hb.out.symm,b1⟩
 |false=>
  have h1:=F2.out hb
  rw [h1]
  replace hb:=hide hb
  clear F1 F2 h1
  go_wp2_with fail
  go_ret
  exact⟨L5.ret_bool hb.out.symm,b1⟩
def headC (f:Fun):Int:=
 if 8 < f.2.1.length∨256 < f.2.2.2.1.length then 6
 else if L2.nameB f.1=false then 4
 else if(f.2.2.1 < 0∨2 < f.2.2.1)∨parB f.2.1=true then 9
 else 0
theorem head_try (nm:List UInt8) (ps:List Int) (rt pl:Int) (bl:List (List Ins)) (ao bo:Option Addr) (c cb:Nat) (w:World) (hs:Sl w ao ps) (hL:ps.length≤maxLen∧bl.length≤maxLen) (hl:nm.length≤maxLen):
  Calls Tryz.prog 62 #[.agg #[.string (bs nm),.slice ao ps.length c,.int .i64 rt,.slice bo bl.length cb,.int .i64 pl]] w fun e w'=>e= .returned (.int .i64 (headC (nm,ps,rt,bl,pl)))∧Below w.heap.size w w':=by
 have b0:=below_box w (.cells #[.string (bs nm),.slice ao ps.length c,.int .i64 rt,.slice bo bl.length cb,.int .i64 pl] 36)
 have H0:=hide (heap_alloc_new w (.cells #[.string (bs nm),.slice ao ps.length c,.int .i64 rt,.slice bo bl.length cb,.int .i64 pl] 36))
 have A0:=hide (hs.below b0)
 have B0:=hide b0
 have hz0:(w.alloc (.cells #[.string (bs nm),.slice ao ps.length c,.int .i64 rt,.slice bo bl.length cb,.int .i64 pl] 36)).heap.size > w.heap.size:=by simp
 have HSZ:Hid ((bs nm).size≤maxLen):=hide (by rw [bs_size];exact hl)
 obtain⟨hLa,hLt⟩:=hL
 have HL:=hide hLa
 unfold maxLen at hLa hLt
 clear b0 hs hl
 go_enter Tryz.func62,Tryz.ntmps62
 go_upto_region 1 with fail
 show Code.wp _ _ _ _ (w.alloc (.cells #[.string (bs nm),.slice ao ps.length c,.int .i64 rt,.slice bo bl.length cb,.int .i64 pl] 36))
 generalize w.alloc (.cells #[.string (bs nm),.slice ao ps.length c,.int .i64 rt,.slice bo bl.length cb,.int .i64 pl] 36)=W at *
 obtain⟨c0,c1,c2,c3,c4⟩:=box5 H0.out
 by_cases h8:8 < ps.length
 ·have HC:Hid ((6:Int)=headC (nm,ps,rt,bl,pl)):=hide (by unfold headC;rw [if_pos (.inl h8)])
  have h8':(8:Int) < ps.length:=by omega
  go_wp2_with fail
  go_ret
  exact⟨L5.ret_int HC.out,B0.out⟩
 have h8':¬(8:Int) < ps.length:=by omega
 by_cases h256:256 < bl.length
 ·have HC:Hid ((6:Int)=headC (nm,ps,rt,bl,pl)):=hide (by unfold headC;rw [if_pos (.inr h256)])
  have h256':(256:Int) < bl.length:=by omega
  go_wp2_with fail
  go_ret
  exact⟨L5.ret_int HC.out,B0.out⟩
 have h256':¬(256:Int) < bl.length:=by omega
 have HF1:Hid (¬(8 < ps.length∨256 < bl.length)):=hide (by omega)
 go_wp2_with fail
 refine(L2.name_any (bs nm) W HSZ.out).mono ?_;rintro e w1 ⟨rfl,b1⟩
 rw [bs_data]
 have B1:=hide b1
 clear b1
 cases hb:L2.nameB nm with
 |false=>
  have HC:Hid ((4:Int)=headC (nm,ps,rt,bl,pl)):=hide (by unfold headC;rw [if_neg HF1.out,if_pos hb])
  replace hb:=hide hb
  go_wp2_with fail
  go_ret
  exact⟨L5.ret_int HC.out,below_step B0.out B1.out⟩
 |true=>
 have HF2:Hid (¬(L2.nameB nm=false)):=hide (by rw [hb];simp)
 replace hb:=hide hb
 clear c0 c1 c2 c3 c4
 obtain⟨c0,c1,c2,c3,c4⟩:=box5 ((B1.out.block _ (by omega)).trans H0.out)
 have HRT:Hid ((rt=0∨(rt≠0∧pasB rt=true))∧¬(rt < 0∨2 < rt)∨(rt≠0∧pasB rt=false)∧(rt < 0∨2 < rt)):=hide (by
  by_cases h0:rt=0
  ·exact .inl ⟨.inl h0,by omega⟩
  ·by_cases h1:rt=1∨rt=2
   ·refine .inl ⟨.inr ⟨h0,?_⟩,by omega⟩
    rcases h1 with h1 | h1 <;> simp [pasB,h1]
   ·refine .inr ⟨⟨h0,?_⟩,by omega⟩
    have h2:rt≠1:=fun h=>h1 (.inl h)
    have h3:rt≠2:=fun h=>h1 (.inr h)
    simp [pasB,h2,h3])
 rcases HRT.out with ⟨hr,hr2⟩ | ⟨⟨hr,hr1⟩,hr2⟩
 rotate_left
 ·have HC:Hid ((9:Int)=headC (nm,ps,rt,bl,pl)):=hide (by unfold headC;rw [if_neg HF1.out,if_neg HF2.out,if_pos (.inl hr2)])
  have hr3:(rt != 0)=true:=by simpa using hr
  replace hr1:=hide hr1
  clear HRT hr hr2
  go_wp2_with fail
  refine(passed_any rt _).mono ?_;rintro e w2 ⟨rfl,hw2⟩
  rw [hw2,hr1.out]
  clear hw2
  go_wp2_with fail
  go_ret
  exact⟨L5.ret_int HC.out,below_step B0.out B1.out⟩
 have HRE:Hid (∀r,parB ps=r→(if r then(9:Int)else 0)=headC (nm,ps,rt,bl,pl)):=hide fun r h=>by
  unfold headC
  rw [if_neg HF1.out,if_neg HF2.out]
  cases r with
  |true=>exact(if_pos (Or.inr h)).symm
  |false=>exact(if_neg (fun h2=>by
    rcases h2 with h2 | h2
    ·exact hr2 h2
    ·rw [show parB ps=false from h] at h2;cases h2)).symm
 replace hr2:=hide hr2
 clear HRT
 rcases hr with hr | ⟨hr,hr1⟩
 ·have hr3:(rt != 0)=false:=by simpa using hr
  replace hr:=hide hr
  go_wp2_with fail
  refine(containsP_any ps ao c _ (A0.out.below B1.out) HL.out).mono ?_;rintro e w3 ⟨rfl,b3⟩
  have B3:=hide (below_step B1.out b3)
  clear b3
  cases hp:parB ps with
  |true=>
   have HC:=hide (HRE.out true hp)
   replace hp:=hide hp
   go_wp2_with fail
   go_ret
   exact⟨L5.ret_int HC.out,below_step B0.out B3.out⟩
  |false=>
   have HC:=hide (HRE.out false hp)
   replace hp:=hide hp
   go_wp2_with fail
   go_ret
   exact⟨L5.ret_int HC.out,below_step B0.out B3.out⟩
 ·have hr3:(rt != 0)=true:=by simpa using hr
  replace hr1:=hide hr1
  clear hr
  go_wp2_with fail
  refine(passed_any rt _).mono ?_;rintro e w2 ⟨rfl,hw2⟩
  rw [hw2,hr1.out]
  clear hw2
  go_wp2_with fail
  refine(containsP_any ps ao c _ (A0.out.below B1.out) HL.out).mono ?_;rintro e w3 ⟨rfl,b3⟩
  have B3:=hide (below_step B1.out b3)
  clear b3
  cases hp:parB ps with
  |true=>
   have HC:=hide (HRE.out true hp)
   replace hp:=hide hp
   go_wp2_with fail
   go_ret
   exact⟨L5.ret_int HC.out,below_step B0.out B3.out⟩
  |false=>
   have HC:=hide (HRE.out false hp)
   replace hp:=hide hp
   go_wp2_with fail
   go_ret
   exact⟨L5.ret_int HC.out,below_step B0.out B3.out⟩
def runI:Nat→List Ins→Nat × Int
 |m,[]=>(m,0)
 |m,x :: r=>if m=4096 then(m,6)else if checkC x≠0 then(m+1,checkC x)else runI (m+1) r
def runB:Nat→List (List Ins)→Nat × Int
 |m,[]=>(m,0)
 |m,b :: r=>if(runI m b).2≠0 then runI m b else runB (runI m b).1 r
theorem wdrop_at {α:Type} {l:List α} {j:Nat} {x:α} (h:l[j]? =some x):l.drop j=x :: l.drop (j+1):=by
 obtain⟨h1,h2⟩:=List.getElem?_eq_some_iff.1 h
 rw [List.drop_eq_getElem_cons h1,h2]
def midB (m:Nat) (b:List Ins) (r:List (List Ins)):Nat × Int:=if(runI m b).2≠0 then runI m b else runB (runI m b).1 r
theorem midB_nil (m:Nat) (r:List (List Ins)):midB m [] r=runB m r:=by unfold midB;simp [runI]
theorem midB_full (x:Ins) (b:List Ins) (r:List (List Ins)):midB 4096 (x :: b) r=(4096,6):=by unfold midB;simp [runI]
theorem midB_bad {m:Nat} {x:Ins} (b:List Ins) (r:List (List Ins)) (hm:m≠4096) (hx:checkC x≠0):midB m (x :: b) r=(m+1,checkC x):=by
 have e:runI m (x :: b)=(m+1,checkC x):=by rw [runI,if_neg hm,if_pos hx]
 unfold midB;rw [e,if_pos hx]
theorem midB_good {m:Nat} {x:Ins} (b:List Ins) (r:List (List Ins)) (hm:m≠4096) (hx:checkC x=0):midB m (x :: b) r=midB (m+1) b r:=by
 have e:runI m (x :: b)=runI (m+1) b:=by rw [runI,if_neg hm,if_neg (by simp [hx])]
 unfold midB;rw [e]
def OkI (x:Ins):Prop:=I64 x.2.2.1∧x.2.2.2.2.2.2.1.length≤maxLen
def OkF (f:Fun):Prop:=f.1.length≤maxLen∧∀b∈f.2.2.2.1,∀x∈b,OkI x
theorem body_try (m0:Nat) (nm:List UInt8) (ps:List Int) (rt pl:Int) (bl:List (List Ins)) (ao bo:Option Addr) (c cb:Nat) (w:World) (hb:BlksR w bl (.slice bo bl.length cb)) (ht:Tb w) (hO:OkF (nm,ps,rt,bl,pl)) (hm0:m0≤4096):
  Calls Tryz.prog 63 #[.agg #[.string (bs nm),.slice ao ps.length c,.int .i64 rt,.slice bo bl.length cb,.int .i64 pl],.int .i64 m0] w fun e w'=>e= .returned (.tuple #[.int .i64 ((runB m0 bl).1:Nat),.int .i64 (runB m0 bl).2])∧Below w.heap.size w w':=by
 obtain⟨_,o2⟩:=hO
 dsimp only at o2
 have b0:=below_box w (.cells #[.string (bs nm),.slice ao ps.length c,.int .i64 rt,.slice bo bl.length cb,.int .i64 pl] 36)
 have H0:=hide (heap_alloc_new w (.cells #[.string (bs nm),.slice ao ps.length c,.int .i64 rt,.slice bo bl.length cb,.int .i64 pl] 36))
 have T0:=hide (ht.below b0)
 have HBl:=hide (hb.below b0)
 have hz0:(w.alloc (.cells #[.string (bs nm),.slice ao ps.length c,.int .i64 rt,.slice bo bl.length cb,.int .i64 pl] 36)).heap.size > w.heap.size:=by simp
 have B0:=hide b0
 have O2:=hide o2
 have hcb:bl.length≤cb∧cb≤maxLen:=by
  obtain⟨ao',c',e,h1,h2,_⟩:=hb
  injection e with e1 e2 e3
  subst e3
  exact⟨h1,h2⟩
 unfold maxLen at hcb
 clear b0 hb ht o2
 go_enter Tryz.func63,Tryz.ntmps63
 go_upto_region 1 with fail
 show Code.wp _ _ _ _ (w.alloc (.cells #[.string (bs nm),.slice ao ps.length c,.int .i64 rt,.slice bo bl.length cb,.int .i64 pl] 36))
 generalize w.alloc (.cells #[.string (bs nm),.slice ao ps.length c,.int .i64 rt,.slice bo bl.length cb,.int .i64 pl] 36)=W at *
 obtain⟨c0,c1,c2,c3,c4⟩:=box5 H0.out
 go_wp2_with fail
 go_loopw [1,14] (fun mm i wr=>∃(m K:Nat),m≤4096∧mm= .int .i64 m∧K≤bl.length∧i= .int .i64 K∧Hid (runB m0 bl=runB m (bl.drop K))∧Hid (Below W.heap.size W wr)) (fun _ i _=>bl.length - (intOf i).toNat)
 case atStart=>exact⟨m0,0,hm0,rfl,Nat.zero_le _,rfl,hide rfl,hide (Below.refl _ _)⟩
 case round=>
  obtain⟨m,K,hm,rfl,hK,rfl,HR,HW⟩:=hrel
  by_cases hkt:K < bl.length
  ·obtain⟨b,hbK⟩:∃b,bl[K]? =some b:=⟨bl[K],List.getElem?_eq_some_iff.2 ⟨hkt,rfl⟩⟩
   obtain⟨ao',c',eq',hh1,hh2,hh3⟩:=HBl.out
   injection eq' with e1 e2 e3
   subst e1 e3
   rcases hh3 with hh3 | ⟨gb,ob,rfl,hgb,hbl⟩
   ·subst hh3;simp at hkt
   obtain⟨vk,kd,kk⟩:=hbl K b hbK
   have kd':=(HW.out.cell (p:=⟨gb,ob+K,none⟩) hgb).trans kd
   obtain⟨aok,capk,rfl,lk1,lk2,kins⟩:=kk
   have HOb:=hide (O2.out b (List.mem_of_getElem? hbK))
   have KI:=hide kins
   have hkI:(K:Int) < bl.length:=by omega
   have HR2:Hid (runB m0 bl=midB m (b.drop 0) (bl.drop (K+1))):=hide (by rw [HR.out,wdrop_at hbK];rfl)
   unfold maxLen at lk2
   clear kins kd hbl hbK hh1 hh2 HR
   go_wp2_with fail
   go_loopw [1,20] (fun mm i wr=>∃(m J:Nat),m≤4096∧mm= .int .i64 m∧J≤b.length∧i= .int .i64 J∧Hid (runB m0 bl=midB m (b.drop J) (bl.drop (K+1)))∧Hid (Below W.heap.size W wr)) (fun _ i _=>b.length - (intOf i).toNat)
   case atStart=>exact⟨m,0,hm,rfl,Nat.zero_le _,rfl,HR2,HW⟩
   case round=>
    obtain⟨m2,J,hm2,rfl,hJ,rfl,HRJ,HWJ⟩:=hrel
    by_cases hjt:J < b.length
    ·obtain⟨y,hyJ⟩:∃y,b[J]? =some y:=⟨b[J],List.getElem?_eq_some_iff.2 ⟨hjt,rfl⟩⟩
     rcases KI.out with hh | ⟨gi,oi,rfl,hin⟩
     ·subst hh;simp at hjt
     obtain⟨aoy,toy,cay,cty,hv,q0,q1,q2,q3,q4,q5,q6,q7⟩:=((hin J y hyJ).below HWJ.out).val
     have HV:=hide hv
     have HOy:=hide (HOb.out y (List.mem_of_getElem? hyJ))
     have hjI:(J:Int) < b.length:=by omega
     have TJ:=hide (T0.out.below HWJ.out)
     have HR3:=hide (HRJ.out.trans (by rw [wdrop_at hyJ]))
     obtain⟨op,id,nn,ty,ar,tt,na,pp⟩:=y
     dsimp only at HV q0 q1 q2 q3 q4 q5 q6 q7
     clear hin hyJ hv HRJ
     by_cases h4:m2=4096
     ·subst h4
      have HE:=hide (HR3.out.trans (midB_full _ _ _))
      have h4':(((4096:Nat):Int) == 4096)=true:=rfl
      go_wp2_with fail
      go_ret2
      exact⟨by rw [HE.out];rfl,below_step B0.out (HWJ.out.trans ((below_box _ _).mono HWJ.out.size))⟩
     ·have h4':((m2:Int) == 4096)=false:=beq_eq_false_iff_ne.2 (by omega)
      have B7:=hide (below_box wr (.cells #[.int .i64 op,.int .i64 id,.int .i64 nn,.int .i64 ty,.slice aoy ar.length cay,.slice toy tt.length cty,.string (bs na),.int .i64 pp] 47))
      go_wp2_with fail
      refine(check_any (op,id,nn,ty,ar,tt,na,pp) _ _ (HV.out.below B7.out) HOy.out.1 (TJ.out.below B7.out) HOy.out.2).mono ?_;rintro e w7 ⟨rfl,b7⟩
      have HW7:=hide (below_step HWJ.out (below_step B7.out b7))
      clear q0 q1 q2 q3 q4 q5 q6 q7 b7
      by_cases hcx:checkC (op,id,nn,ty,ar,tt,na,pp)=0
      ·have HE:=hide (HR3.out.trans (midB_good _ _ h4 hcx))
       rw [hcx]
       go_wp2_with fail
       go_roundw
       case rel=>exact⟨m2+1,J+1,by omega,by go_num,by omega,by go_num,HE,HW7⟩
       case measure=>simp [intOf];omega
      ·have HE:=hide (HR3.out.trans (midB_bad _ _ h4 hcx))
       have hcx':(checkC (op,id,nn,ty,ar,tt,na,pp) != 0)=true:=by simpa using hcx
       generalize checkC (op,id,nn,ty,ar,tt,na,pp)=z at *
       go_wp2_with fail
       go_ret2
       exact⟨by rw [HE.out];rfl,below_step B0.out HW7.out⟩
    ·obtain rfl:J=b.length:=by omega
     have HE:=hide (HRJ.out.trans (by rw [List.drop_length,midB_nil]:_=runB m2 (bl.drop (K+1))))
     go_wp2_with fail
     go_roundw
     case rel=>exact⟨m2,K+1,hm2,rfl,by omega,by go_num,HE,HWJ⟩
     case measure=>simp [intOf];omega
  ·obtain rfl:K=bl.length:=by omega
   have HE:Hid (runB m0 bl=(m,0)):=hide (HR.out.trans (by rw [List.drop_length];rfl))
   go_wp2_with fail
   go_ret2
   exact⟨by rw [HE.out];rfl,below_step B0.out HW.out⟩
theorem runI_le:∀(l:List Ins) (m:Nat),m≤4096→(runI m l).1≤4096
 |[],m,h=>h
 |x :: r,m,h=>by
  rw [runI]
  split
  ·exact h
  ·split
   ·show m+1≤4096;omega
   ·exact runI_le r (m+1) (by omega)
theorem runB_le:∀(l:List (List Ins)) (m:Nat),m≤4096→(runB m l).1≤4096
 |[],m,h=>h
 |b :: r,m,h=>by
  rw [runB]
  split
  ·exact runI_le b m h
  ·exact runB_le r _ (runI_le b m h)
def wholeF:Nat→Nat→List Fun→Int × Int
 |_,_,[]=>(0,0)
 |i,m,f :: r=>if i=32 then(6,(i:Int))else if headC f≠0 then(headC f,(i:Int))else if(runB m f.2.2.2.1).2≠0 then((runB m f.2.2.2.1).2,(i:Int))else wholeF (i+1) (runB m f.2.2.2.1).1 r
theorem whole_many (m:Nat) (f:Fun) (r:List Fun):wholeF 32 m (f :: r)=(6,((32:Nat):Int)):=by rw [wholeF,if_pos rfl]
theorem whole_head {i:Nat} (m:Nat) {f:Fun} (r:List Fun) (hi:i≠32) (hh:headC f≠0):wholeF i m (f :: r)=(headC f,(i:Int)):=by rw [wholeF,if_neg hi,if_pos hh]
theorem whole_body {i m:Nat} {f:Fun} (r:List Fun) (hi:i≠32) (hh:headC f=0) (hb:(runB m f.2.2.2.1).2≠0):wholeF i m (f :: r)=((runB m f.2.2.2.1).2,(i:Int)):=by
 rw [wholeF,if_neg hi,if_neg (by simp [hh]),if_pos hb]
theorem whole_next {i m:Nat} {f:Fun} (r:List Fun) (hi:i≠32) (hh:headC f=0) (hb:(runB m f.2.2.2.1).2=0):wholeF i m (f :: r)=wholeF (i+1) (runB m f.2.2.2.1).1 r:=by
 rw [wholeF,if_neg hi,if_neg (by simp [hh]),if_neg (by simp [hb])]
theorem head_any (f:Fun) (v:Value) (w:World) (h:FunV w f v) (hO:OkF f):Calls Tryz.prog 62 #[v] w fun e w'=>e= .returned (.int .i64 (headC f))∧Below w.heap.size w w':=by
 obtain⟨nm,ps,rt,bl,pl⟩:=f
 obtain⟨vp,vb,rfl,⟨ao,c,rfl,h1,h2,h3⟩,⟨bo,cb,rfl,h4,h5,_⟩⟩:=h
 exact head_try nm ps rt pl bl ao bo c cb w h1 ⟨Nat.le_trans h2 h3,Nat.le_trans h4 h5⟩ hO.1
theorem body_any (m:Nat) (f:Fun) (v:Value) (w:World) (h:FunV w f v) (ht:Tb w) (hO:OkF f) (hm:m≤4096):Calls Tryz.prog 63 #[v,.int .i64 m] w fun e w'=>e= .returned (.tuple #[.int .i64 ((runB m f.2.2.2.1).1:Nat),.int .i64 (runB m f.2.2.2.1).2])∧Below w.heap.size w w':=by
 obtain⟨nm,ps,rt,bl,pl⟩:=f
 obtain⟨vp,vb,rfl,⟨ao,c,rfl,h1,_⟩,h2⟩:=h
 have h2':=h2
 obtain⟨bo,cb,rfl,_⟩:=h2
 exact body_try m nm ps rt pl bl ao bo c cb w h2' ht hO hm
theorem two7_boxes (w:World) (v:Value):Below w.heap.size w ((w.alloc (.cells #[v] 24)).alloc (.cells #[.int .i64 0,.int .i64 0] 29))∧((w.alloc (.cells #[v] 24)).alloc (.cells #[.int .i64 0,.int .i64 0] 29)).heap[w.heap.size]? =some (.cells #[v] 24 (0,0))∧
  ((w.alloc (.cells #[v] 24)).alloc (.cells #[.int .i64 0,.int .i64 0] 29)).heap[w.heap.size+1]? =some (.cells #[.int .i64 0,.int .i64 0] 29 (0,0))∧w.heap.size+1 < ((w.alloc (.cells #[v] 24)).alloc (.cells #[.int .i64 0,.int .i64 0] 29)).heap.size:=by
 refine⟨below_step (below_box w _) (below_box _ _),(heap_alloc_old _ _ (by simp)).trans (heap_alloc_new w _),?_,by simp⟩
 have:=heap_alloc_new (w.alloc (.cells #[v] 24)) (.cells #[.int .i64 0,.int .i64 0] 29)
 rwa [show(w.alloc (.cells #[v] 24)).heap.size=w.heap.size+1 from by simp] at this
theorem err7_box {w:World} {c:Nat} {a b:Value} (h:w.heap[c]? =some (.cells #[a,b] 29 (0,0))):w.cell? ⟨c,0,none⟩=some a∧w.cell? ⟨c,1,none⟩=some b∧w.frozen? ⟨c,0,none⟩=false∧w.frozen? ⟨c,1,none⟩=false:=by
 simp [World.cell?,World.frozen?,h]
theorem err7_below {w W wr:World} {a b:Value} (h0:Below w.heap.size w W) (h:Below W.heap.size W wr):Below w.heap.size w ((wr.setCell ⟨w.heap.size+1,0,none⟩ a).setCell ⟨w.heap.size+1,1,none⟩ b):=
 ((below_step h0 h).setCell (p:=⟨w.heap.size+1,0,none⟩) (Nat.le_succ _) a).setCell (p:=⟨w.heap.size+1,1,none⟩) (Nat.le_succ _) b
theorem whole_try (p:List Fun) (ao:Option Addr) (c:Nat) (w:World) (hp:ProgR w p (.slice ao p.length c)) (ht:Tb w) (hO:∀f∈p,OkF f):
  Calls Tryz.prog 37 #[.agg #[.slice ao p.length c]] w fun e w'=>e= .returned (.agg #[.int .i64 (wholeF 0 0 p).1,.int .i64 (wholeF 0 0 p).2])∧Below w.heap.size w w':=by
 obtain⟨b0,h0,h1,hz0⟩:=two7_boxes w (.slice ao p.length c)
 have H0:=hide h0
 have H1:=hide h1
 have T0:=hide (ht.below b0)
 have HP:=hide (hp.below b0)
 have B0:=hide b0
 have HO:=hide hO
 have hpc:p.length≤c∧c≤maxLen:=by
  obtain⟨ao',c',e,h1,h2,_⟩:=hp
  injection e with e1 e2 e3
  subst e3
  exact⟨h1,h2⟩
 unfold maxLen at hpc
 clear b0 h0 h1 ht hp hO
 go_enter Tryz.func37,Tryz.ntmps37
 go_upto_region 1 with fail
 show Code.wp _ _ _ _ ((w.alloc (.cells #[.slice ao p.length c] 24)).alloc (.cells #[.int .i64 0,.int .i64 0] 29))
 generalize (w.alloc (.cells #[.slice ao p.length c] 24)).alloc (.cells #[.int .i64 0,.int .i64 0] 29)=W at *
 have c0:=cell9 H0.out
 go_wp2_with fail
 go_loopw [3,10] (fun mm i wr=>∃(m K:Nat),m≤4096∧mm= .int .i64 m∧K≤p.length∧K≤32∧i= .int .i64 K∧Hid (wholeF 0 0 p=wholeF K m (p.drop K))∧Hid (Below W.heap.size W wr)) (fun _ i _=>p.length - (intOf i).toNat)
 case atStart=>exact⟨0,0,by omega,rfl,Nat.zero_le _,by omega,rfl,hide rfl,hide (Below.refl _ _)⟩
 case round=>
  obtain⟨m,K,hm,rfl,hK,hK32,rfl,HR,HW⟩:=hrel
  by_cases hkt:K < p.length
  ·obtain⟨f,hfK⟩:∃f,p[K]? =some f:=⟨p[K],List.getElem?_eq_some_iff.2 ⟨hkt,rfl⟩⟩
   obtain⟨ao',c',eq',hh1,hh2,hh3⟩:=HP.out
   injection eq' with e1 e2 e3
   subst e1 e3
   rcases hh3 with hh3 | ⟨gb,ob,rfl,hin⟩
   ·subst hh3;simp at hkt
   obtain⟨aoy,boy,cy,cby,hv,q0,q1,q2,q3,q4⟩:=((hin K f hfK).below HW.out).val
   have HV:=hide hv
   have HOf:=hide (HO.out f (List.mem_of_getElem? hfK))
   have hkI:(K:Int) < p.length:=by omega
   have HR2:=hide (HR.out.trans (by rw [wdrop_at hfK]))
   have TK:=hide (T0.out.below HW.out)
   obtain⟨nm,ps,rt,bl,pl⟩:=f
   dsimp only at HV q0 q1 q2 q3 q4
   clear hin hfK hv HR
   have B7:=hide (below_box wr (.cells #[.string (bs nm),.slice aoy ps.length cy,.int .i64 rt,.slice boy bl.length cby,.int .i64 pl] 36))
   have H7:=hide (heap_alloc_new wr (.cells #[.string (bs nm),.slice aoy ps.length cy,.int .i64 rt,.slice boy bl.length cby,.int .i64 pl] 36))
   by_cases h32:K=32
   ·subst h32
    have HE:=hide (HR2.out.trans (whole_many _ _ _))
    have h32':(((32:Nat):Int) == 32)=true:=rfl
    obtain⟨d0,d1,z0,z1⟩:=err7_box (((HW.out.trans (B7.out.mono HW.out.size)).block _ hz0).trans H1.out)
    have hW8:=hide (HW.out.trans (B7.out.mono HW.out.size))
    go_wp2_with fail
    exact bodyPost_ret (v:= .agg #[.int .i64 6,.int .i64 ((32:Nat):Int)]) (by simp [results,Tryz.results37,go_sem,d0,d1]) rfl ⟨by rw [HE.out],err7_below B0.out hW8.out⟩
   ·have h32':((K:Int) == 32)=false:=beq_eq_false_iff_ne.2 (by omega)
    go_wp2_with fail
    refine(head_any (nm,ps,rt,bl,pl) _ _ (HV.out.below B7.out) HOf.out).mono ?_;rintro e w8 ⟨rfl,b8⟩
    have HW8:=hide (below_step HW.out (below_step B7.out b8))
    have hwl:wr.heap.size < w8.heap.size:=Nat.lt_of_lt_of_le (Array.getElem?_eq_some_iff.1 H7.out).1 b8.size
    obtain⟨s0,s1,s2,s3,s4⟩:=box5 ((b8.block _ (Array.getElem?_eq_some_iff.1 H7.out).1).trans H7.out)
    have HV8:=hide (HV.out.below (below_step B7.out b8))
    have T8:=hide (TK.out.below (below_step B7.out b8))
    clear b8 q0 q1 q2 q3 q4
    by_cases hh:headC (nm,ps,rt,bl,pl)=0
    ·have HH:=hide hh
     rw [hh]
     clear hh
     go_wp2_with fail
     refine(body_any m (nm,ps,rt,bl,pl) _ _ HV8.out T8.out HOf.out hm).mono ?_;rintro e w9 ⟨rfl,b9⟩
     have HW9:=hide (below_step HW8.out b9)
     clear b9 s0 s1 s2 s3 s4
     have hle:=runB_le bl m hm
     by_cases hb:(runB m bl).2=0
     ·have HE:=hide (HR2.out.trans (whole_next _ h32 HH.out hb))
      dsimp only
      rw [hb]
      dsimp only at HE
      generalize (runB m bl).1=m2 at *
      clear hb
      go_wp2_with fail
      go_roundw
      case rel=>exact⟨m2,K+1,hle,rfl,by omega,by omega,by go_num,HE,HW9⟩
      case measure=>simp [intOf];omega
     ·have HE:=hide (HR2.out.trans (whole_body _ h32 HH.out hb))
      have hb':((runB m bl).2 != 0)=true:=by simpa using hb
      dsimp only
      dsimp only at HE
      generalize (runB m bl).2=z at *
      generalize (runB m bl).1=m2 at *
      clear hb
      obtain⟨d0,d1,z0,z1⟩:=err7_box ((HW9.out.block _ hz0).trans H1.out)
      go_wp2_with fail
      exact bodyPost_ret (v:= .agg #[.int .i64 z,.int .i64 (K:Int)]) (by simp [results,Tryz.results37,go_sem,d0,d1]) rfl ⟨by rw [HE.out],err7_below B0.out HW9.out⟩
    ·have HE:=hide (HR2.out.trans (whole_head _ _ h32 hh))
     have hh':(headC (nm,ps,rt,bl,pl) == 0)=false:=by simpa using hh
     have hh2:(headC (nm,ps,rt,bl,pl) != 0)=true:=by simpa using hh
     generalize headC (nm,ps,rt,bl,pl)=z at *
     clear hh
     obtain⟨d0,d1,z0,z1⟩:=err7_box ((HW8.out.block _ hz0).trans H1.out)
     go_wp2_with fail
     exact bodyPost_ret (v:= .agg #[.int .i64 z,.int .i64 (K:Int)]) (by simp [results,Tryz.results37,go_sem,d0,d1]) rfl ⟨by rw [HE.out],err7_below B0.out HW8.out⟩
  ·obtain rfl:K=p.length:=by omega
   have HE:Hid (wholeF 0 0 p=(0,0)):=hide (HR.out.trans (by rw [List.drop_length];rfl))
   obtain⟨d0,d1,z0,z1⟩:=err7_box ((HW.out.block _ hz0).trans H1.out)
   go_wp2_with fail
   exact bodyPost_ret (v:= .agg #[.int .i64 0,.int .i64 0]) (by simp [results,Tryz.results37,go_sem,d0,d1]) rfl ⟨by rw [HE.out],err7_below B0.out HW.out⟩
open G (Tok Er Ins Fun peek0 peek1 atOf)
theorem below_drewN {B:Nat} {a w:World} (h:Below B a w) (n:Nat):Below B a (w.drewN n):=⟨h.1,h.2,h.3,h.4,h.5⟩
def tells (s:List UInt8) (t:Int):Bool:=(L5.letter t).toList == s
end Go.Proofs.YtljkgcfnoegibaaGreatDoor
