/- Texts of one chain, joined. -/
import Derived.Test.YtljkgcfnoegibaaGreatDoorWcAD
import Derived.Test.YtljkgcfnoegibaaGreatDoorWcAE
set_option maxHeartbeats 4000000
set_option maxRecDepth 20000
namespace Go.Proofs.YtljkgcfnoegibaaGreatDoor
open Go Go.RowKit
open G (Tok Er Ins Fun)
def IntsV (w:World) (l:List Int) (v:Value):Prop:=∃ao c,v= .slice ao l.length c∧Sl w ao l∧l.length≤c∧c≤maxLen
theorem IntsV.below {w w':World} {l:List Int} {v:Value} (h:IntsV w l v) (b:Below w.heap.size w w'):IntsV w' l v:=by
 obtain⟨ao,c,e,h1,h2⟩:=h
 exact⟨ao,c,e,h1.below b,h2⟩
def insC (x:Ins) (va vt:Value):List Value:= [.int .i64 x.1,.int .i64 x.2.1,.int .i64 x.2.2.1,.int .i64 x.2.2.2.1,va,vt,.string (bs x.2.2.2.2.2.2.1),.int .i64 x.2.2.2.2.2.2.2]
def InsR (w:World) (x:Ins) (g o:Nat):Prop:=g < w.heap.size∧∃va vt,(∀j t,(insC x va vt)[j]? =some t→w.cell? ⟨g,o+j,none⟩=some t)∧IntsV w x.2.2.2.2.1 va∧IntsV w x.2.2.2.2.2.1 vt
theorem InsR.below {w w':World} {x:Ins} {g o:Nat} (h:InsR w x g o) (b:Below w.heap.size w w'):InsR w' x g o:=by
 obtain⟨hg,va,vt,h1,h2,h3⟩:=h
 exact⟨Nat.lt_of_lt_of_le hg b.size,va,vt,fun j t hj=>(b.cell (p:=⟨g,o+j,none⟩) hg).trans (h1 j t hj),h2.below b,h3.below b⟩
def BlkR (w:World) (l:List Ins) (v:Value):Prop:=∃ao c,v= .slice ao l.length c∧l.length≤c∧c≤maxLen∧(l= []∨∃g o,ao=some ⟨g,o,none⟩∧∀i x,l[i]? =some x→InsR w x g (o+i * 8))
theorem BlkR.below {w w':World} {l:List Ins} {v:Value} (h:BlkR w l v) (b:Below w.heap.size w w'):BlkR w' l v:=by
 obtain⟨ao,c,e,h1,h2,h3⟩:=h
 refine⟨ao,c,e,h1,h2,?_⟩
 rcases h3 with h3 | ⟨g,o,e2,h4⟩
 ·exact .inl h3
 ·exact .inr ⟨g,o,e2,fun i x hi=>(h4 i x hi).below b⟩
def BlksR (w:World) (l:List (List Ins)) (v:Value):Prop:=∃ao c,v= .slice ao l.length c∧l.length≤c∧c≤maxLen∧(l= []∨∃g o,ao=some ⟨g,o,none⟩∧g < w.heap.size∧∀i b,l[i]? =some b→∃u,w.cell? ⟨g,o+i,none⟩=some u∧BlkR w b u)
theorem BlksR.below {w w':World} {l:List (List Ins)} {v:Value} (h:BlksR w l v) (b:Below w.heap.size w w'):BlksR w' l v:=by
 obtain⟨ao,c,e,h1,h2,h3⟩:=h
 refine⟨ao,c,e,h1,h2,?_⟩
 rcases h3 with h3 | ⟨g,o,e2,hg,h4⟩
 ·exact .inl h3
 ·refine .inr ⟨g,o,e2,Nat.lt_of_lt_of_le hg b.size,fun i x hi=> ?_⟩
  obtain⟨u,hu,hb⟩:=h4 i x hi
  exact⟨u,(b.cell (p:=⟨g,o+i,none⟩) hg).trans hu,hb.below b⟩
def funC (f:Fun) (vp vb:Value):List Value:= [.string (bs f.1),vp,.int .i64 f.2.2.1,vb,.int .i64 f.2.2.2.2]
def FunV (w:World) (f:Fun) (v:Value):Prop:=∃vp vb,v= .agg #[.string (bs f.1),vp,.int .i64 f.2.2.1,vb,.int .i64 f.2.2.2.2]∧IntsV w f.2.1 vp∧BlksR w f.2.2.2.1 vb
theorem FunV.below {w w':World} {f:Fun} {v:Value} (h:FunV w f v) (b:Below w.heap.size w w'):FunV w' f v:=by
 obtain⟨vp,vb,e,h1,h2⟩:=h
 exact⟨vp,vb,e,h1.below b,h2.below b⟩
def FunR (w:World) (f:Fun) (g o:Nat):Prop:=g < w.heap.size∧∃vp vb,(∀j t,(funC f vp vb)[j]? =some t→w.cell? ⟨g,o+j,none⟩=some t)∧IntsV w f.2.1 vp∧BlksR w f.2.2.2.1 vb
theorem FunR.below {w w':World} {x:Fun} {g o:Nat} (h:FunR w x g o) (b:Below w.heap.size w w'):FunR w' x g o:=by
 obtain⟨hg,va,vt,h1,h2,h3⟩:=h
 exact⟨Nat.lt_of_lt_of_le hg b.size,va,vt,fun j t hj=>(b.cell (p:=⟨g,o+j,none⟩) hg).trans (h1 j t hj),h2.below b,h3.below b⟩
def ProgR (w:World) (l:List Fun) (v:Value):Prop:=∃ao c,v= .slice ao l.length c∧l.length≤c∧c≤maxLen∧(l= []∨∃g o,ao=some ⟨g,o,none⟩∧∀i x,l[i]? =some x→FunR w x g (o+i * 5))
theorem ProgR.below {w w':World} {l:List Fun} {v:Value} (h:ProgR w l v) (b:Below w.heap.size w w'):ProgR w' l v:=by
 obtain⟨ao,c,e,h1,h2,h3⟩:=h
 refine⟨ao,c,e,h1,h2,?_⟩
 rcases h3 with h3 | ⟨g,o,e2,h4⟩
 ·exact .inl h3
 ·exact .inr ⟨g,o,e2,fun i x hi=>(h4 i x hi).below b⟩
def letL (t:Int):List UInt8:=(L5.letter t).data.toList
def parT (ps:List Int):List UInt8:=jn [32] (ps.map letL)
def blkW (k:Nat) (b:List Ins):List (List UInt8):= [labW (k:Int),[58,10]] ++ b.flatMap fun x=> [[32,32],insT x,[10]]
def blksW:Nat→List (List Ins)→List (List UInt8)
 |_,[]=> []
 |k,b :: r=>blkW k b ++ blksW (k+1) r
def headW (f:Fun):List (List UInt8):= [[102,117,110,99,32],f.1,[40],parT f.2.1,[41,32],letL f.2.2.1,[32,123,10]]
def funW (f:Fun):List (List UInt8):=headW f ++ blksW 0 f.2.2.2.1 ++ [[125,10]]
theorem box5 {w:World} {c:Nat} {a0 a1 a2 a3 a4:Value} (h:w.heap[c]? =some (.cells #[a0,a1,a2,a3,a4] 36 (0,0))):w.cell? ⟨c,0,none⟩=some a0∧w.cell? ⟨c,1,none⟩=some a1∧w.cell? ⟨c,2,none⟩=some a2∧w.cell? ⟨c,3,none⟩=some a3∧w.cell? ⟨c,4,none⟩=some a4:=by
 simp [World.cell?,h]
theorem InsR.val {w:World} {x:Ins} {g o:Nat} (h:InsR w x g o):∃ao to ca ct,InsV w x (.agg #[.int .i64 x.1,.int .i64 x.2.1,.int .i64 x.2.2.1,.int .i64 x.2.2.2.1,.slice ao x.2.2.2.2.1.length ca,.slice to x.2.2.2.2.2.1.length ct,.string (bs x.2.2.2.2.2.2.1),.int .i64 x.2.2.2.2.2.2.2])∧
  w.cell? ⟨g,o,none⟩=some (.int .i64 x.1)∧w.cell? ⟨g,o+1,none⟩=some (.int .i64 x.2.1)∧w.cell? ⟨g,o+2,none⟩=some (.int .i64 x.2.2.1)∧w.cell? ⟨g,o+3,none⟩=some (.int .i64 x.2.2.2.1)∧
  w.cell? ⟨g,o+4,none⟩=some (.slice ao x.2.2.2.2.1.length ca)∧w.cell? ⟨g,o+5,none⟩=some (.slice to x.2.2.2.2.2.1.length ct)∧w.cell? ⟨g,o+6,none⟩=some (.string (bs x.2.2.2.2.2.2.1))∧w.cell? ⟨g,o+7,none⟩=some (.int .i64 x.2.2.2.2.2.2.2):=by
 obtain⟨hg,va,vt,h1,⟨ao,ca,rfl,a1,a2,a3⟩,⟨to,ct,rfl,t1,t2,t3⟩⟩:=h
 exact⟨ao,to,ca,ct,⟨ao,to,ca,ct,rfl,a1,t1,a2,a3,t2,t3⟩,h1 0 _ rfl,h1 1 _ rfl,h1 2 _ rfl,h1 3 _ rfl,h1 4 _ rfl,h1 5 _ rfl,h1 6 _ rfl,h1 7 _ rfl⟩
theorem FunR.val {w:World} {f:Fun} {g o:Nat} (h:FunR w f g o):∃ao bo c cb,FunV w f (.agg #[.string (bs f.1),.slice ao f.2.1.length c,.int .i64 f.2.2.1,.slice bo f.2.2.2.1.length cb,.int .i64 f.2.2.2.2])∧
  w.cell? ⟨g,o,none⟩=some (.string (bs f.1))∧w.cell? ⟨g,o+1,none⟩=some (.slice ao f.2.1.length c)∧w.cell? ⟨g,o+2,none⟩=some (.int .i64 f.2.2.1)∧w.cell? ⟨g,o+3,none⟩=some (.slice bo f.2.2.2.1.length cb)∧w.cell? ⟨g,o+4,none⟩=some (.int .i64 f.2.2.2.2):=by
 obtain⟨hg,va,vt,h1,h2,h3⟩:=h
 have h2':=h2
 have h3':=h3
 obtain⟨ao,c,rfl,_⟩:=h2
 obtain⟨bo,cb,rfl,_⟩:=h3
 exact⟨ao,bo,c,cb,⟨_,_,rfl,h2',h3'⟩,h1 0 _ rfl,h1 1 _ rfl,h1 2 _ rfl,h1 3 _ rfl,h1 4 _ rfl⟩
def pasB (t:Int):Bool:=decide (t=1) || decide (t=2)
theorem passed_any (t:Int) (w:World):Calls Tryz.prog 88 #[.int .i64 t] w fun e w'=>e= .returned (.bool (pasB t))∧w'=w:=by
 by_cases h1:t=1
 ·have HB:Hid (true=pasB t):=hide (by simp [pasB,h1])
  have e1:(t == 1)=true:=by simpa using h1
  clear h1
  go_enter Tryz.func88,Tryz.ntmps88
  go_wp2_with fail
  go_ret
  exact⟨L5.ret_bool HB.out,rfl⟩
 ·have e1:(t == 1)=false:=by simpa using h1
  by_cases h2:t=2
  ·have HB:Hid (true=pasB t):=hide (by simp [pasB,h2])
   have e2:(t == 2)=true:=by simpa using h2
   clear h1 h2
   go_enter Tryz.func88,Tryz.ntmps88
   go_wp2_with fail
   go_ret
   exact⟨L5.ret_bool HB.out,rfl⟩
  ·have HB:Hid (false=pasB t):=hide (by simp [pasB,h1,h2])
   have e2:(t == 2)=false:=by simpa using h2
   clear h1 h2
   go_enter Tryz.func88,Tryz.ntmps88
   go_wp2_with fail
   go_ret
   exact⟨L5.ret_bool HB.out,rfl⟩
theorem head1_any (t:Int) (w:World):Calls Tryz.prog 90 #[.int .i64 t] w fun e w'=>e= .returned (.bool (!pasB t))∧w'=w:=by
 go_enter Tryz.func90,Tryz.ntmps90
 go_wp2_with fail
 refine(passed_any t w).mono ?_;rintro e w1 ⟨rfl,rfl⟩
 cases hb:pasB t with
 |true=>
  replace hb:=hide hb
  go_wp2_with fail
  go_ret
  exact⟨L5.ret_bool (by rw [hb.out];rfl),rfl⟩
 |false=>
  replace hb:=hide hb
  go_wp2_with fail
  go_ret
  exact⟨L5.ret_bool (by rw [hb.out];rfl),rfl⟩
def firstP:List Int→Int→Int
 |[],_=> -1
 |t :: r,k=>if(!pasB t)then k else firstP r (k+1)
theorem firstP_drop (xs:List Int) (k:Nat) (t:Int) (h:xs[k]? =some t):firstP (xs.drop k) k=if(!pasB t)then(k:Int)else firstP (xs.drop (k+1)) ((k+1:Nat):Int):=by
 have:xs.drop k=t :: xs.drop (k+1):=by
  obtain⟨h1,h2⟩:=List.getElem?_eq_some_iff.1 h
  rw [List.drop_eq_getElem_cons h1,h2]
 rw [this];rfl
theorem firstP_any (l:List Int):∀k:Int,0≤k→(l.any (fun t=> !pasB t)=true→0≤firstP l k)∧(l.any (fun t=> !pasB t)=false→firstP l k= -1):=by
 induction l with
 |nil=>intro k _;simp [firstP]
 |cons t r ih=>
  intro k hk
  rw [firstP,List.any_cons]
  cases hb:pasB t with
  |false=>simp;exact hk
  |true=>simpa using ih (k+1) (by omega)
theorem indexP_any (xs:List Int) (ao:Option Addr) (c:Nat) (w:World) (hs:Sl w ao xs) (hm:xs.length≤maxLen):
  Calls Tryz.prog 112 #[.slice ao xs.length c,.func (Fn.func 90) #[] #[]] w fun e w'=>e= .returned (.int .i64 (firstP xs 0))∧Below w.heap.size w w':=by
 have X:=hide hs
 unfold maxLen at hm
 clear hs
 go_enter Tryz.func112,Tryz.ntmps112
 go_wp2_with fail
 go_loopw [8] (fun i wr=>∃k:Nat,i= .int .i64 k∧k≤xs.length∧Below w.heap.size w wr∧Hid (firstP xs 0=firstP (xs.drop k) k)) (fun i _=>xs.length - (intOf i).toNat)
 case atStart=>exact⟨0,rfl,Nat.zero_le _,Below.refl _ _,rfl⟩
 case round=>
  obtain⟨k,rfl,hk,HB,HF⟩:=hrel
  have HB:=hide HB
  by_cases hlt:k < xs.length
  ·obtain⟨t,ht⟩:∃t,xs[k]? =some t:=⟨xs[k],List.getElem?_eq_getElem hlt⟩
   have HS:=hide (HF.out.trans (firstP_drop xs k t ht))
   rcases X.out with he | ⟨b,o,rfl,hb,hc⟩
   ·subst he;simp at hlt
   have hcell:wr.cell? ⟨b,o+k,none⟩=some (.int .i64 t):=(HB.out.cell (p:=⟨b,o+k,none⟩) hb).trans (hc k t ht)
   have hlt':(k:Int) < xs.length:=by omega
   clear hc ht
   go_wp2_with fail
   refine(head1_any t _).mono ?_;rintro e w1 ⟨rfl,rfl⟩
   cases hbt:pasB t with
   |false=>
    have HE:=hide (HS.out.trans (if_pos (by simp [hbt])))
    replace hbt:=hide hbt
    go_wp2_with fail
    go_ret
    exact⟨by rw [HE.out];rfl,HB.out⟩
   |true=>
    have HE:=hide (HS.out.trans (if_neg (by simp [hbt])))
    replace hbt:=hide hbt
    go_wp2_with fail
    go_roundw
    case rel=>exact⟨k+1,by go_num,by omega,HB.out,HE.out⟩
    case measure=>simp [intOf];omega
  ·have hk2:k=xs.length:=by omega
   subst hk2
   have HE:=hide (HF.out.trans (by rw [List.drop_length];rfl:_=(-1:Int)))
   go_wp2_with fail
   go_ret
   exact⟨by rw [HE.out];rfl,HB.out⟩
def parB (ps:List Int):Bool:=ps.any fun t=> !pasB t
theorem containsP_any (xs:List Int) (ao:Option Addr) (c:Nat) (w:World) (hs:Sl w ao xs) (hm:xs.length≤maxLen):
  Calls Tryz.prog 89 #[.slice ao xs.length c,.func (Fn.func 90) #[] #[]] w fun e w'=>e= .returned (.bool (parB xs))∧Below w.heap.size w w':=by
 obtain⟨f1,f2⟩:=firstP_any xs 0 (Int.le_refl 0)
 have X:=hide hs
 have F1:=hide f1
 have F2:=hide f2
 clear hs f1 f2
 go_enter Tryz.func89,Tryz.ntmps89
 go_wp2_with fail
 refine(indexP_any xs ao c _ X.out hm).mono ?_;rintro e w1 ⟨rfl,b1⟩
 cases hb:parB xs with
 |true=>
  have h1:=F1.out hb
  replace hb:=hide hb
  generalize firstP xs 0=r at *
  clear F1 F2
  go_wp2_with fail
  go_ret
  exact⟨L5.ret_bool hb.out.symm,b1⟩
 |false=>
  have h1:=F2.out hb
  rw [h1]
  replace hb:=hide hb
  clear F1 F2 h1
  go_wp2_with fail
  go_ret
  exact⟨L5.ret_bool hb.out.symm,b1⟩
def headC (f:Fun):Int:=
 if 8 < f.2.1.length∨256 < f.2.2.2.1.length then 6
 else if L2.nameB f.1=false then 4
 else if(f.2.2.1 < 0∨2 < f.2.2.1)∨parB f.2.1=true then 9
 else 0
theorem head_try (nm:List UInt8) (ps:List Int) (rt pl:Int) (bl:List (List Ins)) (ao bo:Option Addr) (c cb:Nat) (w:World) (hs:Sl w ao ps) (hL:ps.length≤maxLen∧bl.length≤maxLen) (hl:nm.length≤maxLen):
  Calls Tryz.prog 62 #[.agg #[.string (bs nm),.slice ao ps.length c,.int .i64 rt,.slice bo bl.length cb,.int .i64 pl]] w fun e w'=>e= .returned (.int .i64 (headC (nm,ps,rt,bl,pl)))∧Below w.heap.size w w':=by
 have b0:=below_box w (.cells #[.string (bs nm),.slice ao ps.length c,.int .i64 rt,.slice bo bl.length cb,.int .i64 pl] 36)
 have H0:=hide (heap_alloc_new w (.cells #[.string (bs nm),.slice ao ps.length c,.int .i64 rt,.slice bo bl.length cb,.int .i64 pl] 36))
 have A0:=hide (hs.below b0)
 have B0:=hide b0
 have hz0:(w.alloc (.cells #[.string (bs nm),.slice ao ps.length c,.int .i64 rt,.slice bo bl.length cb,.int .i64 pl] 36)).heap.size > w.heap.size:=by simp
 have HSZ:Hid ((bs nm).size≤maxLen):=hide (by rw [bs_size];exact hl)
 obtain⟨hLa,hLt⟩:=hL
 have HL:=hide hLa
 unfold maxLen at hLa hLt
 clear b0 hs hl
 go_enter Tryz.func62,Tryz.ntmps62
 go_upto_region 1 with fail
 show Code.wp _ _ _ _ (w.alloc (.cells #[.string (bs nm),.slice ao ps.length c,.int .i64 rt,.slice bo bl.length cb,.int .i64 pl] 36))
 generalize w.alloc (.cells #[.string (bs nm),.slice ao ps.length c,.int .i64 rt,.slice bo bl.length cb,.int .i64 pl] 36)=W at *
 obtain⟨c0,c1,c2,c3,c4⟩:=box5 H0.out
 by_cases h8:8 < ps.length
 ·have HC:Hid ((6:Int)=headC (nm,ps,rt,bl,pl)):=hide (by unfold headC;rw [if_pos (.inl h8)])
  have h8':(8:Int) < ps.length:=by omega
  go_wp2_with fail
  go_ret
  exact⟨L5.ret_int HC.out,B0.out⟩
 have h8':¬(8:Int) < ps.length:=by omega
 by_cases h256:256 < bl.length
 ·have HC:Hid ((6:Int)=headC (nm,ps,rt,bl,pl)):=hide (by unfold headC;rw [if_pos (.inr h256)])
  have h256':(256:Int) < bl.length:=by omega
  go_wp2_with fail
  go_ret
  exact⟨L5.ret_int HC.out,B0.out⟩
 have h256':¬(256:Int) < bl.length:=by omega
 have HF1:Hid (¬(8 < ps.length∨256 < bl.length)):=hide (by omega)
 go_wp2_with fail
 refine(L2.name_any (bs nm) W HSZ.out).mono ?_;rintro e w1 ⟨rfl,b1⟩
 rw [bs_data]
 have B1:=hide b1
 clear b1
 cases hb:L2.nameB nm with
 |false=>
  have HC:Hid ((4:Int)=headC (nm,ps,rt,bl,pl)):=hide (by unfold headC;rw [if_neg HF1.out,if_pos hb])
  replace hb:=hide hb
  go_wp2_with fail
  go_ret
  exact⟨L5.ret_int HC.out,below_step B0.out B1.out⟩
 |true=>
 have HF2:Hid (¬(L2.nameB nm=false)):=hide (by rw [hb];simp)
 replace hb:=hide hb
 clear c0 c1 c2 c3 c4
 obtain⟨c0,c1,c2,c3,c4⟩:=box5 ((B1.out.block _ (by omega)).trans H0.out)
 have HRT:Hid ((rt=0∨(rt≠0∧pasB rt=true))∧¬(rt < 0∨2 < rt)∨(rt≠0∧pasB rt=false)∧(rt < 0∨2 < rt)):=hide (by
  by_cases h0:rt=0
  ·exact .inl ⟨.inl h0,by omega⟩
  ·by_cases h1:rt=1∨rt=2
   ·refine .inl ⟨.inr ⟨h0,?_⟩,by omega⟩
    rcases h1 with h1 | h1 <;> simp [pasB,h1]
   ·refine .inr ⟨⟨h0,?_⟩,by omega⟩
    have h2:rt≠1:=fun h=>h1 (.inl h)
    have h3:rt≠2:=fun h=>h1 (.inr h)
    simp [pasB,h2,h3])
 rcases HRT.out with ⟨hr,hr2⟩ | ⟨⟨hr,hr1⟩,hr2⟩
 rotate_left
 ·have HC:Hid ((9:Int)=headC (nm,ps,rt,bl,pl)):=hide (by unfold headC;rw [if_neg HF1.out,if_neg HF2.out,if_pos (.inl hr2)])
  have hr3:(rt != 0)=true:=by simpa using hr
  replace hr1:=hide hr1
  clear HRT hr hr2
  go_wp2_with fail
  refine(passed_any rt _).mono ?_;rintro e w2 ⟨rfl,hw2⟩
  rw [hw2,hr1.out]
  clear hw2
  go_wp2_with fail
  go_ret
  exact⟨L5.ret_int HC.out,below_step B0.out B1.out⟩
 have HRE:Hid (∀r,parB ps=r→(if r then(9:Int)else 0)=headC (nm,ps,rt,bl,pl)):=hide fun r h=>by
  unfold headC
  rw [if_neg HF1.out,if_neg HF2.out]
  cases r with
  |true=>exact(if_pos (Or.inr h)).symm
  |false=>exact(if_neg (fun h2=>by
    rcases h2 with h2 | h2
    ·exact hr2 h2
    ·rw [show parB ps=false from h] at h2;cases h2)).symm
 replace hr2:=hide hr2
 clear HRT
 rcases hr with hr | ⟨hr,hr1⟩
 ·have hr3:(rt != 0)=false:=by simpa using hr
  replace hr:=hide hr
  go_wp2_with fail
  refine(containsP_any ps ao c _ (A0.out.below B1.out) HL.out).mono ?_;rintro e w3 ⟨rfl,b3⟩
  have B3:=hide (below_step B1.out b3)
  clear b3
  cases hp:parB ps with
  |true=>
   have HC:=hide (HRE.out true hp)
   replace hp:=hide hp
   go_wp2_with fail
   go_ret
   exact⟨L5.ret_int HC.out,below_step B0.out B3.out⟩
  |false=>
   have HC:=hide (HRE.out false hp)
   replace hp:=hide hp
   go_wp2_with fail
   go_ret
   exact⟨L5.ret_int HC.out,below_step B0.out B3.out⟩
 ·have hr3:(rt != 0)=true:=by simpa using hr
  replace hr1:=hide hr1
  clear hr
  go_wp2_with fail
  refine(passed_any rt _).mono ?_;rintro e w2 ⟨rfl,hw2⟩
  rw [hw2,hr1.out]
  clear hw2
  go_wp2_with fail
  refine(containsP_any ps ao c _ (A0.out.below B1.out) HL.out).mono ?_;rintro e w3 ⟨rfl,b3⟩
  have B3:=hide (below_step B1.out b3)
  clear b3
  cases hp:parB ps with
  |true=>
   have HC:=hide (HRE.out true hp)
   replace hp:=hide hp
   go_wp2_with fail
   go_ret
   exact⟨L5.ret_int HC.out,below_step B0.out B3.out⟩
  |false=>
   have HC:=hide (HRE.out false hp)
   replace hp:=hide hp
   go_wp2_with fail
   go_ret
   exact⟨L5.ret_int HC.out,below_step B0.out B3.out⟩
theorem pas_range (p:Int):(!pasB p)=true↔(p < 1∨2 < p):=by
 simp [pasB];omega
theorem parB_take (l:List Int) (j:Nat) (y:Int) (h:l[j]? =some y):parB (l.take (j+1))=(parB (l.take j) || !pasB y):=by
 unfold parB;rw [List.take_add_one,h];simp
theorem parB_hit (l:List Int) (j:Nat) (y:Int) (h:l[j]? =some y) (hb:(!pasB y)=true):parB l=true:=by
 unfold parB;rw [List.any_eq_true];exact⟨y,List.mem_of_getElem? h,hb⟩
def rheadC (i:Nat) (f:Fun):Int:=if 32≤i then 6 else headC f
theorem rhead_try (i:Nat) (nm:List UInt8) (ps:List Int) (rt pl:Int) (bl:List (List Ins)) (ao bo:Option Addr) (c cb:Nat) (w:World) (hs:Sl w ao ps) (hL:ps.length≤maxLen∧bl.length≤maxLen) (hl:nm.length≤maxLen) (hi:i≤maxLen):
  Calls Tryz.prog 40 #[.agg #[.string (bs nm),.slice ao ps.length c,.int .i64 rt,.slice bo bl.length cb,.int .i64 pl],.int .i64 i] w fun e w'=>e= .returned (.int .i64 (rheadC i (nm,ps,rt,bl,pl)))∧Below w.heap.size w w':=by
 unfold maxLen at hi
 have b0:=below_box w (.cells #[.string (bs nm),.slice ao ps.length c,.int .i64 rt,.slice bo bl.length cb,.int .i64 pl] 36)
 have H0:=hide (heap_alloc_new w (.cells #[.string (bs nm),.slice ao ps.length c,.int .i64 rt,.slice bo bl.length cb,.int .i64 pl] 36))
 have A0:=hide (hs.below b0)
 have B0:=hide b0
 have hz0:(w.alloc (.cells #[.string (bs nm),.slice ao ps.length c,.int .i64 rt,.slice bo bl.length cb,.int .i64 pl] 36)).heap.size > w.heap.size:=by simp
 have HSZ:Hid ((bs nm).size≤maxLen):=hide (by rw [bs_size];exact hl)
 obtain⟨hLa,hLt⟩:=hL
 have HL:=hide hLa
 unfold maxLen at hLa hLt
 clear b0 hs hl
 go_enter Tryz.func40,Tryz.ntmps40
 go_upto_region 1 with fail
 show Code.wp _ _ _ _ (w.alloc (.cells #[.string (bs nm),.slice ao ps.length c,.int .i64 rt,.slice bo bl.length cb,.int .i64 pl] 36))
 generalize w.alloc (.cells #[.string (bs nm),.slice ao ps.length c,.int .i64 rt,.slice bo bl.length cb,.int .i64 pl] 36)=W at *
 obtain⟨c0,c1,c2,c3,c4⟩:=box5 H0.out
 by_cases h32:32≤i
 ·have HC:Hid ((6:Int)=rheadC i (nm,ps,rt,bl,pl)):=hide (if_pos h32).symm
  have h32':(32:Int)≤i:=by omega
  go_wp2_with fail
  go_ret
  exact⟨L5.ret_int HC.out,B0.out⟩
 have HG:Hid (headC (nm,ps,rt,bl,pl)=rheadC i (nm,ps,rt,bl,pl)):=hide (if_neg h32).symm
 have h32':¬(32:Int)≤i:=by omega
 by_cases h8:8 < ps.length
 ·have HC:Hid ((6:Int)=rheadC i (nm,ps,rt,bl,pl)):=hide (by rw [←HG.out];unfold headC;rw [if_pos (.inl h8)])
  have h8':(8:Int) < ps.length:=by omega
  go_wp2_with fail
  go_ret
  exact⟨L5.ret_int HC.out,B0.out⟩
 have h8':¬(8:Int) < ps.length:=by omega
 by_cases h256:256 < bl.length
 ·have HC:Hid ((6:Int)=rheadC i (nm,ps,rt,bl,pl)):=hide (by rw [←HG.out];unfold headC;rw [if_pos (.inr h256)])
  have h256':(256:Int) < bl.length:=by omega
  go_wp2_with fail
  go_ret
  exact⟨L5.ret_int HC.out,B0.out⟩
 have h256':¬(256:Int) < bl.length:=by omega
 have HF1:Hid (¬(8 < ps.length∨256 < bl.length)):=hide (by omega)
 go_wp2_with fail
 refine(L2.rname_any (bs nm) W HSZ.out).mono ?_;rintro e w1 ⟨rfl,hw1⟩
 rw [hw1,bs_data]
 clear hw1
 cases hb:L2.nameB nm with
 |false=>
  have HC:Hid ((4:Int)=rheadC i (nm,ps,rt,bl,pl)):=hide (by rw [←HG.out];unfold headC;rw [if_neg HF1.out,if_pos hb])
  replace hb:=hide hb
  go_wp2_with fail
  go_ret
  exact⟨L5.ret_int HC.out,B0.out⟩
 |true=>
 have HF2:Hid (¬(L2.nameB nm=false)):=hide (by rw [hb];simp)
 replace hb:=hide hb
 by_cases hr0:rt < 0
 ·have HC:Hid ((9:Int)=rheadC i (nm,ps,rt,bl,pl)):=hide (by rw [←HG.out];unfold headC;rw [if_neg HF1.out,if_neg HF2.out,if_pos (.inl (.inl hr0))])
  go_wp2_with fail
  go_ret
  exact⟨L5.ret_int HC.out,B0.out⟩
 by_cases hr2:2 < rt
 ·have HC:Hid ((9:Int)=rheadC i (nm,ps,rt,bl,pl)):=hide (by rw [←HG.out];unfold headC;rw [if_neg HF1.out,if_neg HF2.out,if_pos (.inl (.inr hr2))])
  go_wp2_with fail
  go_ret
  exact⟨L5.ret_int HC.out,B0.out⟩
 have HF3:Hid (¬(rt < 0∨2 < rt)):=hide (by omega)
 go_wp2_with fail
 clear c0 c1 c2 c3 c4
 go_loopw [5] (fun i wr=>∃j:Nat,j≤ps.length∧i= .int .i64 j∧Hid (parB (ps.take j)=false)∧Hid (Below W.heap.size W wr)) (fun i _=>ps.length - (intOf i).toNat)
 case atStart=>exact⟨0,Nat.zero_le _,rfl,hide rfl,hide (Below.refl _ _)⟩
 case round=>
  obtain⟨j,hj,rfl,HA,HW⟩:=hrel
  obtain⟨c0,c1,c2,c3,c4⟩:=box5 ((HW.out.block _ (by omega)).trans H0.out)
  by_cases hlt:j < ps.length
  ·obtain⟨y,hy⟩:∃y,ps[j]? =some y:=⟨_,List.getElem?_eq_getElem hlt⟩
   rcases A0.out with he | ⟨g,o,rfl,hg,hcc⟩
   ·subst he;simp at hlt
   have hcell:=(HW.out.cell (p:=⟨g,o+j,none⟩) hg).trans (hcc j y hy)
   have hlt':(j:Int) < ps.length:=by omega
   have HT:=hide (parB_take ps j y hy)
   have HH:=hide (parB_hit ps j y hy)
   clear hcc hy
   by_cases hy0:y < 1
   ·have HC:Hid ((9:Int)=rheadC i (nm,ps,rt,bl,pl)):=hide (by rw [←HG.out];unfold headC;rw [if_neg HF1.out,if_neg HF2.out,if_pos (.inr (HH.out ((pas_range y).2 (.inl hy0))))])
    clear HH HT
    go_wp2_with fail
    go_ret
    exact⟨L5.ret_int HC.out,below_step B0.out HW.out⟩
   ·by_cases hy1:2 < y
    ·have HC:Hid ((9:Int)=rheadC i (nm,ps,rt,bl,pl)):=hide (by rw [←HG.out];unfold headC;rw [if_neg HF1.out,if_neg HF2.out,if_pos (.inr (HH.out ((pas_range y).2 (.inr hy1))))])
     clear HH HT
     go_wp2_with fail
     go_ret
     exact⟨L5.ret_int HC.out,below_step B0.out HW.out⟩
    ·have HT1:Hid (parB (ps.take (j+1))=false):=hide (by
      rw [HT.out,HA.out,Bool.false_or]
      cases hq:(!pasB y)with
      |false=>rfl
      |true=>have:=(pas_range y).1 hq;omega)
     clear HH HT
     go_wp2_with fail
     go_roundw
     case rel=>exact⟨j+1,by omega,by go_num,HT1,HW⟩
     case measure=>simp [intOf];omega
  ·obtain rfl:j=ps.length:=by omega
   have HC:Hid ((0:Int)=rheadC i (nm,ps,rt,bl,pl)):=hide (by
    rw [←HG.out]
    unfold headC
    rw [if_neg HF1.out,if_neg HF2.out,if_neg]
    intro h
    rcases h with h | h
    ·exact HF3.out h
    ·have h2:=HA.out
     rw [List.take_length] at h2
     rw [show parB ps=false from h2] at h
     cases h)
   go_wp2_with fail
   go_ret
   exact⟨L5.ret_int HC.out,below_step B0.out HW.out⟩
def runI:Nat→List Ins→Nat × Int
 |m,[]=>(m,0)
 |m,x :: r=>if m=4096 then(m,6)else if checkC x≠0 then(m+1,checkC x)else runI (m+1) r
def runB:Nat→List (List Ins)→Nat × Int
 |m,[]=>(m,0)
 |m,b :: r=>if(runI m b).2≠0 then runI m b else runB (runI m b).1 r
theorem wdrop_at {α:Type} {l:List α} {j:Nat} {x:α} (h:l[j]? =some x):l.drop j=x :: l.drop (j+1):=by
 obtain⟨h1,h2⟩:=List.getElem?_eq_some_iff.1 h
 rw [List.drop_eq_getElem_cons h1,h2]
def midB (m:Nat) (b:List Ins) (r:List (List Ins)):Nat × Int:=if(runI m b).2≠0 then runI m b else runB (runI m b).1 r
theorem midB_nil (m:Nat) (r:List (List Ins)):midB m [] r=runB m r:=by unfold midB;simp [runI]
theorem midB_full (x:Ins) (b:List Ins) (r:List (List Ins)):midB 4096 (x :: b) r=(4096,6):=by unfold midB;simp [runI]
theorem midB_bad {m:Nat} {x:Ins} (b:List Ins) (r:List (List Ins)) (hm:m≠4096) (hx:checkC x≠0):midB m (x :: b) r=(m+1,checkC x):=by
 have e:runI m (x :: b)=(m+1,checkC x):=by rw [runI,if_neg hm,if_pos hx]
 unfold midB;rw [e,if_pos hx]
theorem midB_good {m:Nat} {x:Ins} (b:List Ins) (r:List (List Ins)) (hm:m≠4096) (hx:checkC x=0):midB m (x :: b) r=midB (m+1) b r:=by
 have e:runI m (x :: b)=runI (m+1) b:=by rw [runI,if_neg hm,if_neg (by simp [hx])]
 unfold midB;rw [e]
def OkI (x:Ins):Prop:=I64 x.2.2.1∧x.2.2.2.2.2.2.1.length≤maxLen
def OkF (f:Fun):Prop:=f.1.length≤maxLen∧∀b∈f.2.2.2.1,∀x∈b,OkI x
theorem body_try (m0:Nat) (nm:List UInt8) (ps:List Int) (rt pl:Int) (bl:List (List Ins)) (ao bo:Option Addr) (c cb:Nat) (w:World) (hb:BlksR w bl (.slice bo bl.length cb)) (ht:Tb w) (hO:OkF (nm,ps,rt,bl,pl)) (hm0:m0≤4096):
  Calls Tryz.prog 63 #[.agg #[.string (bs nm),.slice ao ps.length c,.int .i64 rt,.slice bo bl.length cb,.int .i64 pl],.int .i64 m0] w fun e w'=>e= .returned (.tuple #[.int .i64 ((runB m0 bl).1:Nat),.int .i64 (runB m0 bl).2])∧Below w.heap.size w w':=by
 obtain⟨_,o2⟩:=hO
 dsimp only at o2
 have b0:=below_box w (.cells #[.string (bs nm),.slice ao ps.length c,.int .i64 rt,.slice bo bl.length cb,.int .i64 pl] 36)
 have H0:=hide (heap_alloc_new w (.cells #[.string (bs nm),.slice ao ps.length c,.int .i64 rt,.slice bo bl.length cb,.int .i64 pl] 36))
 have T0:=hide (ht.below b0)
 have HBl:=hide (hb.below b0)
 have hz0:(w.alloc (.cells #[.string (bs nm),.slice ao ps.length c,.int .i64 rt,.slice bo bl.length cb,.int .i64 pl] 36)).heap.size > w.heap.size:=by simp
 have B0:=hide b0
 have O2:=hide o2
 have hcb:bl.length≤cb∧cb≤maxLen:=by
  obtain⟨ao',c',e,h1,h2,_⟩:=hb
  injection e with e1 e2 e3
  subst e3
  exact⟨h1,h2⟩
 unfold maxLen at hcb
 clear b0 hb ht o2
 go_enter Tryz.func63,Tryz.ntmps63
 go_upto_region 1 with fail
 show Code.wp _ _ _ _ (w.alloc (.cells #[.string (bs nm),.slice ao ps.length c,.int .i64 rt,.slice bo bl.length cb,.int .i64 pl] 36))
 generalize w.alloc (.cells #[.string (bs nm),.slice ao ps.length c,.int .i64 rt,.slice bo bl.length cb,.int .i64 pl] 36)=W at *
 obtain⟨c0,c1,c2,c3,c4⟩:=box5 H0.out
 go_wp2_with fail
 go_loopw [1,14] (fun mm i wr=>∃(m K:Nat),m≤4096∧mm= .int .i64 m∧K≤bl.length∧i= .int .i64 K∧Hid (runB m0 bl=runB m (bl.drop K))∧Hid (Below W.heap.size W wr)) (fun _ i _=>bl.length - (intOf i).toNat)
 case atStart=>exact⟨m0,0,hm0,rfl,Nat.zero_le _,rfl,hide rfl,hide (Below.refl _ _)⟩
 case round=>
  obtain⟨m,K,hm,rfl,hK,rfl,HR,HW⟩:=hrel
  by_cases hkt:K < bl.length
  ·obtain⟨b,hbK⟩:∃b,bl[K]? =some b:=⟨bl[K],List.getElem?_eq_some_iff.2 ⟨hkt,rfl⟩⟩
   obtain⟨ao',c',eq',hh1,hh2,hh3⟩:=HBl.out
   injection eq' with e1 e2 e3
   subst e1 e3
   rcases hh3 with hh3 | ⟨gb,ob,rfl,hgb,hbl⟩
   ·subst hh3;simp at hkt
   obtain⟨vk,kd,kk⟩:=hbl K b hbK
   have kd':=(HW.out.cell (p:=⟨gb,ob+K,none⟩) hgb).trans kd
   obtain⟨aok,capk,rfl,lk1,lk2,kins⟩:=kk
   have HOb:=hide (O2.out b (List.mem_of_getElem? hbK))
   have KI:=hide kins
   have hkI:(K:Int) < bl.length:=by omega
   have HR2:Hid (runB m0 bl=midB m (b.drop 0) (bl.drop (K+1))):=hide (by rw [HR.out,wdrop_at hbK];rfl)
   unfold maxLen at lk2
   clear kins kd hbl hbK hh1 hh2 HR
   go_wp2_with fail
   go_loopw [1,20] (fun mm i wr=>∃(m J:Nat),m≤4096∧mm= .int .i64 m∧J≤b.length∧i= .int .i64 J∧Hid (runB m0 bl=midB m (b.drop J) (bl.drop (K+1)))∧Hid (Below W.heap.size W wr)) (fun _ i _=>b.length - (intOf i).toNat)
   case atStart=>exact⟨m,0,hm,rfl,Nat.zero_le _,rfl,HR2,HW⟩
   case round=>
    obtain⟨m2,J,hm2,rfl,hJ,rfl,HRJ,HWJ⟩:=hrel
    by_cases hjt:J < b.length
    ·obtain⟨y,hyJ⟩:∃y,b[J]? =some y:=⟨b[J],List.getElem?_eq_some_iff.2 ⟨hjt,rfl⟩⟩
     rcases KI.out with hh | ⟨gi,oi,rfl,hin⟩
     ·subst hh;simp at hjt
     obtain⟨aoy,toy,cay,cty,hv,q0,q1,q2,q3,q4,q5,q6,q7⟩:=((hin J y hyJ).below HWJ.out).val
     have HV:=hide hv
     have HOy:=hide (HOb.out y (List.mem_of_getElem? hyJ))
     have hjI:(J:Int) < b.length:=by omega
     have TJ:=hide (T0.out.below HWJ.out)
     have HR3:=hide (HRJ.out.trans (by rw [wdrop_at hyJ]))
     obtain⟨op,id,nn,ty,ar,tt,na,pp⟩:=y
     dsimp only at HV q0 q1 q2 q3 q4 q5 q6 q7
     clear hin hyJ hv HRJ
     by_cases h4:m2=4096
     ·subst h4
      have HE:=hide (HR3.out.trans (midB_full _ _ _))
      have h4':(((4096:Nat):Int) == 4096)=true:=rfl
      go_wp2_with fail
      go_ret2
      exact⟨by rw [HE.out];rfl,below_step B0.out (HWJ.out.trans ((below_box _ _).mono HWJ.out.size))⟩
     ·have h4':((m2:Int) == 4096)=false:=beq_eq_false_iff_ne.2 (by omega)
      have B7:=hide (below_box wr (.cells #[.int .i64 op,.int .i64 id,.int .i64 nn,.int .i64 ty,.slice aoy ar.length cay,.slice toy tt.length cty,.string (bs na),.int .i64 pp] 47))
      go_wp2_with fail
      refine(check_any (op,id,nn,ty,ar,tt,na,pp) _ _ (HV.out.below B7.out) HOy.out.1 (TJ.out.below B7.out) HOy.out.2).mono ?_;rintro e w7 ⟨rfl,b7⟩
      have HW7:=hide (below_step HWJ.out (below_step B7.out b7))
      clear q0 q1 q2 q3 q4 q5 q6 q7 b7
      by_cases hcx:checkC (op,id,nn,ty,ar,tt,na,pp)=0
      ·have HE:=hide (HR3.out.trans (midB_good _ _ h4 hcx))
       rw [hcx]
       go_wp2_with fail
       go_roundw
       case rel=>exact⟨m2+1,J+1,by omega,by go_num,by omega,by go_num,HE,HW7⟩
       case measure=>simp [intOf];omega
      ·have HE:=hide (HR3.out.trans (midB_bad _ _ h4 hcx))
       have hcx':(checkC (op,id,nn,ty,ar,tt,na,pp) != 0)=true:=by simpa using hcx
       generalize checkC (op,id,nn,ty,ar,tt,na,pp)=z at *
       go_wp2_with fail
       go_ret2
       exact⟨by rw [HE.out];rfl,below_step B0.out HW7.out⟩
    ·obtain rfl:J=b.length:=by omega
     have HE:=hide (HRJ.out.trans (by rw [List.drop_length,midB_nil]:_=runB m2 (bl.drop (K+1))))
     go_wp2_with fail
     go_roundw
     case rel=>exact⟨m2,K+1,hm2,rfl,by omega,by go_num,HE,HWJ⟩
     case measure=>simp [intOf];omega
  ·obtain rfl:K=bl.length:=by omega
   have HE:Hid (runB m0 bl=(m,0)):=hide (HR.out.trans (by rw [List.drop_length];rfl))
   go_wp2_with fail
   go_ret2
   exact⟨by rw [HE.out];rfl,below_step B0.out HW.out⟩
theorem runI_le:∀(l:List Ins) (m:Nat),m≤4096→(runI m l).1≤4096
 |[],m,h=>h
 |x :: r,m,h=>by
  rw [runI]
  split
  ·exact h
  ·split
   ·show m+1≤4096;omega
   ·exact runI_le r (m+1) (by omega)
theorem runB_le:∀(l:List (List Ins)) (m:Nat),m≤4096→(runB m l).1≤4096
 |[],m,h=>h
 |b :: r,m,h=>by
  rw [runB]
  split
  ·exact runI_le b m h
  ·exact runB_le r _ (runI_le b m h)
end Go.Proofs.YtljkgcfnoegibaaGreatDoor
