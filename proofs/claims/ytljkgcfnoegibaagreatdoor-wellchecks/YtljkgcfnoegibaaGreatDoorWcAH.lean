/- Texts of one chain, joined. -/
import Derived.Test.YtljkgcfnoegibaaGreatDoorWcAG
namespace Go.Proofs.YtljkgcfnoegibaaGreatDoor.G
section
variable {d:Int} {m:List Tok} {E E':Int} {num:List UInt8→Int × Int} {idx:List UInt8→Int→Option Int} {nam:List UInt8→Bool} {shp:List UInt8→Int} {tks:Int→Nat} {fnd:List UInt8→Int × Int} {mks:Int→Int→Int} {prt:Nat→List UInt8→Bool}
theorem opword_ok {i:Int} {o:Int × Int} {l r:List Tok} (hf:(fnd []).1=0) (h:opword fnd mks E i l= .ok (o,r)):l≠ []∧r=l.tail∧o=fnd (peek0 l)∧o.1≠0∧decide (mks o.1 o.2≠0)=decide (0≤i):=by
 obtain⟨h1,h2,h3⟩:=one_ok (by simp [hf]) h
 split at h3
 ·cases h3
 ·rename_i hc
  cases h3
  exact⟨h1,h2,rfl,fun e=>hc (.inl e),by
   by_cases e:decide (mks (fnd (peek0 l)).1 (fnd (peek0 l)).2≠0)=decide (0≤i)
   ·exact e
   ·exact absurd (.inr e) hc⟩
theorem want_ok {w:List UInt8} (hw:w≠ []) {u:Unit} {l r:List Tok} (h:want E w l= .ok (u,r)):l≠ []∧r=l.tail∧peek0 l=w:=by
 obtain⟨h1,h2,h3⟩:=one_ok (want_none hw) h
 refine⟨h1,h2,?_⟩
 by_cases e:peek0 l=w
 ·exact e
 ·rw [if_neg e] at h3;cases h3
theorem ident_cases {i:Int} {l r:List Tok} (h:ident idx E l= .ok (i,r)):
  (peek1 l= [61]∧l≠ []∧mark idx 37 1048576 (peek0 l)=some i∧l.tail≠ []∧r=l.tail.tail∧value idx E l= .ok (i,l.tail)∧want E [61] l.tail= .ok ((),l.tail.tail))∨(peek1 l≠ [61]∧i= -1∧r=l):=by
 unfold ident at h
 by_cases hc:peek1 l= [61]
 ·rw [if_pos hc] at h
  obtain⟨v,q,h1,h2⟩:=then_ok h
  obtain⟨hl,hq,hv⟩:=value_ok h1
  subst hq
  obtain⟨u,q,h3,h4⟩:=then_ok h2
  obtain⟨hl2,hq,_⟩:=want_ok (by simp) h3
  subst hq
  cases h4
  exact .inl ⟨hc,hl,hv,hl2,rfl,h1,h3⟩
 ·rw [if_neg hc] at h
  cases h
  exact .inr ⟨hc,rfl,rfl⟩
theorem start_eats (hf:(fnd []).1=0):Eats (start idx fnd mks E):=by
 intro l v r h
 obtain⟨i,q,h1,h2⟩:=then_ok h
 obtain⟨o,q2,h3,h4⟩:=then_ok h2
 obtain⟨hq,hq2,_⟩:=opword_ok hf h3
 subst hq2
 cases h4
 rcases ident_cases h1 with ⟨_,hl,_,_,rfl,_⟩ | ⟨_,_,rfl⟩
 ·exact⟨hl,(List.tail_suffix _).trans (List.tail_suffix _)⟩
 ·exact⟨hq,List.suffix_refl _⟩
theorem instr_eats (hn:nam []=false) (hnum:(num []).2≠0) (hshp:shp []≠0) (hf:(fnd []).1=0):Eats (instr num idx nam shp tks fnd mks E):=by
 intro l v r h
 obtain⟨x,q,h1,h2⟩:=then_ok h
 obtain⟨hl,hs⟩:=start_eats hf l x q h1
 obtain⟨y,q2,h3,h4⟩:=then_ok h2
 cases h4
 exact⟨hl,((operands_sim (d:=0) (m:= []) (E':=E) hn hnum hshp x.2.1) q y r h3).1.trans hs⟩
theorem len_of {r l:List Tok} (hl:l≠ []) (h:r <:+l.tail):r.length+1≤l.length:=by
 have:=h.length_le
 cases l with
 |nil=>exact absurd rfl hl
 |cons t q=>simp at *;omega
theorem head_ok {k:Nat} {u:Unit} {l r:List Tok} (h:head prt E k l= .ok (u,r)):l≠ []∧r=l.tail∧k < 256:=by
 obtain⟨h1,h2,h3⟩:=one_ok (by simp) h
 refine⟨h1,h2,?_⟩
 split at h3
 ·cases h3
 ·rename_i hc
  by_cases e:256≤k
  ·exact absurd (.inl e) hc
  ·omega
theorem parW_sim:∀f f' acc l v r,f≤f'→l.length < f→parW E f acc l= .ok (v,r)→r <:+l∧(r≠ []→parW E' f' acc (sh d l ++ m)= .ok (v,sh d r ++ m)):=by
 intro f
 induction f with
 |zero=>intro f' acc l v r _ h;omega
 |succ f ih=>
  intro f' acc l v r hff hl h
  obtain⟨f',rfl⟩:∃k,f'=k+1:=⟨f' - 1,by omega⟩
  simp only [parW] at h ⊢
  by_cases hc:peek0 l= [41]
  ·rw [if_pos hc] at h
   cases h
   exact⟨List.suffix_refl _,fun hr=>by rw [peek0_sh hr,if_pos hc]⟩
  ·rw [if_neg hc] at h
   obtain⟨t,q,h1,h2⟩:=then_ok h
   obtain⟨hne,hs⟩:=param_eats l t q h1
   have hlen:=len_of hne hs
   obtain⟨s,c⟩:=ih f' (acc ++ [t]) q v r (by omega) (by omega) h2
   refine⟨(s.trans hs).trans (List.tail_suffix l),fun hr=> ?_⟩
   have hq:=ne_of_suffix s hr
   rw [peek0_sh hne,if_neg hc,(param_sim (E:=E) (E':=E') l t q h1).2 hq]
   exact c hr
theorem params_sim:Sim d m id (params E) (params E'):=by
 intro l v r h
 exact parW_sim (E':=E') (l.length+1) ((sh d l ++ m).length+1) [] l v r (by simp [sh]) (by omega) h
end
end Go.Proofs.YtljkgcfnoegibaaGreatDoor.G
namespace Go.Proofs.YtljkgcfnoegibaaGreatDoor
open Go Go.RowKit
open G (Tok Er Ins Fun peek0 peek1 atOf)
theorem then_assoc {α β γ:Type} (x:Except Er (α × List Tok)) (f:α→G.Rd β) (g:β→G.Rd γ):G.andThen (G.andThen x f) g=G.andThen x fun v r=>G.andThen (f v r) g:=by
 cases x with
 |error e=>rfl
 |ok p=>rfl
theorem then_ok {α β:Type} (v:α) (l:List Tok) (f:α→G.Rd β):G.andThen (.ok (v,l)) f=f v l:=rfl
theorem then_congr {α β:Type} {x:Except Er (α × List Tok)} {f g:α→G.Rd β} (h:∀v r,x= .ok (v,r)→f v r=g v r):G.andThen x f=G.andThen x g:=by
 cases x with
 |error e=>rfl
 |ok p=>exact h p.1 p.2 rfl
def fill (x:Ins) (y:G.Opd):Ins:=(x.1,x.2.1,y.1,x.2.2.2.1,y.2.1,y.2.2.1,y.2.2.2,x.2.2.2.2.2.2.2)
abbrev opsG (E op:Int):G.Rd G.Opd:=G.operands numF idxF namF shpF tksF E op
abbrev bare (op id ty p:Int):Ins:=(op,id,0,ty,[],[],[],p)
theorem moreV_eq {E:Int}:∀(f f':Nat) (x:Ins) (l:List Tok),l.length < f→l.length < f'→moreV E f x l=G.andThen (G.valuesW idxF E f' x.2.2.2.2.1 l) fun a r=> .ok ((x.1,x.2.1,x.2.2.1,x.2.2.2.1,a,x.2.2.2.2.2.1,x.2.2.2.2.2.2.1,x.2.2.2.2.2.2.2),r):=by
 intro f
 induction f with
 |zero=>intro f' x l h;omega
 |succ f ih=>
  intro f' x l h h'
  obtain⟨f',rfl⟩:∃k,f'=k+1:=⟨f' - 1,by omega⟩
  cases ht:G.taken l with
  |false=>rw [moreV_stop ht];unfold G.valuesW;rw [ht];rfl
  |true=>
   conv=>lhs;unfold moreV
   conv=>rhs;unfold G.valuesW
   rw [ht,if_pos rfl,if_pos rfl]
   unfold valueW byWord
   rw [then_assoc,then_assoc]
   refine then_congr fun v r hv=> ?_
   obtain⟨h1,h2,_⟩:=G.value_ok hv
   have:=tail_bulk h1
   show moreV E f (addArg x v) r=_
   rw [ih f' (addArg x v) r (by rw [h2];omega) (by rw [h2];omega)]
   rfl
theorem pairV_eq {E:Int}:∀(f f':Nat) (x:Ins) (l:List Tok),l.length < f→l.length < f'→x.2.2.2.2.2.1≠ []→pairV E f x l=G.andThen (G.phiW idxF E f' x.2.2.2.2.2.1 x.2.2.2.2.1 l) fun a r=> .ok ((x.1,x.2.1,x.2.2.1,x.2.2.2.1,a.2,a.1,x.2.2.2.2.2.2.1,x.2.2.2.2.2.2.2),r):=by
 intro f
 induction f with
 |zero=>intro f' x l h;omega
 |succ f ih=>
  intro f' x l h h' hx
  obtain⟨f',rfl⟩:∃k,f'=k+1:=⟨f' - 1,by omega⟩
  cases ht:G.paired l with
  |false=>rw [pairV_stop ht];unfold G.phiW;rw [if_neg (by simp [ht,hx])];rfl
  |true=>
   conv=>lhs;unfold pairV
   conv=>rhs;unfold G.phiW
   rw [ht,if_pos rfl,if_pos (.inr rfl)]
   unfold labelW byWord
   rw [then_assoc,then_assoc]
   refine then_congr fun b r hb=> ?_
   obtain⟨h1,h2,_⟩:=G.label_ok hb
   have:=tail_bulk h1
   show(G.andThen (valueW E (addTo x b) r) fun x'' l''=>pairV E f x'' l'')=G.andThen (G.andThen (G.value idxF E r) _) _
   unfold valueW byWord
   rw [then_assoc,then_assoc]
   refine then_congr fun v q hv=> ?_
   obtain⟨h3,h4,_⟩:=G.value_ok hv
   have:=tail_bulk h3
   show pairV E f (addArg (addTo x b) v) q=_
   rw [ih f' (addArg (addTo x b) v) q (by rw [h4];rw [h2] at *;omega) (by rw [h4];rw [h2] at *;omega) (by simp [addArg,addTo])]
   rfl
theorem ops_1 (E id ty p:Int) (l:List Tok):runW E (waysN 1) (bare 1 id ty p) l=G.andThen (opsG E 1 l) fun y r=> .ok (fill (bare 1 id ty p) y,r):=by
 show G.andThen (numberW E (bare 1 id ty p) l) (fun x1 l1=> .ok (x1,l1))=G.andThen (G.andThen (G.anyNum numF E l) (fun v1 r1=>G.done (v1,[],[],[]) r1)) _
 simp only [numberW,byWord,then_assoc,then_ok,G.done]
 rfl
theorem ops_10 (E id ty p:Int) (l:List Tok):runW E (waysN 10) (bare 10 id ty p) l=G.andThen (opsG E 10 l) fun y r=> .ok (fill (bare 10 id ty p) y,r):=by
 show G.andThen (lettersW E (bare 10 id ty p) l) (fun x1 l1=> .ok (x1,l1))=G.andThen (G.andThen (G.shaped shpF E l) (fun v1 r1=>G.done (0,[],[],v1) r1)) _
 simp only [lettersW,byWord,then_assoc,then_ok,G.done]
 rfl
theorem ops_11 (E id ty p:Int) (l:List Tok):runW E (waysN 11) (bare 11 id ty p) l=G.andThen (opsG E 11 l) fun y r=> .ok (fill (bare 11 id ty p) y,r):=by
 show G.andThen (valueW E (bare 11 id ty p) l) (fun x1 l1=>G.andThen (uptoW E 15 x1 l1) (fun x2 l2=> .ok (x2,l2)))=G.andThen (G.andThen (G.value idxF E l) (fun v1 r1=>G.andThen (G.number numF E 0 15 r1) (fun v2 r2=>G.done (v2,[v1],[],[]) r2))) _
 simp only [uptoW,valueW,byWord,then_assoc,then_ok,G.done]
 rfl
theorem ops_12 (E id ty p:Int) (l:List Tok):runW E (waysN 12) (bare 12 id ty p) l=G.andThen (opsG E 12 l) fun y r=> .ok (fill (bare 12 id ty p) y,r):=by
 show G.andThen (valueW E (bare 12 id ty p) l) (fun x1 l1=>G.andThen (uptoW E 15 x1 l1) (fun x2 l2=> .ok (x2,l2)))=G.andThen (G.andThen (G.value idxF E l) (fun v1 r1=>G.andThen (G.number numF E 0 15 r1) (fun v2 r2=>G.done (v2,[v1],[],[]) r2))) _
 simp only [uptoW,valueW,byWord,then_assoc,then_ok,G.done]
 rfl
theorem ops_13 (E id ty p:Int) (l:List Tok):runW E (waysN 13) (bare 13 id ty p) l=G.andThen (opsG E 13 l) fun y r=> .ok (fill (bare 13 id ty p) y,r):=by
 show G.andThen (valueW E (bare 13 id ty p) l) (fun x1 l1=>G.andThen (uptoW E 15 x1 l1) (fun x2 l2=>G.andThen (valueW E x2 l2) (fun x3 l3=> .ok (x3,l3))))=G.andThen (G.andThen (G.value idxF E l) (fun v1 r1=>G.andThen (G.number numF E 0 15 r1) (fun v2 r2=>G.andThen (G.value idxF E r2) (fun v3 r3=>G.done (v2,[v1,v3],[],[]) r3)))) _
 simp only [uptoW,valueW,byWord,then_assoc,then_ok,G.done]
 rfl
theorem ops_14 (E id ty p:Int) (l:List Tok):runW E (waysN 14) (bare 14 id ty p) l=G.andThen (opsG E 14 l) fun y r=> .ok (fill (bare 14 id ty p) y,r):=by
 show G.andThen (valueW E (bare 14 id ty p) l) (fun x1 l1=>G.andThen (uptoW E 15 x1 l1) (fun x2 l2=>G.andThen (valueW E x2 l2) (fun x3 l3=> .ok (x3,l3))))=G.andThen (G.andThen (G.value idxF E l) (fun v1 r1=>G.andThen (G.number numF E 0 15 r1) (fun v2 r2=>G.andThen (G.value idxF E r2) (fun v3 r3=>G.done (v2,[v1,v3],[],[]) r3)))) _
 simp only [uptoW,valueW,byWord,then_assoc,then_ok,G.done]
 rfl
theorem ops_15 (E id ty p:Int) (l:List Tok):runW E (waysN 15) (bare 15 id ty p) l=G.andThen (opsG E 15 l) fun y r=> .ok (fill (bare 15 id ty p) y,r):=by
 show G.andThen (valueW E (bare 15 id ty p) l) (fun x1 l1=>G.andThen (uptoW E 15 x1 l1) (fun x2 l2=> .ok (x2,l2)))=G.andThen (G.andThen (G.value idxF E l) (fun v1 r1=>G.andThen (G.number numF E 0 15 r1) (fun v2 r2=>G.done (v2,[v1],[],[]) r2))) _
 simp only [uptoW,valueW,byWord,then_assoc,then_ok,G.done]
 rfl
theorem ops_23 (E id ty p:Int) (l:List Tok):runW E (waysN 23) (bare 23 id ty p) l=G.andThen (opsG E 23 l) fun y r=> .ok (fill (bare 23 id ty p) y,r):=by
 show G.andThen (uptoW E 1048576 (bare 23 id ty p) l) (fun x1 l1=> .ok (x1,l1))=G.andThen (G.andThen (G.number numF E 0 1048576 l) (fun v1 r1=>G.done (v1,[],[],[]) r1)) _
 simp only [uptoW,byWord,then_assoc,then_ok,G.done]
 rfl
theorem ops_24 (E id ty p:Int) (l:List Tok):runW E (waysN 24) (bare 24 id ty p) l=G.andThen (opsG E 24 l) fun y r=> .ok (fill (bare 24 id ty p) y,r):=by
 show G.andThen (valueW E (bare 24 id ty p) l) (fun x1 l1=>G.andThen (uptoW E 1048576 x1 l1) (fun x2 l2=> .ok (x2,l2)))=G.andThen (G.andThen (G.value idxF E l) (fun v1 r1=>G.andThen (G.number numF E 0 1048576 r1) (fun v2 r2=>G.done (v2,[v1],[],[]) r2))) _
 simp only [uptoW,valueW,byWord,then_assoc,then_ok,G.done]
 rfl
theorem ops_26 (E id ty p:Int) (l:List Tok):runW E (waysN 26) (bare 26 id ty p) l=G.andThen (opsG E 26 l) fun y r=> .ok (fill (bare 26 id ty p) y,r):=by
 show G.andThen (labelW E (bare 26 id ty p) l) (fun x1 l1=> .ok (x1,l1))=G.andThen (G.andThen (G.label idxF E l) (fun v1 r1=>G.done (0,[],[v1],[]) r1)) _
 simp only [labelW,byWord,then_assoc,then_ok,G.done]
 rfl
theorem ops_27 (E id ty p:Int) (l:List Tok):runW E (waysN 27) (bare 27 id ty p) l=G.andThen (opsG E 27 l) fun y r=> .ok (fill (bare 27 id ty p) y,r):=by
 show G.andThen (valueW E (bare 27 id ty p) l) (fun x1 l1=>G.andThen (labelW E x1 l1) (fun x2 l2=>G.andThen (labelW E x2 l2) (fun x3 l3=> .ok (x3,l3))))=G.andThen (G.andThen (G.value idxF E l) (fun v1 r1=>G.andThen (G.label idxF E r1) (fun v2 r2=>G.andThen (G.label idxF E r2) (fun v3 r3=>G.done (0,[v1],[v2,v3],[]) r3)))) _
 simp only [labelW,valueW,byWord,then_assoc,then_ok,G.done]
 rfl
theorem ops_29 (E id ty p:Int) (l:List Tok):runW E (waysN 29) (bare 29 id ty p) l=G.andThen (opsG E 29 l) fun y r=> .ok (fill (bare 29 id ty p) y,r):=by
 show G.andThen (uptoW E 255 (bare 29 id ty p) l) (fun x1 l1=> .ok (x1,l1))=G.andThen (G.andThen (G.number numF E 0 255 l) (fun v1 r1=>G.done (v1,[],[],[]) r1)) _
 simp only [uptoW,byWord,then_assoc,then_ok,G.done]
 rfl
theorem ops_2 (E id ty p:Int) (l:List Tok):runW E (waysN 2) (bare 2 id ty p) l=G.andThen (opsG E 2 l) fun y r=> .ok (fill (bare 2 id ty p) y,r):=by
 have e:opsG E 2 l=G.andThen (G.valuesN idxF E 2 [] l) fun a=>G.done (0,a,[],[]):=by
  have h:tksF 2=2:=by decide
  rw [←h];rfl
 rw [e]
 show G.andThen (valueW E (bare 2 id ty p) l) (fun x1 l1=>G.andThen (valueW E x1 l1) (fun x2 l2=> .ok (x2,l2)))=_
 simp only [valueW,byWord,then_assoc,then_ok,G.done,G.valuesN]
 rfl
theorem ops_3 (E id ty p:Int) (l:List Tok):runW E (waysN 3) (bare 3 id ty p) l=G.andThen (opsG E 3 l) fun y r=> .ok (fill (bare 3 id ty p) y,r):=by
 have e:opsG E 3 l=G.andThen (G.valuesN idxF E 2 [] l) fun a=>G.done (0,a,[],[]):=by
  have h:tksF 3=2:=by decide
  rw [←h];rfl
 rw [e]
 show G.andThen (valueW E (bare 3 id ty p) l) (fun x1 l1=>G.andThen (valueW E x1 l1) (fun x2 l2=> .ok (x2,l2)))=_
 simp only [valueW,byWord,then_assoc,then_ok,G.done,G.valuesN]
 rfl
theorem ops_4 (E id ty p:Int) (l:List Tok):runW E (waysN 4) (bare 4 id ty p) l=G.andThen (opsG E 4 l) fun y r=> .ok (fill (bare 4 id ty p) y,r):=by
 have e:opsG E 4 l=G.andThen (G.valuesN idxF E 2 [] l) fun a=>G.done (0,a,[],[]):=by
  have h:tksF 4=2:=by decide
  rw [←h];rfl
 rw [e]
 show G.andThen (valueW E (bare 4 id ty p) l) (fun x1 l1=>G.andThen (valueW E x1 l1) (fun x2 l2=> .ok (x2,l2)))=_
 simp only [valueW,byWord,then_assoc,then_ok,G.done,G.valuesN]
 rfl
theorem ops_5 (E id ty p:Int) (l:List Tok):runW E (waysN 5) (bare 5 id ty p) l=G.andThen (opsG E 5 l) fun y r=> .ok (fill (bare 5 id ty p) y,r):=by
 have e:opsG E 5 l=G.andThen (G.valuesN idxF E 2 [] l) fun a=>G.done (0,a,[],[]):=by
  have h:tksF 5=2:=by decide
  rw [←h];rfl
 rw [e]
 show G.andThen (valueW E (bare 5 id ty p) l) (fun x1 l1=>G.andThen (valueW E x1 l1) (fun x2 l2=> .ok (x2,l2)))=_
 simp only [valueW,byWord,then_assoc,then_ok,G.done,G.valuesN]
 rfl
theorem ops_6 (E id ty p:Int) (l:List Tok):runW E (waysN 6) (bare 6 id ty p) l=G.andThen (opsG E 6 l) fun y r=> .ok (fill (bare 6 id ty p) y,r):=by
 have e:opsG E 6 l=G.andThen (G.valuesN idxF E 2 [] l) fun a=>G.done (0,a,[],[]):=by
  have h:tksF 6=2:=by decide
  rw [←h];rfl
 rw [e]
 show G.andThen (valueW E (bare 6 id ty p) l) (fun x1 l1=>G.andThen (valueW E x1 l1) (fun x2 l2=> .ok (x2,l2)))=_
 simp only [valueW,byWord,then_assoc,then_ok,G.done,G.valuesN]
 rfl
theorem ops_7 (E id ty p:Int) (l:List Tok):runW E (waysN 7) (bare 7 id ty p) l=G.andThen (opsG E 7 l) fun y r=> .ok (fill (bare 7 id ty p) y,r):=by
 have e:opsG E 7 l=G.andThen (G.valuesN idxF E 2 [] l) fun a=>G.done (0,a,[],[]):=by
  have h:tksF 7=2:=by decide
  rw [←h];rfl
 rw [e]
 show G.andThen (valueW E (bare 7 id ty p) l) (fun x1 l1=>G.andThen (valueW E x1 l1) (fun x2 l2=> .ok (x2,l2)))=_
 simp only [valueW,byWord,then_assoc,then_ok,G.done,G.valuesN]
 rfl
theorem ops_8 (E id ty p:Int) (l:List Tok):runW E (waysN 8) (bare 8 id ty p) l=G.andThen (opsG E 8 l) fun y r=> .ok (fill (bare 8 id ty p) y,r):=by
 have e:opsG E 8 l=G.andThen (G.valuesN idxF E 0 [] l) fun a=>G.done (0,a,[],[]):=by
  have h:tksF 8=0:=by decide
  rw [←h];rfl
 rw [e]
 show(.ok (bare 8 id ty p,l):Except Er (Ins × List Tok))=_
 simp only [then_ok,G.done,G.valuesN]
 rfl
theorem ops_9 (E id ty p:Int) (l:List Tok):runW E (waysN 9) (bare 9 id ty p) l=G.andThen (opsG E 9 l) fun y r=> .ok (fill (bare 9 id ty p) y,r):=by
 have e:opsG E 9 l=G.andThen (G.valuesN idxF E 2 [] l) fun a=>G.done (0,a,[],[]):=by
  have h:tksF 9=2:=by decide
  rw [←h];rfl
 rw [e]
 show G.andThen (valueW E (bare 9 id ty p) l) (fun x1 l1=>G.andThen (valueW E x1 l1) (fun x2 l2=> .ok (x2,l2)))=_
 simp only [valueW,byWord,then_assoc,then_ok,G.done,G.valuesN]
 rfl
theorem ops_16 (E id ty p:Int) (l:List Tok):runW E (waysN 16) (bare 16 id ty p) l=G.andThen (opsG E 16 l) fun y r=> .ok (fill (bare 16 id ty p) y,r):=by
 have e:opsG E 16 l=G.andThen (G.valuesN idxF E 1 [] l) fun a=>G.done (0,a,[],[]):=by
  have h:tksF 16=1:=by decide
  rw [←h];rfl
 rw [e]
 show G.andThen (valueW E (bare 16 id ty p) l) (fun x1 l1=> .ok (x1,l1))=_
 simp only [valueW,byWord,then_assoc,then_ok,G.done,G.valuesN]
 rfl
theorem ops_17 (E id ty p:Int) (l:List Tok):runW E (waysN 17) (bare 17 id ty p) l=G.andThen (opsG E 17 l) fun y r=> .ok (fill (bare 17 id ty p) y,r):=by
 have e:opsG E 17 l=G.andThen (G.valuesN idxF E 1 [] l) fun a=>G.done (0,a,[],[]):=by
  have h:tksF 17=1:=by decide
  rw [←h];rfl
 rw [e]
 show G.andThen (valueW E (bare 17 id ty p) l) (fun x1 l1=> .ok (x1,l1))=_
 simp only [valueW,byWord,then_assoc,then_ok,G.done,G.valuesN]
 rfl
theorem ops_18 (E id ty p:Int) (l:List Tok):runW E (waysN 18) (bare 18 id ty p) l=G.andThen (opsG E 18 l) fun y r=> .ok (fill (bare 18 id ty p) y,r):=by
 have e:opsG E 18 l=G.andThen (G.valuesN idxF E 2 [] l) fun a=>G.done (0,a,[],[]):=by
  have h:tksF 18=2:=by decide
  rw [←h];rfl
 rw [e]
 show G.andThen (valueW E (bare 18 id ty p) l) (fun x1 l1=>G.andThen (valueW E x1 l1) (fun x2 l2=> .ok (x2,l2)))=_
 simp only [valueW,byWord,then_assoc,then_ok,G.done,G.valuesN]
 rfl
theorem ops_19 (E id ty p:Int) (l:List Tok):runW E (waysN 19) (bare 19 id ty p) l=G.andThen (opsG E 19 l) fun y r=> .ok (fill (bare 19 id ty p) y,r):=by
 have e:opsG E 19 l=G.andThen (G.valuesN idxF E 2 [] l) fun a=>G.done (0,a,[],[]):=by
  have h:tksF 19=2:=by decide
  rw [←h];rfl
 rw [e]
 show G.andThen (valueW E (bare 19 id ty p) l) (fun x1 l1=>G.andThen (valueW E x1 l1) (fun x2 l2=> .ok (x2,l2)))=_
 simp only [valueW,byWord,then_assoc,then_ok,G.done,G.valuesN]
 rfl
theorem ops_22 (E id ty p:Int) (l:List Tok):runW E (waysN 22) (bare 22 id ty p) l=G.andThen (opsG E 22 l) fun y r=> .ok (fill (bare 22 id ty p) y,r):=by
 have e:opsG E 22 l=G.andThen (G.valuesN idxF E 1 [] l) fun a=>G.done (0,a,[],[]):=by
  have h:tksF 22=1:=by decide
  rw [←h];rfl
 rw [e]
 show G.andThen (valueW E (bare 22 id ty p) l) (fun x1 l1=> .ok (x1,l1))=_
 simp only [valueW,byWord,then_assoc,then_ok,G.done,G.valuesN]
 rfl
theorem ops_25 (E id ty p:Int) (l:List Tok):runW E (waysN 25) (bare 25 id ty p) l=G.andThen (opsG E 25 l) fun y r=> .ok (fill (bare 25 id ty p) y,r):=by
 have e:opsG E 25 l=G.andThen (G.valuesN idxF E 1 [] l) fun a=>G.done (0,a,[],[]):=by
  have h:tksF 25=1:=by decide
  rw [←h];rfl
 rw [e]
 show G.andThen (valueW E (bare 25 id ty p) l) (fun x1 l1=> .ok (x1,l1))=_
 simp only [valueW,byWord,then_assoc,then_ok,G.done,G.valuesN]
 rfl
theorem ops_28 (E id ty p:Int) (l:List Tok):runW E (waysN 28) (bare 28 id ty p) l=G.andThen (opsG E 28 l) fun y r=> .ok (fill (bare 28 id ty p) y,r):=by
 show G.andThen (perhapsValueW E (bare 28 id ty p) l) (fun x1 l1=> .ok (x1,l1))=G.andThen (G.ret1 idxF E l) _
 unfold perhapsValueW G.ret1
 cases ht:G.taken l with
 |false=>rfl
 |true=>
  rw [if_pos rfl,if_pos rfl]
  simp only [valueW,byWord,then_assoc,then_ok,G.done]
  rfl
theorem spot_eq (E:Int) (x:Ins) (l:List Tok) (hx:x.2.2.1=0):perhapsPointW E x l=G.andThen (G.spot idxF E l) fun n r=> .ok (setN x n,r):=by
 unfold perhapsPointW G.spot begins
 by_cases h:(peek0 l).head? =some 64
 ·rw [if_pos (by simpa using h),if_pos h];rfl
 ·rw [if_neg (by simpa using h),if_neg h]
  show _=Except.ok (setN x 0,l)
  rw [show setN x 0=x from by unfold setN;rw [←hx]]
theorem ops_21 (E id ty p:Int) (l:List Tok):runW E (waysN 21) (bare 21 id ty p) l=G.andThen (opsG E 21 l) fun y r=> .ok (fill (bare 21 id ty p) y,r):=by
 show G.andThen (perhapsPointW E (bare 21 id ty p) l) (fun x1 l1=>G.andThen (calleeW E x1 l1) (fun x2 l2=>G.andThen (moreValuesW E x2 l2) (fun x3 l3=> .ok (x3,l3))))=G.andThen (G.andThen (G.spot idxF E l) fun n r=>G.andThen (G.name namF E r) fun s r=>G.andThen (G.values idxF E r) fun a=>G.done (n,a,[],s)) _
 rw [spot_eq E _ l rfl]
 simp only [calleeW,byWord,then_assoc,then_ok,G.done]
 refine then_congr fun n r _=>then_congr fun s r2 _=> ?_
 show G.andThen (moreV E (r2.length+1) _ r2) _=G.andThen (G.valuesW idxF E (r2.length+1) [] r2) _
 rw [moreV_eq (r2.length+1) (r2.length+1) _ r2 (by omega) (by omega),then_assoc]
 rfl
theorem ops_20 (E id ty p:Int) (l:List Tok):runW E (waysN 20) (bare 20 id ty p) l=G.andThen (opsG E 20 l) fun y r=> .ok (fill (bare 20 id ty p) y,r):=by
 show G.andThen (labelW E (bare 20 id ty p) l) (fun x1 l1=>G.andThen (valueW E x1 l1) (fun x2 l2=>G.andThen (morePairsW E x2 l2) (fun x3 l3=> .ok (x3,l3))))=G.andThen (G.andThen (G.phiW idxF E (l.length+1) [] [] l) fun x=>G.done (0,x.2,x.1,[])) _
 conv=>rhs;unfold G.phiW
 rw [if_pos (.inl rfl)]
 simp only [labelW,valueW,byWord,then_assoc,then_ok,G.done]
 refine then_congr fun b r hb=>then_congr fun v r2 hv=> ?_
 obtain⟨h1,h2,_⟩:=G.label_ok hb
 obtain⟨h3,h4,_⟩:=G.value_ok hv
 have t1:=tail_bulk h1
 have t2:=tail_bulk h3
 show G.andThen (pairV E (r2.length+1) _ r2) _=G.andThen (G.phiW idxF E l.length [b] [v] r2) _
 rw [pairV_eq (r2.length+1) l.length _ r2 (by omega) (by rw [h4];rw [h2] at *;omega) (by simp [addArg,addTo]),then_assoc]
 rfl
theorem ops_eq (E op id ty p:Int) (l:List Tok) (ho:1≤op∧op≤29):runW E (waysN op) (bare op id ty p) l=G.andThen (opsG E op l) fun y r=> .ok (fill (bare op id ty p) y,r):=by
 obtain rfl | rfl | rfl | rfl | rfl | rfl | rfl | rfl | rfl | rfl | rfl | rfl | rfl | rfl | rfl | rfl | rfl | rfl | rfl | rfl | rfl | rfl | rfl | rfl | rfl | rfl | rfl | rfl | rfl:op=1∨op=2∨op=3∨op=4∨op=5∨op=6∨op=7∨op=8∨op=9∨op=10∨op=11∨op=12∨op=13∨op=14∨op=15∨op=16∨op=17∨op=18∨op=19∨op=20∨op=21∨op=22∨op=23∨op=24∨op=25∨op=26∨op=27∨op=28∨op=29:=by omega
 ·exact ops_1 E id ty p l
 ·exact ops_2 E id ty p l
 ·exact ops_3 E id ty p l
 ·exact ops_4 E id ty p l
 ·exact ops_5 E id ty p l
 ·exact ops_6 E id ty p l
 ·exact ops_7 E id ty p l
 ·exact ops_8 E id ty p l
 ·exact ops_9 E id ty p l
 ·exact ops_10 E id ty p l
 ·exact ops_11 E id ty p l
 ·exact ops_12 E id ty p l
 ·exact ops_13 E id ty p l
 ·exact ops_14 E id ty p l
 ·exact ops_15 E id ty p l
 ·exact ops_16 E id ty p l
 ·exact ops_17 E id ty p l
 ·exact ops_18 E id ty p l
 ·exact ops_19 E id ty p l
 ·exact ops_20 E id ty p l
 ·exact ops_21 E id ty p l
 ·exact ops_22 E id ty p l
 ·exact ops_23 E id ty p l
 ·exact ops_24 E id ty p l
 ·exact ops_25 E id ty p l
 ·exact ops_26 E id ty p l
 ·exact ops_27 E id ty p l
 ·exact ops_28 E id ty p l
 ·exact ops_29 E id ty p l
theorem instr_eq (E:Int) (l:List Tok):G.instr numF idxF namF shpF tksF fndF mksF E l=instrP E l:=by
 unfold G.instr G.instrA G.start instrP instrQ
 rw [then_assoc]
 refine then_congr fun id r _=> ?_
 show G.andThen (G.andThen (G.opword fndF mksF E id r) fun o=>G.done (id,o.1,o.2)) _=_
 rw [then_assoc]
 refine then_congr fun o r2 ho=> ?_
 have hz:o.1≠0∧o=fndF (peek0 r):=by
  obtain⟨h1,h2,h3,h4,_⟩:=G.opword_ok fnd_nil ho
  exact⟨h4,h3⟩
 have hr:1≤o.1∧o.1≤29:=by
  rcases fnd_range (peek0 r)with h | h
  ·rw [←hz.2] at h;exact absurd h hz.1
  ·rw [←hz.2] at h;exact h
 show G.andThen (opsG E o.1 r2) _=_
 rw [ops_eq E o.1 id o.2 (atOf E l) r2 hr]
 rfl
theorem own_len {w:World} {b e s n:Nat} {v:Value} {xs:List Value} (h:w.ownsRow b e s v n xs):∃(ao:Option Addr) (cap:Nat),v= .slice ao n cap:=by
 rcases h.2 with ⟨hv,hn⟩ | ⟨g,cap,cur,hv,_⟩
 ·exact⟨none,0,by rw [hv,hn]⟩
 ·exact⟨_,_,hv⟩
def InsRow (B:Nat) (w:World):List Ins→List Value→Prop
 |[],cs=>cs= []
 |x :: r,cs=>∃va vt rest,cs=insCells x va vt ++ rest∧w.ownsRow B 3 1 va x.2.2.2.2.1.length (ints x.2.2.2.2.1)∧w.ownsRow B 3 1 vt x.2.2.2.2.2.1.length (ints x.2.2.2.2.2.1)∧InsRow B w r rest
theorem InsRow.keep {B B':Nat} {w w':World} (hk:∀(v:Value) (n:Nat) (xs:List Value),w.ownsRow B 3 1 v n xs→w'.ownsRow B' 3 1 v n xs):∀(l:List Ins) (cs:List Value),InsRow B w l cs→InsRow B' w' l cs:=by
 intro l
 induction l with
 |nil=>intro cs h;exact h
 |cons x r ih=>
  rintro cs ⟨va,vt,rest,h1,h2,h3,h4⟩
  exact⟨va,vt,rest,h1,hk _ _ _ h2,hk _ _ _ h3,ih rest h4⟩
theorem InsRow.snoc {B:Nat} {w:World} {x:Ins} {va vt:Value} (h1:w.ownsRow B 3 1 va x.2.2.2.2.1.length (ints x.2.2.2.2.1)) (h2:w.ownsRow B 3 1 vt x.2.2.2.2.2.1.length (ints x.2.2.2.2.2.1)):∀(l:List Ins) (cs:List Value),InsRow B w l cs→InsRow B w (l ++ [x]) (cs ++ insCells x va vt):=by
 intro l
 induction l with
 |nil=>intro cs h;cases h;exact⟨va,vt,[],by simp,h1,h2,rfl⟩
 |cons y r ih=>
  rintro cs ⟨ua,ut,rest,rfl,h4,h5,h6⟩
  exact⟨ua,ut,rest ++ insCells x va vt,by simp,h4,h5,ih rest h6⟩
def BlkVal (B:Nat) (xs:List Ins) (v:Value) (w:World):Prop:=∃cs,w.ownsRow B 47 8 v xs.length cs∧InsRow B w xs cs
theorem own_below {w w':World} (b:Below w.heap.size w w') (B e s:Nat):∀(v:Value) (n:Nat) (xs:List Value),w.ownsRow B e s v n xs→w'.ownsRow B e s v n xs:=
 fun v _ _ h=>h.kept (L2.below_grown b) (by cases v.ownBlock <;> simp)
theorem own_other {w w':World} {row:Value} {B B' e s e' s' n:Nat} {xs:List Value} (hg:w.grownBy w' row.ownBlock) (hr:w.ownsRow B' e' s' row n xs) (he:e≠e'):∀(v:Value) (m:Nat) (ys:List Value),w.ownsRow B e s v m ys→w'.ownsRow B e s v m ys:=
 fun _ _ _ h=>h.kept hg (own_apart h hr he)
theorem BlkVal.below {B:Nat} {xs:List Ins} {v:Value} {w w':World} (h:BlkVal B xs v w) (b:Below w.heap.size w w'):BlkVal B xs v w':=by
 obtain⟨cs,h1,h2⟩:=h
 exact⟨cs,own_below b _ _ _ _ _ _ h1,InsRow.keep (own_below b B 3 1) _ _ h2⟩
theorem BlkVal.base {B B':Nat} {xs:List Ins} {v:Value} {w:World} (h:BlkVal B xs v w) (hB:B'≤B):BlkVal B' xs v w:=by
 obtain⟨cs,h1,h2⟩:=h
 exact⟨cs,own_base h1 hB,InsRow.keep (fun _ _ _ h=>own_base h hB) _ _ h2⟩
theorem Tryz.info47:(Tryz.prog.info? 47).map (fun i=>(i.zero,i.size,i.bytes))=some (some (.agg #[.int .i64 0,.int .i64 0,.int .i64 0,.int .i64 0,.slice none 0 0,.slice none 0 0,.string ⟨#[]⟩,.int .i64 0]),8,104):=by kernel_rfl
theorem eight_cell {w:World} {x:Ins} {va vt:Value}:∀(j:Nat) (u:Value),(insCells x va vt)[j]? =some u→(w.alloc (.cells (insCells x va vt).toArray 47)).cell? ((⟨w.heap.size,0,none⟩:Addr).add j)=some u:=
 World.news_of_block (cs:=(insCells x va vt).toArray) (heap_alloc_new w _)
theorem eight_one {x:Ins} {ao ap:Option Addr} {m n c d:Nat}:∀u∈insCells x (.slice ao m c) (.slice ap n d),u.oneCell'=true:=by
 intro u hu
 simp only [insCells,List.mem_cons,List.not_mem_nil,or_false] at hu
 rcases hu with rfl | rfl | rfl | rfl | rfl | rfl | rfl | rfl <;> rfl
abbrev blockG (E:Int) (k n:Nat):G.Rd (List Ins × Nat):=G.block numF idxF namF shpF tksF fndF mksF prtF E k n
abbrev insG (E:Int) (f n:Nat) (acc:List Ins):G.Rd (List Ins × Nat):=G.insW numF idxF namF shpF tksF fndF mksF E f n acc
theorem ins_stop {E:Int} {f n:Nat} {acc:List Ins} {l:List Tok} (h:peek0 l= [125]∨peek1 l= [58]):insG E (f+1) n acc l= .ok ((acc,n),l):=by
 unfold insG G.insW;rw [if_pos h]
theorem ins_many {E:Int} {f n:Nat} {acc:List Ins} {l:List Tok} (h:¬(peek0 l= [125]∨peek1 l= [58])) (hn:4096≤n):insG E (f+1) n acc l= .error (6,atOf E l):=by
 unfold insG G.insW;rw [if_neg h,if_pos hn]
theorem ins_bad {E:Int} {f n:Nat} {acc:List Ins} {l:List Tok} {er:Er} (h:¬(peek0 l= [125]∨peek1 l= [58])) (hn:n < 4096) (hi:instrP E l= .error er):insG E (f+1) n acc l= .error er:=by
 unfold insG G.insW;rw [if_neg h,if_neg (by omega),instr_eq,hi];rfl
theorem ins_go {E:Int} {f n:Nat} {acc:List Ins} {l l':List Tok} {x:Ins} (h:¬(peek0 l= [125]∨peek1 l= [58])) (hn:n < 4096) (hi:instrP E l= .ok (x,l')):insG E (f+1) n acc l=insG E f (n+1) (acc ++ [x]) l':=by
 conv=>lhs;unfold insG G.insW
 rw [if_neg h,if_neg (by omega),instr_eq,hi];rfl
theorem instr_less {E:Int} {l l':List Tok} {x:Ins} (h:instrP E l= .ok (x,l')):l'.length < l.length:=by
 rw [←instr_eq] at h
 obtain⟨h1,h2⟩:=G.instr_eats nam_nil num_nil shp_nil fnd_nil l x l' h
 have:=h2.length_le
 have:=tail_bulk h1
 omega
theorem BlkVal.snoc {B:Nat} {acc:List Ins} {x:Ins} {v v2 va vt:Value} {cs:List Value} {w w2:World} {o:Obj} (oR:w.ownsRow B 47 8 v acc.length cs) (hR:InsRow B w acc cs) (o1:w.ownsRow B 3 1 va x.2.2.2.2.1.length (ints x.2.2.2.2.1)) (o2:w.ownsRow B 3 1 vt x.2.2.2.2.2.1.length (ints x.2.2.2.2.2.1))
  (own:w2.ownsRow B 47 8 v2 (acc.length+1) (cs ++ insCells x va vt)) (grow:(w.alloc o).grownBy w2 v.ownBlock):BlkVal B (acc ++ [x]) v2 w2:=by
 have key:∀(v':Value) (n:Nat) (xs:List Value),w.ownsRow B 3 1 v' n xs→w2.ownsRow B 3 1 v' n xs:=fun v' n xs h=>own_other grow (oR.alloc o) (by decide) _ _ _ (h.alloc o)
 exact⟨cs ++ insCells x va vt,by rw [List.length_append];exact own,InsRow.snoc (key _ _ _ o1) (key _ _ _ o2) _ _ (InsRow.keep key _ _ hR)⟩
def Stay (B B':Nat) (w w':World):Prop:=∀(e s:Nat) (v:Value) (n:Nat) (xs:List Value),e=3∨e=45∨e=47→w.ownsRow B e s v n xs→w'.ownsRow B' e s v n xs
theorem Stay.trans {A B C:Nat} {u v w:World} (h:Stay A B u v) (k:Stay B C v w):Stay A C u w:=fun e s x n xs he ho=>k e s x n xs he (h e s x n xs he ho)
theorem stay_below {B:Nat} {w w':World} (b:Below w.heap.size w w'):Stay B B w w':=fun e s v n xs _ h=>own_below b B e s v n xs h
theorem stay_base {B B':Nat} {w:World} (hB:B'≤B):Stay B B' w w:=fun _ _ _ _ _ _ h=>own_base h hB
theorem stay_far {q B:Nat} {w w':World} (hf:Far q w w') (hq:∀(e s:Nat) (v:Value) (n:Nat) (xs:List Value),e=3∨e=45∨e=47→w.ownsRow B e s v n xs→v.ownBlock≠some q):Stay B B w w':=fun e s v n xs he h=>hf.own h (hq e s v n xs he h)
theorem far_kind {q B t:Nat} {w w':World} (hf:Far q w w') {c:Array Value} {fz:Nat × Nat} (hc:w.heap[q]? =some (.cells c t fz)) (ht:t≠3∧t≠45∧t≠47):Stay B B w w':=
 stay_far hf fun e s v n xs he h=>by
  refine own_ne h hc ?_
  rcases he with rfl | rfl | rfl
  ·exact ht.1
  ·exact ht.2.1
  ·exact ht.2.2
theorem stay_grown {B B' e' s' n:Nat} {w w':World} {row:Value} {ys:List Value} (hg:w.grownBy w' row.ownBlock) (hr:w.ownsRow B' e' s' row n ys) (he':e'≠3∧e'≠45∧e'≠47):Stay B B w w':=fun e s v m xs he h=>own_other hg hr (by omega) v m xs h
theorem BlkVal.stay {B B':Nat} {xs:List Ins} {v:Value} {w w':World} (h:BlkVal B xs v w) (hs:Stay B B' w w'):BlkVal B' xs v w':=by
 obtain⟨cs,h1,h2⟩:=h
 exact⟨cs,hs _ _ _ _ _ (by simp) h1,InsRow.keep (fun v n xs h=>hs 3 1 v n xs (by simp) h) _ _ h2⟩
def BRow (B:Nat) (w:World):List (List Ins)→List Value→Prop
 |[],vs=>vs= []
 |b :: r,vs=>∃v rest,vs=v :: rest∧BlkVal B b v w∧BRow B w r rest
theorem BRow.keep {B B':Nat} {w w':World} (hk:∀xs v,BlkVal B xs v w→BlkVal B' xs v w'):∀(l:List (List Ins)) (vs:List Value),BRow B w l vs→BRow B' w' l vs:=by
 intro l
 induction l with
 |nil=>intro vs h;exact h
 |cons b r ih=>
  rintro vs ⟨v,rest,h1,h2,h3⟩
  exact⟨v,rest,h1,hk _ _ h2,ih rest h3⟩
theorem BRow.snoc {B:Nat} {w:World} {b:List Ins} {v:Value} (h:BlkVal B b v w):∀(l:List (List Ins)) (vs:List Value),BRow B w l vs→BRow B w (l ++ [b]) (vs ++ [v]):=by
 intro l
 induction l with
 |nil=>intro vs hv;cases hv;exact⟨v,[],rfl,h,rfl⟩
 |cons y r ih=>
  rintro vs ⟨u,rest,rfl,h4,h5⟩
  exact⟨u,rest ++ [v],rfl,h4,ih rest h5⟩
def BlksVal (B:Nat) (bl:List (List Ins)) (v:Value) (w:World):Prop:=∃vs,w.ownsRow B 45 1 v bl.length vs∧BRow B w bl vs
theorem BlksVal.stay {B B':Nat} {bl:List (List Ins)} {v:Value} {w w':World} (h:BlksVal B bl v w) (hs:Stay B B' w w'):BlksVal B' bl v w':=by
 obtain⟨vs,h1,h2⟩:=h
 exact⟨vs,hs _ _ _ _ _ (by simp) h1,BRow.keep (fun _ _ h=>h.stay hs) _ _ h2⟩
def funCells (x:Fun) (vp vb:Value):List Value:= [.string (bs x.1),vp,.int .i64 x.2.2.1,vb,.int .i64 x.2.2.2.2]
def FunAt (B c:Nat) (x:Fun) (w:World):Prop:=
 ∃vp vb,w.heap[c]? =some (.cells (funCells x vp vb).toArray 36 (0,0))∧w.ownsRow B 3 1 vp x.2.1.length (ints x.2.1)∧BlksVal B x.2.2.2.1 vb w∧B≤c
def FunVal (B:Nat) (x:Fun) (v:Value) (w:World):Prop:=
 ∃vp vb,v= .agg (funCells x vp vb).toArray∧w.ownsRow B 3 1 vp x.2.1.length (ints x.2.1)∧BlksVal B x.2.2.2.1 vb w
theorem FunAt.stay {B c:Nat} {x:Fun} {w w':World} (h:FunAt B c x w) (hs:Stay B B w w') (hc:w'.heap[c]? =w.heap[c]?):FunAt B c x w':=by
 obtain⟨vp,vb,h1,h2,h3,h4⟩:=h
 exact⟨vp,vb,hc.trans h1,hs _ _ _ _ _ (by simp) h2,h3.stay hs,h4⟩
theorem FunAt.lt {B c:Nat} {x:Fun} {w:World} (h:FunAt B c x w):c < w.heap.size∧B≤c:=by
 obtain⟨vp,vb,h1,h2,h3,h4⟩:=h
 exact⟨(Array.getElem?_eq_some_iff.1 h1).1,h4⟩
theorem FunAt.put {B c i:Nat} {x y:Fun} {w:World} {v:Value} {vp' vb':Value→Value→Value} (h:FunAt B c x w) (hy:∀vp vb,(funCells x vp vb).toArray.setIfInBounds i v=(funCells y (vp' vp vb) (vb' vp vb)).toArray) (hp:∀vp vb,w.ownsRow B 3 1 vp x.2.1.length (ints x.2.1)→w.ownsRow B 3 1 (vp' vp vb) y.2.1.length (ints y.2.1)) (hb:∀vp vb,BlksVal B x.2.2.2.1 vb w→BlksVal B y.2.2.2.1 (vb' vp vb) w):FunAt B c y (w.setCell ⟨c,i,none⟩ v):=by
 obtain⟨vp,vb,h1,h2,h3,h4⟩:=h
 have hs:Stay B B w (w.setCell ⟨c,i,none⟩ v):=far_kind ((Far.refl c w).set i v) h1 (by decide)
 refine⟨vp' vp vb,vb' vp vb,?_,hs _ _ _ _ _ (by simp) (hp vp vb h2),(hb vp vb h3).stay hs,h4⟩
 rw [heap_setCell_same w c i _ 36 _ h1,hy]
def fName (x:Fun) (s:List UInt8):Fun:=(s,x.2.1,x.2.2.1,x.2.2.2.1,x.2.2.2.2)
def fRet (x:Fun) (t:Int):Fun:=(x.1,x.2.1,t,x.2.2.2.1,x.2.2.2.2)
def fBlock (x:Fun) (b:List Ins):Fun:=(x.1,x.2.1,x.2.2.1,x.2.2.2.1 ++ [b],x.2.2.2.2)
theorem FunAt.name {B c:Nat} {x:Fun} {w:World} (h:FunAt B c x w) (s:List UInt8):FunAt B c (fName x s) (w.setCell ⟨c,0,none⟩ (.string (bs s))):=
 h.put (vp':=fun vp _=>vp) (vb':=fun _ vb=>vb) (fun _ _=>rfl) (fun _ _ h=>h) (fun _ _ h=>h)
theorem FunAt.ret {B c:Nat} {x:Fun} {w:World} (h:FunAt B c x w) (t:Int):FunAt B c (fRet x t) (w.setCell ⟨c,2,none⟩ (.int .i64 t)):=
 h.put (vp':=fun vp _=>vp) (vb':=fun _ vb=>vb) (fun _ _=>rfl) (fun _ _ h=>h) (fun _ _ h=>h)
theorem FunAt.new {B:Nat} {w:World} (hB:B≤w.heap.size) (p:Int):FunAt B w.heap.size ([],[],0,[],p) (w.alloc (.cells #[.string ⟨#[]⟩,.slice none 0 0,.int .i64 0,.slice none 0 0,.int .i64 p] 36)):=
 ⟨.slice none 0 0,.slice none 0 0,heap_alloc_new w _,World.ownsRow_nil _ _ _ _,⟨[],World.ownsRow_nil _ _ _ _,rfl⟩,hB⟩
theorem FunAt.cells {B c:Nat} {x:Fun} {w:World} (h:FunAt B c x w):∃vp vb,(∀i v,(funCells x vp vb)[i]? =some v→w.cell? ⟨c,i,none⟩=some v)∧(∀i,w.frozen? ⟨c,i,none⟩=false)∧w.ownsRow B 3 1 vp x.2.1.length (ints x.2.1)∧BlksVal B x.2.2.2.1 vb w:=by
 obtain⟨vp,vb,h1,h2,h3,h4⟩:=h
 refine⟨vp,vb,fun i v hv=> ?_,fun i=>by simp [World.frozen?,h1],h2,h3⟩
 simp only [World.cell?,h1]
 simpa using hv
end Go.Proofs.YtljkgcfnoegibaaGreatDoor
