/- Texts of one chain, joined. -/
import Derived.WalkKit
import Derived.Laws.AppendOwn
import Derived.OwnWalk
import Derived.Lib.OthersKept
import Derived.Below
import Derived.Test.YtljkgcfnoegibaaGreatDoorProg
import Derived.KernelRfl
import Derived.WalkSpells
import Derived.WalkSmall
import Derived.WalkLawsBesides
namespace Go.Proofs.YtljkgcfnoegibaaGreatDoor.G
abbrev Tok:=List UInt8 × Int
abbrev Er:=Int × Int
abbrev Ins:=Int × Int × Int × Int × List Int × List Int × List UInt8 × Int
abbrev Fun:=List UInt8 × List Int × Int × List (List Ins) × Int
abbrev Rd (α:Type):=List Tok→Except Er (α × List Tok)
def andThen {α β:Type} (x:Except Er (α × List Tok)) (f:α→Rd β):Except Er (β × List Tok):=
 match x with
 |.ok (v,r)=>f v r
 |.error e=> .error e
def peek0:List Tok→List UInt8
 |[]=> []
 |t :: _=>t.1
def peek1:List Tok→List UInt8
 |_ :: t :: _=>t.1
 |_=> []
def atOf (E:Int):List Tok→Int
 |[]=>E
 |t :: _=>t.2
def one {α:Type} (f:List UInt8→Option α) (c:List UInt8→Int) (E:Int):Rd α:=fun l=>
 match f (peek0 l)with
 |some v=> .ok (v,l.tail)
 |none=> .error (c (peek0 l),atOf E l)
def want (E:Int) (w:List UInt8):Rd Unit:=one (fun s=>if s=w then some ()else none) (fun _=>2) E
def name (nam:List UInt8→Bool) (E:Int):Rd (List UInt8):=one (fun s=>if nam s then some s else none) (fun _=>4) E
def mark (idx:List UInt8→Int→Option Int) (sign:UInt8) (most:Int) (s:List UInt8):Option Int:=
 match s with
 |x :: y :: r=>if x=sign then idx (y :: r) most else none
 |_=>none
def index (idx:List UInt8→Int→Option Int) (sign:UInt8) (most c E:Int):Rd Int:=one (mark idx sign most) (fun _=>c) E
def value (idx:List UInt8→Int→Option Int) (E:Int):Rd Int:=index idx 37 1048576 8 E
def label (idx:List UInt8→Int→Option Int) (E:Int):Rd Int:=index idx 98 255 7 E
def number (num:List UInt8→Int × Int) (E lo hi:Int):Rd Int:=
 one (fun s=>if(num s).2≠0∨(num s).1 < lo∨hi < (num s).1 then none else some (num s).1) (fun s=>if(num s).2≠0 then(num s).2 else 18) E
def anyNum (num:List UInt8→Int × Int) (E:Int):Rd Int:=one (fun s=>if(num s).2≠0 then none else some (num s).1) (fun s=>(num s).2) E
def shaped (shp:List UInt8→Int) (E:Int):Rd (List UInt8):=one (fun s=>if shp s≠0 then none else some s) shp E
def taken (l:List Tok):Bool:=(peek0 l).head? == some 37 && peek1 l != [61]
def paired (l:List Tok):Bool:=(peek0 l).head? == some 98 && peek0 l != [98,114] && peek1 l != [58]
def valuesW (idx:List UInt8→Int→Option Int) (E:Int):Nat→List Int→Rd (List Int)
 |0,acc=>fun l=> .ok (acc,l)
 |f+1,acc=>fun l=>if taken l then andThen (value idx E l) fun v=>valuesW idx E f (acc ++ [v])else .ok (acc,l)
def values (idx:List UInt8→Int→Option Int) (E:Int):Rd (List Int):=fun l=>valuesW idx E (l.length+1) [] l
def valuesN (idx:List UInt8→Int→Option Int) (E:Int):Nat→List Int→Rd (List Int)
 |0,acc=>fun l=> .ok (acc,l)
 |f+1,acc=>fun l=>andThen (value idx E l) fun v=>valuesN idx E f (acc ++ [v])
def phiW (idx:List UInt8→Int→Option Int) (E:Int):Nat→List Int→List Int→Rd (List Int × List Int)
 |0,to,args=>fun l=> .ok ((to,args),l)
 |f+1,to,args=>fun l=>
  if to= []∨paired l=true then andThen (label idx E l) fun b r=>andThen (value idx E r) fun v=>phiW idx E f (to ++ [b]) (args ++ [v])
  else .ok ((to,args),l)
def phi (idx:List UInt8→Int→Option Int) (E:Int):Rd (List Int × List Int):=fun l=>phiW idx E (l.length+1) [] [] l
abbrev Opd:=Int × List Int × List Int × List UInt8
def done {α:Type} (v:α):Rd α:=fun l=> .ok (v,l)
def ret1 (idx:List UInt8→Int→Option Int) (E:Int):Rd Opd:=fun l=>
 if taken l then andThen (value idx E l) fun v=>done (0,[v],[],[])else .ok ((0,[],[],[]),l)
def spot (idx:List UInt8→Int→Option Int) (E:Int):Rd Int:=fun l=>
 if(peek0 l).head? =some 64 then index idx 64 1048576 3 E l else .ok (0,l)
def ident (idx:List UInt8→Int→Option Int) (E:Int):Rd Int:=fun l=>
 if peek1 l= [61] then andThen (value idx E l) fun v r=>andThen (want E [61] r) fun _=>done v else .ok (-1,l)
section
variable (num:List UInt8→Int × Int) (idx:List UInt8→Int→Option Int) (nam:List UInt8→Bool) (shp:List UInt8→Int) (tks:Int→Nat)
def operands (E op:Int):Rd Opd:=fun l=>
 if op=1 then andThen (anyNum num E l) fun x=>done (x,[],[],[])
 else if op=29 then andThen (number num E 0 255 l) fun x=>done (x,[],[],[])
 else if op=10 then andThen (shaped shp E l) fun s=>done (0,[],[],s)
 else if op=20 then andThen (phi idx E l) fun x=>done (0,x.2,x.1,[])
 else if op=21 then andThen (spot idx E l) fun n r=>andThen (name nam E r) fun s r=>andThen (values idx E r) fun a=>done (n,a,[],s)
 else if op=28 then ret1 idx E l
 else if op=11∨op=12∨op=15 then andThen (value idx E l) fun v r=>andThen (number num E 0 15 r) fun x=>done (x,[v],[],[])
 else if op=13∨op=14 then andThen (value idx E l) fun v r=>andThen (number num E 0 15 r) fun x r=>andThen (value idx E r) fun u=>done (x,[v,u],[],[])
 else if op=23 then andThen (number num E 0 1048576 l) fun x=>done (x,[],[],[])
 else if op=24 then andThen (value idx E l) fun v r=>andThen (number num E 0 1048576 r) fun x=>done (x,[v],[],[])
 else if op=26 then andThen (label idx E l) fun b=>done (0,[],[b],[])
 else if op=27 then andThen (value idx E l) fun v r=>andThen (label idx E r) fun b r=>andThen (label idx E r) fun c=>done (0,[v],[b,c],[])
 else andThen (valuesN idx E (tks op) [] l) fun a=>done (0,a,[],[])
variable (fnd:List UInt8→Int × Int) (mks:Int→Int→Int) (prt:Nat→List UInt8→Bool)
def opword (E id:Int):Rd (Int × Int):=
 one (fun s=>if(fnd s).1=0∨decide (mks (fnd s).1 (fnd s).2≠0)≠decide (0≤id)then none else some (fnd s)) (fun s=>if(fnd s).1=0 then 2 else 8) E
def start (E:Int):Rd (Int × Int × Int):=fun l=>andThen (ident idx E l) fun i r=>andThen (opword fnd mks E i r) fun o=>done (i,o.1,o.2)
def instrA (E a:Int):Rd Ins:=fun l=>
 andThen (start idx fnd mks E l) fun x r=>andThen (operands num idx nam shp tks E x.2.1 r) fun y=>done (x.2.1,x.1,y.1,x.2.2,y.2.1,y.2.2.1,y.2.2.2,a)
def instr (E:Int):Rd Ins:=fun l=>instrA num idx nam shp tks fnd mks E (atOf E l) l
def insW (E:Int):Nat→Nat→List Ins→Rd (List Ins × Nat)
 |0,n,acc=>fun l=> .ok ((acc,n),l)
 |f+1,n,acc=>fun l=>
  if peek0 l= [125]∨peek1 l= [58] then .ok ((acc,n),l)
  else if 4096≤n then .error (6,atOf E l)
  else andThen (instr num idx nam shp tks fnd mks E l) fun x=>insW E f (n+1) (acc ++ [x])
def body (E:Int) (n:Nat):Rd (List Ins × Nat):=fun l=>insW num idx nam shp tks fnd mks E (l.length+1) n [] l
def head (E:Int) (k:Nat):Rd Unit:=one (fun s=>if 256≤k∨s= []∨prt k s=false then none else some ()) (fun _=>if 256≤k then 6 else 7) E
def block (E:Int) (k n:Nat):Rd (List Ins × Nat):=fun l=>
 andThen (head prt E k l) fun _ r=>andThen (want E [58] r) fun _=>body num idx nam shp tks fnd mks E n
def blkW (E:Int):Nat→Nat→List (List Ins)→Rd (List (List Ins) × Nat)
 |0,n,acc=>fun l=> .ok ((acc,n),l)
 |f+1,n,acc=>fun l=>
  if peek0 l= [125] then .ok ((acc,n),l)
  else andThen (block num idx nam shp tks fnd mks prt E acc.length n l) fun x=>blkW E f x.2 (acc ++ [x.1])
def blocks (E:Int) (n:Nat):Rd (List (List Ins) × Nat):=fun l=>blkW num idx nam shp tks fnd mks prt E (l.length+1) n [] l
def kind (s:List UInt8):Int:=if s= [110] then 0 else if s= [105] then 1 else if s= [112] then 2 else -1
def param (E:Int) (k:Nat):Rd Int:=one (fun s=>if kind s < 1∨8≤k then none else some (kind s)) (fun s=>if kind s < 1 then 9 else 6) E
def parW (E:Int):Nat→List Int→Rd (List Int)
 |0,acc=>fun l=> .ok (acc,l)
 |f+1,acc=>fun l=>if peek0 l= [41] then .ok (acc,l)else andThen (param E acc.length l) fun t=>parW E f (acc ++ [t])
def params (E:Int):Rd (List Int):=fun l=>parW E (l.length+1) [] l
def answer (E:Int):Rd Int:=one (fun s=>if kind s < 0 then none else some (kind s)) (fun _=>9) E
def function (E:Int) (n:Nat):Rd (Fun × Nat):=fun l=>
 andThen (want E [102,117,110,99] l) fun _ r=>andThen (name nam E r) fun s r=>andThen (want E [40] r) fun _ r=>andThen (params E r) fun p r=>andThen (want E [41] r) fun _ r=>
 andThen (answer E r) fun t r=>andThen (want E [123] r) fun _ r=>andThen (blocks num idx nam shp tks fnd mks prt E n r) fun b r=>andThen (want E [125] r) fun _=>done ((s,p,t,b.1,atOf E l),b.2)
def funW (E:Int):Nat→Nat→List Fun→Rd (List Fun × Nat)
 |0,n,acc=>fun l=> .ok ((acc,n),l)
 |f+1,n,acc=>fun l=>
  if l= [] then .ok ((acc,n),l)
  else if 32≤acc.length then .error (6,atOf E l)
  else andThen (function num idx nam shp tks fnd mks prt E n l) fun x=>funW E f x.2 (acc ++ [x.1])
def program (E:Int):Rd (List Fun × Nat):=fun l=>funW num idx nam shp tks fnd mks prt E (l.length+1) 0 [] l
end
def sh (d:Int) (l:List Tok):List Tok:=l.map fun t=>(t.1,t.2+d)
theorem peek0_sh {d:Int} {l m:List Tok} (h:l≠ []):peek0 (sh d l ++ m)=peek0 l:=by
 cases l with
 |nil=>exact absurd rfl h
 |cons t r=>rfl
theorem peek1_sh {d:Int} {l m:List Tok} (h:l.tail≠ []):peek1 (sh d l ++ m)=peek1 l:=by
 match l,h with
 |a :: b :: r,_=>rfl
 |[_],h=>exact absurd rfl h
 |[],h=>exact absurd rfl h
theorem tail_sh {d:Int} {l m:List Tok} (h:l≠ []):(sh d l ++ m).tail=sh d l.tail ++ m:=by
 cases l with
 |nil=>exact absurd rfl h
 |cons t r=>rfl
theorem ne_of_tail {l:List Tok} (h:l.tail≠ []):l≠ []:=fun e=>by subst e;exact h rfl
theorem ne_of_suffix {r l:List Tok} (h:r <:+l) (hr:r≠ []):l≠ []:=fun e=>by
 subst e;exact hr (List.eq_nil_of_suffix_nil h)
def Sim {α β:Type} (d:Int) (m:List Tok) (g:α→β) (F:Rd α) (F':Rd β):Prop:=
 ∀l v r,F l= .ok (v,r)→r <:+l∧(r≠ []→F' (sh d l ++ m)= .ok (g v,sh d r ++ m))
def Eats {α:Type} (F:Rd α):Prop:=∀l v r,F l= .ok (v,r)→l≠ []∧r <:+l.tail
theorem Sim.done {α β:Type} {d:Int} {m:List Tok} {g:α→β} {v:α} {v':β} (h:g v=v'):Sim d m g (done v) (done v'):=by
 intro l u r h1
 cases h1
 exact⟨List.suffix_refl _,fun _=>by rw [h];rfl⟩
theorem Sim.then {α β γ δ:Type} {d:Int} {m:List Tok} {g:α→β} {k:γ→δ} {F:Rd α} {F':Rd β} {G:α→Rd γ} {G':β→Rd δ} (hF:Sim d m g F F') (hG:∀v,Sim d m k (G v) (G' (g v))):
  Sim d m k (fun l=>andThen (F l) G) (fun l=>andThen (F' l) G'):=by
 intro l v r h
 replace h:andThen (F l) G= .ok (v,r):=h
 cases e:F l with
 |error x=>rw [e] at h;cases h
 |ok p=>
  obtain⟨u,q⟩:=p
  rw [e] at h
  obtain⟨s1,c1⟩:=hF l u q e
  obtain⟨s2,c2⟩:=hG u q v r h
  refine⟨s2.trans s1,fun hr=> ?_⟩
  show andThen (F' (sh d l ++ m)) G'=_
  rw [c1 (ne_of_suffix s2 hr)]
  exact c2 hr
theorem one_ok {α:Type} {f:List UInt8→Option α} {c:List UInt8→Int} {E:Int} (h0:f []=none) {l r:List Tok} {v:α} (h:one f c E l= .ok (v,r)):l≠ []∧r=l.tail∧f (peek0 l)=some v:=by
 unfold one at h
 cases e:f (peek0 l)with
 |none=>rw [e] at h;cases h
 |some u=>
  rw [e] at h
  cases h
  refine⟨fun e2=> ?_,rfl,rfl⟩
  subst e2
  exact absurd (h0.symm.trans e) (by simp)
theorem Sim.one {α:Type} {d:Int} {m:List Tok} {f:List UInt8→Option α} {c c':List UInt8→Int} {E E':Int} (h0:f []=none):Sim d m id (one f c E) (one f c' E'):=by
 intro l v r h
 obtain⟨hl,rfl,hv⟩:=one_ok h0 h
 refine⟨List.tail_suffix l,fun _=> ?_⟩
 unfold G.one
 rw [peek0_sh hl,hv,tail_sh hl];rfl
theorem Eats.one {α:Type} {f:List UInt8→Option α} {c:List UInt8→Int} {E:Int} (h0:f []=none):Eats (one f c E):=by
 intro l v r h
 obtain⟨hl,rfl,_⟩:=one_ok h0 h
 exact⟨hl,List.suffix_refl _⟩
section
variable {d:Int} {m:List Tok} {E E':Int} {num:List UInt8→Int × Int} {idx:List UInt8→Int→Option Int} {nam:List UInt8→Bool} {shp:List UInt8→Int} {tks:Int→Nat} {fnd:List UInt8→Int × Int} {mks:Int→Int→Int} {prt:Nat→List UInt8→Bool}
theorem want_none {w:List UInt8} (hw:w≠ []):(fun s=>if s=w then some ()else none) ([]:List UInt8)=none:=by
 show(if []=w then some ()else none)=none
 rw [if_neg (fun e=>hw e.symm)]
theorem want_sim {w:List UInt8} (hw:w≠ []):Sim d m id (want E w) (want E' w):=Sim.one (want_none hw)
theorem index_sim {sign:UInt8} {most c:Int}:Sim d m id (index idx sign most c E) (index idx sign most c E'):=Sim.one (f:=mark idx sign most) rfl
theorem index_ok {sign:UInt8} {most c n:Int} {l r:List Tok} (h:index idx sign most c E l= .ok (n,r)):l≠ []∧r=l.tail∧mark idx sign most (peek0 l)=some n:=one_ok (f:=mark idx sign most) rfl h
theorem value_ok {n:Int} {l r:List Tok} (h:value idx E l= .ok (n,r)):l≠ []∧r=l.tail∧mark idx 37 1048576 (peek0 l)=some n:=index_ok h
theorem label_ok {n:Int} {l r:List Tok} (h:label idx E l= .ok (n,r)):l≠ []∧r=l.tail∧mark idx 98 255 (peek0 l)=some n:=index_ok h
theorem value_sim:Sim d m id (value idx E) (value idx E'):=index_sim
theorem label_sim:Sim d m id (label idx E) (label idx E'):=index_sim
theorem name_sim (hn:nam []=false):Sim d m id (name nam E) (name nam E'):=Sim.one (by simp [hn])
theorem number_sim {lo hi:Int} (hn:(num []).2≠0):Sim d m id (number num E lo hi) (number num E' lo hi):=Sim.one (by simp [hn])
theorem anyNum_sim (hn:(num []).2≠0):Sim d m id (anyNum num E) (anyNum num E'):=Sim.one (by simp [hn])
theorem shaped_sim (hn:shp []≠0):Sim d m id (shaped shp E) (shaped shp E'):=Sim.one (by simp [hn])
theorem param_sim {k:Nat}:Sim d m id (param E k) (param E' k):=Sim.one (by simp [kind])
theorem param_eats {k:Nat}:Eats (param E k):=Eats.one (by simp [kind])
theorem answer_sim:Sim d m id (answer E) (answer E'):=Sim.one (by simp [kind])
end
end Go.Proofs.YtljkgcfnoegibaaGreatDoor.G
namespace Go.Proofs.YtljkgcfnoegibaaGreatDoor
open Go Go.RowKit
open G (Tok Er Ins Fun peek0 peek1 atOf)
theorem hide {p:Prop} (h:p):Hid p:=h
def bs (l:List UInt8):ByteArray:=⟨l.toArray⟩
theorem bs_data (l:List UInt8):(bs l).data.toList=l:=by simp [bs]
theorem bs_size (l:List UInt8):(bs l).size=l.length:=by simp [bs,ByteArray.size]
theorem bs_of (s:ByteArray):bs s.data.toList=s:=by cases s;simp [bs]
def W80 (w w':World):Prop:=∀(k:Nat) (cs:Array Value) (fz:Nat × Nat),w.heap[k]? =some (.cells cs 1998152 fz)→w'.heap[k]? =some (.cells cs 1998152 fz)
def A0 (a:Nat) (w w':World):Prop:=∀v,w.cell? ⟨a,0,none⟩=some v→w'.cell? ⟨a,0,none⟩=some v
def Kp (B a:Nat) (w w':World):Prop:=(w'.os=w.os∧W80 w w')∧w'.tape=w.tape∧(w'.output=w.output∧A0 a w w')∧w.heap.size≤w'.heap.size∧∀k,k < B→k≠a→w'.heap[k]? =w.heap[k]?
theorem Kp.size {B a:Nat} {u v:World} (h:Kp B a u v):u.heap.size≤v.heap.size:=h.2.2.2.1
theorem own_base {b b' e s n:Nat} {v:Value} {xs:List Value} {w:World} (h:w.ownsRow b e s v n xs) (hb:b'≤b):w.ownsRow b' e s v n xs:=by
 refine⟨h.1,?_⟩
 rcases h.2 with hn | ⟨g,cap,cur,hv2,hb2,rest⟩
 ·exact .inl hn
 ·exact .inr ⟨g,cap,cur,hv2,by omega,rest⟩
theorem own_kind {b e s n:Nat} {v:Value} {xs:List Value} {w:World} (h:w.ownsRow b e s v n xs) {g:Nat} (hg:v.ownBlock=some g):∃c,w.heap[g]? =some (.cells c e (0,0)):=by
 rcases h.2 with ⟨rfl,_⟩ | ⟨g',cap,cur,rfl,_,hh,_⟩
 ·simp [Value.ownBlock] at hg
 ·simp [Value.ownBlock] at hg
  subst hg
  exact⟨cur,hh⟩
theorem own_ne {b e s n g:Nat} {v:Value} {xs:List Value} {w:World} (h:w.ownsRow b e s v n xs) {c:Array Value} {t:TypeId} {fz:Nat × Nat} (hg:w.heap[g]? =some (.cells c t fz)) (ht:t≠e):v.ownBlock≠some g:=by
 intro hv
 obtain⟨c2,h2⟩:=own_kind h hv
 rw [hg] at h2
 simp at h2
 exact ht h2.2.1
theorem own_apart {b e s n b2 e2 s2 n2:Nat} {v v2:Value} {xs xs2:List Value} {w:World} (h:w.ownsRow b e s v n xs) (h2:w.ownsRow b2 e2 s2 v2 n2 xs2) (ht:e≠e2):v.ownBlock=none∨v.ownBlock≠v2.ownBlock:=by
 cases hv:v.ownBlock with
 |none=>exact .inl rfl
 |some g=>
  refine .inr fun e=> ?_
  obtain⟨c,hc⟩:=own_kind h hv
  exact own_ne h2 hc ht e.symm
def cellsK:List Tok→List Value
 |[]=> []
 |t :: r=> .string (bs t.1) :: .int .i64 t.2 :: cellsK r
theorem cellsK_at:∀(L:List Tok) (j:Nat) (t:Tok),L[j]? =some t→(cellsK L)[2 * j]? =some (.string (bs t.1))∧(cellsK L)[2 * j+1]? =some (.int .i64 t.2):=by
 intro L
 induction L with
 |nil=>intro j t h;simp at h
 |cons x r ih=>
  intro j t h
  cases j with
  |zero=>simp at h;subst h;exact⟨rfl,rfl⟩
  |succ j=>
   simp at h
   have:=ih j t h
   rw [show 2 * (j+1)=2 * j+1+1 by omega]
   simpa [cellsK] using this
def Rdr (B a:Nat) (L:List Tok) (E:Int) (n:Nat) (l:List Tok) (w:World):Prop:=
 ∃v,w.heap[a]? =some (.cells #[v,.int .i64 ((L.length - l.length:Nat):Int),.int .i64 E,.int .i64 (n:Int)] 1998075 (0,0))∧w.ownsRow 0 95 2 v L.length (cellsK L)∧
  a < B∧(∀g,v.ownBlock=some g→g < B)∧l <:+L∧(L.length≤131072∧∀t∈L,t.1.length≤65536)∧n≤4096∧B≤w.heap.size
theorem Rdr.size {B a:Nat} {L:List Tok} {E:Int} {n:Nat} {l:List Tok} {w:World} (h:Rdr B a L E n l w):B≤w.heap.size:=by
 obtain⟨v,h1,h2,h3,h4,h5,h6,h7,h8⟩:=h;exact h8
theorem Rdr.cells {B a:Nat} {L:List Tok} {E:Int} {n:Nat} {l:List Tok} {w:World} (h:Rdr B a L E n l w):
  a < w.heap.size∧∃v,w.cell? ⟨a,0,none⟩=some v∧w.cell? ⟨a,1,none⟩=some (.int .i64 ((L.length - l.length:Nat):Int))∧w.cell? ⟨a,2,none⟩=some (.int .i64 E)∧w.cell? ⟨a,3,none⟩=some (.int .i64 (n:Int))∧
   w.frozen? ⟨a,0,none⟩=false∧w.frozen? ⟨a,1,none⟩=false∧w.frozen? ⟨a,2,none⟩=false∧w.frozen? ⟨a,3,none⟩=false∧
   ((v= .slice none 0 0∧L= [])∨∃g cap,v= .slice (some ⟨g,0,none⟩) L.length cap∧L.length≤cap∧cap≤maxLen∧(∀j t,L[j]? =some t→w.cell? ⟨g,j * 2,none⟩=some (.string (bs t.1))∧w.cell? ⟨g,j * 2+1,none⟩=some (.int .i64 t.2))∧∀j,w.frozen? ⟨g,j,none⟩=false):=by
 obtain⟨v,h1,h2,h3,h4,h5,h6,h7,h8⟩:=h
 refine⟨by omega,v,by simp [World.cell?,h1],by simp [World.cell?,h1],by simp [World.cell?,h1],by simp [World.cell?,h1],by simp [World.frozen?,h1],by simp [World.frozen?,h1],by simp [World.frozen?,h1],by simp [World.frozen?,h1],?_⟩
 rcases h2.2 with ⟨hv,hn⟩ | ⟨g,cap,cur,hv2,hbb,hg,hc1,hc2,hc3,hc4⟩
 ·exact .inl ⟨hv,List.length_eq_zero_iff.1 hn⟩
 ·refine .inr ⟨g,cap,hv2,hc1,hc2,?_,?_⟩
  ·intro j t hj
   have hc:=h2.cells (g:=g) (by rw [hv2];rfl)
   obtain⟨k1,k2⟩:=cellsK_at L j t hj
   have e1:=hc _ _ k1
   have e2:=hc _ _ k2
   rw [Addr.add_lit,Nat.zero_add,Nat.mul_comm] at e1 e2
   exact⟨e1,e2⟩
  ·intro j;simp [World.frozen?,hg]
def Pair (w:World) (g:Nat) (a b:Value):Prop:=
 w.cell? ⟨g,0,none⟩=some a∧w.cell? ⟨g,1,none⟩=some b∧w.frozen? ⟨g,0,none⟩=false∧w.frozen? ⟨g,1,none⟩=false∧g < w.heap.size
theorem below_box (w:World) (o:Obj):Below w.heap.size w (w.alloc o):=(Below.refl _ _).alloc (Nat.le_refl _) _
theorem below_step {a b c:World} (h:Below a.heap.size a b) (k:Below b.heap.size b c):Below a.heap.size a c:=h.trans (k.mono h.size)
theorem Rdr.word {L l:List Tok} (h:l <:+L) (i:Nat):L[L.length - l.length+i]? =l[i]? :=by
 obtain⟨p,rfl⟩:=h
 rw [List.getElem?_append_right (by simp)]
 congr 1
 simp
end Go.Proofs.YtljkgcfnoegibaaGreatDoor
namespace Go.Proofs.YtljkgcfnoegibaaGreatDoor.L1
open Go.RowKit
def isDig (c:UInt8):Bool:=decide (48≤c.toNat) && decide (c.toNat≤57)
def worth (l:List UInt8):Nat:=l.foldl (fun a c=>a * 10+(c.toNat - 48)) 0
def isNum (l:List UInt8):Bool:= !l.isEmpty && l.all isDig && (l.head? != some 48 || l.length == 1)
theorem isDig_iff (c:UInt8):isDig c=true↔48≤c.toNat∧c.toNat≤57:=by simp [isDig]
theorem foldl_worth (l:List UInt8) (a:Nat):l.foldl (fun a c=>a * 10+(c.toNat - 48)) a=a * 10 ^ l.length+worth l:=by
 unfold worth
 induction l generalizing a with
 |nil=>simp
 |cons c l ih=>
  simp only [List.foldl_cons,List.length_cons]
  rw [ih (a * 10+(c.toNat - 48)),ih (0 * 10+(c.toNat - 48))]
  rw [Nat.pow_succ,Nat.add_mul,Nat.zero_mul,Nat.zero_add,Nat.mul_assoc,Nat.mul_comm 10 (10 ^ l.length)]
  omega
theorem worth_append (a b:List UInt8):worth (a ++ b)=worth a * 10 ^ b.length+worth b:=by
 show(a ++ b).foldl _ 0=_
 rw [List.foldl_append,foldl_worth b]
 rfl
theorem worth_one (c:UInt8):worth [c]=c.toNat - 48:=by simp [worth]
theorem worth_snoc (l:List UInt8) (c:UInt8):worth (l ++ [c])=worth l * 10+(c.toNat - 48):=by
 rw [worth_append,worth_one];simp
def lowOf (l:List UInt8):Bool:=l.head? == some 45
def restOf (l:List UInt8):List UInt8:=if lowOf l then l.tail else l
def readNum (l:List UInt8):Int × Int:=
 if isNum (restOf l)=true∧¬(lowOf l=true∧restOf l= [48])then
  if lowOf l=true then(if worth (restOf l)≤9223372036854775808 then(- (worth (restOf l):Int),0)else(0,18))
  else(if worth (restOf l)≤9223372036854775807 then((worth (restOf l):Int),0)else(0,18))
 else(0,3)
def indexNum (l:List UInt8) (most:Int):Int × Int:=
 if(readNum l).2≠0 then(0,(readNum l).2)else if(readNum l).1 < 0∨most < (readNum l).1 then(0,18)else((readNum l).1,0)
theorem readNum_range (l:List UInt8): -9223372036854775808≤(readNum l).1∧(readNum l).1≤9223372036854775807:=by
 unfold readNum
 split
 ·split
  ·split
   ·simp only;omega
   ·simp
  ·split
   ·simp only;omega
   ·simp
 ·simp
theorem hide {p:Prop} (h:p):Hid p:=h
theorem unhide {p:Prop} (h:Hid p):p:=h
theorem toNat_eq_iff (c:UInt8) (k:Nat) (hk:k < 256):c.toNat=k↔c=UInt8.ofNat k:=by
 constructor
 ·intro h;apply UInt8.toNat_inj.1;rw [h];simp [UInt8.toNat_ofNat'];omega
 ·rintro rfl;simp [UInt8.toNat_ofNat'];omega
theorem head_at (s:ByteArray) (h:0 < s.size):s.data.toList.head? =some s[0]:=by
 rw [List.head?_eq_getElem?,List.getElem?_eq_getElem (by simpa using h)];rfl
theorem size_len (s:ByteArray):s.data.toList.length=s.size:=by simp
theorem empty_true (s:ByteArray) (h:s.size=0):s.toList.isEmpty=true∧s.data.toList= []:=by
 have:s.data.toList= []:=List.length_eq_zero_iff.1 (by rw [size_len];exact h)
 exact⟨by rw [ByteArray.toList_eq,this];rfl,this⟩
theorem empty_false (s:ByteArray) (h:0 < s.size):s.toList.isEmpty=false∧s.data.toList.isEmpty=false:=by
 have:s.data.toList.isEmpty=false:=by
  cases e:s.data.toList with
  |nil=>have:=size_len s;rw [e] at this;simp at this;omega
  |cons=>rfl
 exact⟨by rw [ByteArray.toList_eq,this],this⟩
def distR (m:Int) (l:List UInt8):Int × Int:=if l.all isDig=true then(if(worth l:Int)≤m then((worth l:Int),0)else(0,18))else(0,3)
theorem take_one_more (s:ByteArray) (k:Nat) (h:k < s.size):s.data.toList.take (k+1)=s.data.toList.take k ++ [s[k]]:=by
 rw [List.take_succ_eq_append_getElem (by simpa using h)];rfl
theorem take_all (s:ByteArray) (k:Nat) (h:¬k < s.size):s.data.toList.take k=s.data.toList:=List.take_of_length_le (by rw [size_len];omega)
theorem ret_two {k:IntKind} {j:IntKind} {a b c d:Int} (h:a=b) (h':c=d):Ending.returned (.tuple #[.int k a,.int j c])= .returned (.tuple #[.int k b,.int j d]):=by rw [h,h']
theorem distR_bad {m:Int} (s:ByteArray) (k:Nat) (hk:k < s.size) (hd:¬(48≤(s[k].toNat:Int)∧(s[k].toNat:Int)≤57)):distR m s.data.toList=(0,3):=by
 unfold distR
 rw [if_neg]
 intro h
 have:=(isDig_iff _).1 (List.all_eq_true.1 h s[k] (by
  have:s.data.toList[k]? =some s[k]:=by rw [List.getElem?_eq_getElem (by simpa using hk)];rfl
  exact List.mem_of_getElem? this))
 omega
theorem isNum_iff (l:List UInt8):isNum l=true↔l.isEmpty=false∧l.all isDig=true∧(l.head? ≠some 48∨l.length=1):=by
 simp only [isNum,Bool.and_eq_true,Bool.or_eq_true,bne_iff_ne,beq_iff_eq,Bool.not_eq_true']
 exact⟨fun h=>⟨h.1.1,h.1.2,h.2⟩,fun h=>⟨⟨h.1,h.2.1⟩,h.2.2⟩⟩
theorem indexNum_bad (l:List UInt8) (m:Int) (h:(readNum l).2≠0):indexNum l m=(0,(readNum l).2):=by unfold indexNum;rw [if_pos h]
theorem indexNum_out (l:List UInt8) (m:Int) (h:(readNum l).2=0) (h1:(readNum l).1 < 0∨m < (readNum l).1):indexNum l m=(0,18):=by unfold indexNum;rw [if_neg (by simpa using h),if_pos h1]
theorem indexNum_in (l:List UInt8) (m:Int) (h:(readNum l).2=0) (h1:¬((readNum l).1 < 0∨m < (readNum l).1)):indexNum l m=((readNum l).1,0):=by unfold indexNum;rw [if_neg (by simpa using h),if_neg h1]
end Go.Proofs.YtljkgcfnoegibaaGreatDoor.L1
