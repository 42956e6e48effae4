/- Texts of one chain, joined. -/
import Derived.WalkKit
import Derived.Laws.AppendOwn
import Derived.OwnWalk
import Derived.Lib.OthersKept
import Derived.Below
import Derived.Test.YtljkgcfnoegibaaGreatDoorProg
import Derived.WalkSpells
import Derived.WalkSmall
import Derived.WalkLawsBesides
import Derived.KernelRfl
import Derived.Deep.QuietTactic
import Derived.BigQuiet
import Derived.RegionTactic
import Derived.BigRegion
import Derived.Deep.Cut
namespace Go.Proofs.YtljkgcfnoegibaaGreatDoor.G
abbrev Tok:=List UInt8 × Int
abbrev Er:=Int × Int
abbrev Ins:=Int × Int × Int × Int × List Int × List Int × List UInt8 × Int
abbrev Fun:=List UInt8 × List Int × Int × List (List Ins) × Int
abbrev Rd (α:Type):=List Tok→Except Er (α × List Tok)
def andThen {α β:Type} (x:Except Er (α × List Tok)) (f:α→Rd β):Except Er (β × List Tok):=
 match x with
 |.ok (v,r)=>f v r
 |.error e=> .error e
def peek0:List Tok→List UInt8
 |[]=> []
 |t :: _=>t.1
def peek1:List Tok→List UInt8
 |_ :: t :: _=>t.1
 |_=> []
def fG (E:Int):List Tok→Int
 |[]=>E
 |t :: _=>t.2
def one {α:Type} (f:List UInt8→Option α) (c:List UInt8→Int) (E:Int):Rd α:=fun l=>
 match f (peek0 l)with
 |some v=> .ok (v,l.tail)
 |none=> .error (c (peek0 l),fG E l)
def want (E:Int) (w:List UInt8):Rd Unit:=one (fun s=>if s=w then some ()else none) (fun _=>2) E
def name (nam:List UInt8→Bool) (E:Int):Rd (List UInt8):=one (fun s=>if nam s then some s else none) (fun _=>4) E
def mark (idx:List UInt8→Int→Option Int) (sign:UInt8) (most:Int) (s:List UInt8):Option Int:=
 match s with
 |x :: y :: r=>if x=sign then idx (y :: r) most else none
 |_=>none
def index (idx:List UInt8→Int→Option Int) (sign:UInt8) (most c E:Int):Rd Int:=one (mark idx sign most) (fun _=>c) E
def value (idx:List UInt8→Int→Option Int) (E:Int):Rd Int:=index idx 37 1048576 8 E
def label (idx:List UInt8→Int→Option Int) (E:Int):Rd Int:=index idx 98 255 7 E
def number (num:List UInt8→Int × Int) (E lo hi:Int):Rd Int:=
 one (fun s=>if(num s).2≠0∨(num s).1 < lo∨hi < (num s).1 then none else some (num s).1) (fun s=>if(num s).2≠0 then(num s).2 else 18) E
def mz (num:List UInt8→Int × Int) (E:Int):Rd Int:=one (fun s=>if(num s).2≠0 then none else some (num s).1) (fun s=>(num s).2) E
def shaped (shp:List UInt8→Int) (E:Int):Rd (List UInt8):=one (fun s=>if shp s≠0 then none else some s) shp E
def taken (l:List Tok):Bool:=(peek0 l).head? == some 37 && peek1 l != [61]
def df (l:List Tok):Bool:=(peek0 l).head? == some 98 && peek0 l != [98,114] && peek1 l != [58]
def valuesW (idx:List UInt8→Int→Option Int) (E:Int):Nat→List Int→Rd (List Int)
 |0,acc=>fun l=> .ok (acc,l)
 |f+1,acc=>fun l=>if taken l then andThen (value idx E l) fun v=>valuesW idx E f (acc ++ [v])else .ok (acc,l)
def values (idx:List UInt8→Int→Option Int) (E:Int):Rd (List Int):=fun l=>valuesW idx E (l.length+1) [] l
def bp (idx:List UInt8→Int→Option Int) (E:Int):Nat→List Int→Rd (List Int)
 |0,acc=>fun l=> .ok (acc,l)
 |f+1,acc=>fun l=>andThen (value idx E l) fun v=>bp idx E f (acc ++ [v])
def phiW (idx:List UInt8→Int→Option Int) (E:Int):Nat→List Int→List Int→Rd (List Int × List Int)
 |0,to,args=>fun l=> .ok ((to,args),l)
 |f+1,to,args=>fun l=>
  if to= []∨df l=true then andThen (label idx E l) fun b r=>andThen (value idx E r) fun v=>phiW idx E f (to ++ [b]) (args ++ [v])
  else .ok ((to,args),l)
def phi (idx:List UInt8→Int→Option Int) (E:Int):Rd (List Int × List Int):=fun l=>phiW idx E (l.length+1) [] [] l
abbrev Opd:=Int × List Int × List Int × List UInt8
def done {α:Type} (v:α):Rd α:=fun l=> .ok (v,l)
def uz (idx:List UInt8→Int→Option Int) (E:Int):Rd Opd:=fun l=>
 if taken l then andThen (value idx E l) fun v=>done (0,[v],[],[])else .ok ((0,[],[],[]),l)
def spot (idx:List UInt8→Int→Option Int) (E:Int):Rd Int:=fun l=>
 if(peek0 l).head? =some 64 then index idx 64 1048576 3 E l else .ok (0,l)
def ident (idx:List UInt8→Int→Option Int) (E:Int):Rd Int:=fun l=>
 if peek1 l= [61] then andThen (value idx E l) fun v r=>andThen (want E [61] r) fun _=>done v else .ok (-1,l)
section
variable (num:List UInt8→Int × Int) (idx:List UInt8→Int→Option Int) (nam:List UInt8→Bool) (shp:List UInt8→Int) (tks:Int→Nat)
def operands (E op:Int):Rd Opd:=fun l=>
 if op=1 then andThen (mz num E l) fun x=>done (x,[],[],[])
 else if op=29 then andThen (number num E 0 255 l) fun x=>done (x,[],[],[])
 else if op=10 then andThen (shaped shp E l) fun s=>done (0,[],[],s)
 else if op=20 then andThen (phi idx E l) fun x=>done (0,x.2,x.1,[])
 else if op=21 then andThen (spot idx E l) fun n r=>andThen (name nam E r) fun s r=>andThen (values idx E r) fun a=>done (n,a,[],s)
 else if op=28 then uz idx E l
 else if op=11∨op=12∨op=15 then andThen (value idx E l) fun v r=>andThen (number num E 0 15 r) fun x=>done (x,[v],[],[])
 else if op=13∨op=14 then andThen (value idx E l) fun v r=>andThen (number num E 0 15 r) fun x r=>andThen (value idx E r) fun u=>done (x,[v,u],[],[])
 else if op=23 then andThen (number num E 0 1048576 l) fun x=>done (x,[],[],[])
 else if op=24 then andThen (value idx E l) fun v r=>andThen (number num E 0 1048576 r) fun x=>done (x,[v],[],[])
 else if op=26 then andThen (label idx E l) fun b=>done (0,[],[b],[])
 else if op=27 then andThen (value idx E l) fun v r=>andThen (label idx E r) fun b r=>andThen (label idx E r) fun c=>done (0,[v],[b,c],[])
 else andThen (bp idx E (tks op) [] l) fun a=>done (0,a,[],[])
variable (fnd:List UInt8→Int × Int) (mks:Int→Int→Int) (prt:Nat→List UInt8→Bool)
def o6 (E id:Int):Rd (Int × Int):=
 one (fun s=>if(fnd s).1=0∨decide (mks (fnd s).1 (fnd s).2≠0)≠decide (0≤id)then none else some (fnd s)) (fun s=>if(fnd s).1=0 then 2 else 8) E
def start (E:Int):Rd (Int × Int × Int):=fun l=>andThen (ident idx E l) fun i r=>andThen (o6 fnd mks E i r) fun o=>done (i,o.1,o.2)
def Ec (E a:Int):Rd Ins:=fun l=>
 andThen (start idx fnd mks E l) fun x r=>andThen (operands num idx nam shp tks E x.2.1 r) fun y=>done (x.2.1,x.1,y.1,x.2.2,y.2.1,y.2.2.1,y.2.2.2,a)
def vh (E:Int):Rd Ins:=fun l=>Ec num idx nam shp tks fnd mks E (fG E l) l
def insW (E:Int):Nat→Nat→List Ins→Rd (List Ins × Nat)
 |0,n,acc=>fun l=> .ok ((acc,n),l)
 |f+1,n,acc=>fun l=>
  if peek0 l= [125]∨peek1 l= [58] then .ok ((acc,n),l)
  else if 4096≤n then .error (6,fG E l)
  else andThen (vh num idx nam shp tks fnd mks E l) fun x=>insW E f (n+1) (acc ++ [x])
def body (E:Int) (n:Nat):Rd (List Ins × Nat):=fun l=>insW num idx nam shp tks fnd mks E (l.length+1) n [] l
def head (E:Int) (k:Nat):Rd Unit:=one (fun s=>if 256≤k∨s= []∨prt k s=false then none else some ()) (fun _=>if 256≤k then 6 else 7) E
def block (E:Int) (k n:Nat):Rd (List Ins × Nat):=fun l=>
 andThen (head prt E k l) fun _ r=>andThen (want E [58] r) fun _=>body num idx nam shp tks fnd mks E n
def blkW (E:Int):Nat→Nat→List (List Ins)→Rd (List (List Ins) × Nat)
 |0,n,acc=>fun l=> .ok ((acc,n),l)
 |f+1,n,acc=>fun l=>
  if peek0 l= [125] then .ok ((acc,n),l)
  else andThen (block num idx nam shp tks fnd mks prt E acc.length n l) fun x=>blkW E f x.2 (acc ++ [x.1])
def blocks (E:Int) (n:Nat):Rd (List (List Ins) × Nat):=fun l=>blkW num idx nam shp tks fnd mks prt E (l.length+1) n [] l
def kind (s:List UInt8):Int:=if s= [110] then 0 else if s= [105] then 1 else if s= [112] then 2 else -1
def param (E:Int) (k:Nat):Rd Int:=one (fun s=>if kind s < 1∨8≤k then none else some (kind s)) (fun s=>if kind s < 1 then 9 else 6) E
def rH (E:Int):Nat→List Int→Rd (List Int)
 |0,acc=>fun l=> .ok (acc,l)
 |f+1,acc=>fun l=>if peek0 l= [41] then .ok (acc,l)else andThen (param E acc.length l) fun t=>rH E f (acc ++ [t])
def params (E:Int):Rd (List Int):=fun l=>rH E (l.length+1) [] l
def answer (E:Int):Rd Int:=one (fun s=>if kind s < 0 then none else some (kind s)) (fun _=>9) E
def function (E:Int) (n:Nat):Rd (Fun × Nat):=fun l=>
 andThen (want E [102,117,110,99] l) fun _ r=>andThen (name nam E r) fun s r=>andThen (want E [40] r) fun _ r=>andThen (params E r) fun p r=>andThen (want E [41] r) fun _ r=>
 andThen (answer E r) fun t r=>andThen (want E [123] r) fun _ r=>andThen (blocks num idx nam shp tks fnd mks prt E n r) fun b r=>andThen (want E [125] r) fun _=>done ((s,p,t,b.1,fG E l),b.2)
def funW (E:Int):Nat→Nat→List Fun→Rd (List Fun × Nat)
 |0,n,acc=>fun l=> .ok ((acc,n),l)
 |f+1,n,acc=>fun l=>
  if l= [] then .ok ((acc,n),l)
  else if 32≤acc.length then .error (6,fG E l)
  else andThen (function num idx nam shp tks fnd mks prt E n l) fun x=>funW E f x.2 (acc ++ [x.1])
def program (E:Int):Rd (List Fun × Nat):=fun l=>funW num idx nam shp tks fnd mks prt E (l.length+1) 0 [] l
end
def sh (d:Int) (l:List Tok):List Tok:=l.map fun t=>(t.1,t.2+d)
theorem im {d:Int} {l m:List Tok} (h:l≠ []):peek0 (sh d l ++ m)=peek0 l:=by
 cases l with
 |nil=>exact absurd rfl h
 |cons t r=>rfl
theorem vX {d:Int} {l m:List Tok} (h:l.tail≠ []):peek1 (sh d l ++ m)=peek1 l:=by
 match l,h with
 |a :: b :: r,_=>rfl
 |[_],h=>exact absurd rfl h
 |[],h=>exact absurd rfl h
theorem GV {d:Int} {l m:List Tok} (h:l≠ []):(sh d l ++ m).tail=sh d l.tail ++ m:=by
 cases l with
 |nil=>exact absurd rfl h
 |cons t r=>rfl
theorem pq {l:List Tok} (h:l.tail≠ []):l≠ []:=fun e=>by subst e;exact h rfl
theorem gQ {r l:List Tok} (h:r <:+l) (hr:r≠ []):l≠ []:=fun e=>by
 subst e;exact hr (List.eq_nil_of_suffix_nil h)
def Sim {α β:Type} (d:Int) (m:List Tok) (g:α→β) (F:Rd α) (F':Rd β):Prop:=
 ∀l v r,F l= .ok (v,r)→r <:+l∧(r≠ []→F' (sh d l ++ m)= .ok (g v,sh d r ++ m))
def Cy {α:Type} (F:Rd α):Prop:=∀l v r,F l= .ok (v,r)→l≠ []∧r <:+l.tail
theorem Sim.done {α β:Type} {d:Int} {m:List Tok} {g:α→β} {v:α} {v':β} (h:g v=v'):Sim d m g (done v) (done v'):=by
 intro l u r h1
 cases h1;exact⟨List.suffix_refl _,fun _=>by rw [h];rfl⟩
theorem Sim.then {α β γ δ:Type} {d:Int} {m:List Tok} {g:α→β} {k:γ→δ} {F:Rd α} {F':Rd β} {G:α→Rd γ} {G':β→Rd δ} (hF:Sim d m g F F') (hG:∀v,Sim d m k (G v) (G' (g v))):
  Sim d m k (fun l=>andThen (F l) G) (fun l=>andThen (F' l) G'):=by
 intro l v r h;replace h:andThen (F l) G= .ok (v,r):=h
 cases e:F l with
 |error x=>rw [e] at h;cases h
 |ok p=>
  obtain⟨u,q⟩:=p;rw [e] at h;obtain⟨s1,c1⟩:=hF l u q e;obtain⟨s2,c2⟩:=hG u q v r h;refine⟨s2.trans s1,fun hr=> ?_⟩;show andThen (F' (sh d l ++ m)) G'=_;rw [c1 (gQ s2 hr)];exact c2 hr
theorem fw {α:Type} {f:List UInt8→Option α} {c:List UInt8→Int} {E:Int} (h0:f []=none) {l r:List Tok} {v:α} (h:one f c E l= .ok (v,r)):l≠ []∧r=l.tail∧f (peek0 l)=some v:=by
 unfold one at h
 cases e:f (peek0 l)with
 |none=>rw [e] at h;cases h
 |some u=>
  rw [e] at h
  cases h;refine⟨fun e2=> ?_,rfl,rfl⟩;subst e2;exact absurd (h0.symm.trans e) (by simp)
theorem Sim.one {α:Type} {d:Int} {m:List Tok} {f:List UInt8→Option α} {c c':List UInt8→Int} {E E':Int} (h0:f []=none):Sim d m id (one f c E) (one f c' E'):=by
 intro l v r h;obtain⟨hl,rfl,hv⟩:=fw h0 h;refine⟨List.tail_suffix l,fun _=> ?_⟩;unfold G.one;rw [im hl,hv,GV hl];rfl
theorem Cy.one {α:Type} {f:List UInt8→Option α} {c:List UInt8→Int} {E:Int} (h0:f []=none):Cy (one f c E):=by
 intro l v r h;obtain⟨hl,rfl,_⟩:=fw h0 h;exact⟨hl,List.suffix_refl _⟩
section
variable {d:Int} {m:List Tok} {E E':Int} {num:List UInt8→Int × Int} {idx:List UInt8→Int→Option Int} {nam:List UInt8→Bool} {shp:List UInt8→Int} {tks:Int→Nat} {fnd:List UInt8→Int × Int} {mks:Int→Int→Int} {prt:Nat→List UInt8→Bool}
theorem lq {w:List UInt8} (hw:w≠ []):(fun s=>if s=w then some ()else none) ([]:List UInt8)=none:=by
 show(if []=w then some ()else none)=none;rw [if_neg (fun e=>hw e.symm)]
theorem np {w:List UInt8} (hw:w≠ []):Sim d m id (want E w) (want E' w):=Sim.one (lq hw)
theorem nG {sign:UInt8} {most c:Int}:Sim d m id (index idx sign most c E) (index idx sign most c E'):=Sim.one (f:=mark idx sign most) rfl
theorem nu {sign:UInt8} {most c n:Int} {l r:List Tok} (h:index idx sign most c E l= .ok (n,r)):l≠ []∧r=l.tail∧mark idx sign most (peek0 l)=some n:=fw (f:=mark idx sign most) rfl h
theorem cY {n:Int} {l r:List Tok} (h:value idx E l= .ok (n,r)):l≠ []∧r=l.tail∧mark idx 37 1048576 (peek0 l)=some n:=nu h
theorem jg {n:Int} {l r:List Tok} (h:label idx E l= .ok (n,r)):l≠ []∧r=l.tail∧mark idx 98 255 (peek0 l)=some n:=nu h
theorem eP:Sim d m id (value idx E) (value idx E'):=nG
theorem lM:Sim d m id (label idx E) (label idx E'):=nG
theorem uS (hn:nam []=false):Sim d m id (name nam E) (name nam E'):=Sim.one (by simp [hn])
theorem iu {lo hi:Int} (hn:(num []).2≠0):Sim d m id (number num E lo hi) (number num E' lo hi):=Sim.one (by simp [hn])
theorem Ac (hn:(num []).2≠0):Sim d m id (mz num E) (mz num E'):=Sim.one (by simp [hn])
theorem zj (hn:shp []≠0):Sim d m id (shaped shp E) (shaped shp E'):=Sim.one (by simp [hn])
theorem Dn {k:Nat}:Sim d m id (param E k) (param E' k):=Sim.one (by simp [kind])
theorem zb {k:Nat}:Cy (param E k):=Cy.one (by simp [kind])
theorem yB:Sim d m id (answer E) (answer E'):=Sim.one (by simp [kind])
end
end Go.Proofs.YtljkgcfnoegibaaGreatDoor.G
namespace Go.Proofs.YtljkgcfnoegibaaGreatDoor
open Go Go.RowKit
open G (Tok Er Ins Fun peek0 peek1 fG)
theorem ae {p:Prop} (h:p):Hid p:=h
def bs (l:List UInt8):ByteArray:=⟨l.toArray⟩
theorem dz (l:List UInt8):(bs l).data.toList=l:=by simp [bs]
theorem aY (l:List UInt8):(bs l).size=l.length:=by simp [bs,ByteArray.size]
theorem D7 (s:ByteArray):bs s.data.toList=s:=by cases s;simp [bs]
def A0 (a:Nat) (w w':World):Prop:=∀v,w.cell? ⟨a,0,none⟩=some v→w'.cell? ⟨a,0,none⟩=some v
theorem aT {b b' e s n:Nat} {v:Value} {xs:List Value} {w:World} (h:w.ownsRow b e s v n xs) (hb:b'≤b):w.ownsRow b' e s v n xs:=by
 refine⟨h.1,?_⟩;rcases h.2 with hn | ⟨g,cap,cur,hv2,hb2,rest⟩
 ·exact .inl hn
 ·exact .inr ⟨g,cap,cur,hv2,by omega,rest⟩
theorem uG {b e s n:Nat} {v:Value} {xs:List Value} {w:World} (h:w.ownsRow b e s v n xs) {g:Nat} (hg:v.ownBlock=some g):∃c,w.heap[g]? =some (.cells c e (0,0)):=by
 rcases h.2 with ⟨rfl,_⟩ | ⟨g',cap,cur,rfl,_,hh,_⟩
 ·simp [Value.ownBlock] at hg
 ·simp [Value.ownBlock] at hg;subst hg;exact⟨cur,hh⟩
theorem aU {b e s n g:Nat} {v:Value} {xs:List Value} {w:World} (h:w.ownsRow b e s v n xs) {c:Array Value} {t:TypeId} {fz:Nat × Nat} (hg:w.heap[g]? =some (.cells c t fz)) (ht:t≠e):v.ownBlock≠some g:=by
 intro hv;obtain⟨c2,h2⟩:=uG h hv;rw [hg] at h2;simp at h2;exact ht h2.2.1
theorem Bj {b e s n b2 e2 s2 n2:Nat} {v v2:Value} {xs xs2:List Value} {w:World} (h:w.ownsRow b e s v n xs) (h2:w.ownsRow b2 e2 s2 v2 n2 xs2) (ht:e≠e2):v.ownBlock=none∨v.ownBlock≠v2.ownBlock:=by
 cases hv:v.ownBlock with
 |none=>exact .inl rfl
 |some g=>
  refine .inr fun e=> ?_;obtain⟨c,hc⟩:=uG h hv;exact aU h2 hc ht e.symm
def cellsK:List Tok→List Value
 |[]=> []
 |t :: r=> .string (bs t.1) :: .int .i64 t.2 :: cellsK r
theorem ss:∀(L:List Tok) (j:Nat) (t:Tok),L[j]? =some t→(cellsK L)[2 * j]? =some (.string (bs t.1))∧(cellsK L)[2 * j+1]? =some (.int .i64 t.2):=by
 intro L;induction L with
 |nil=>intro j t h;simp at h
 |cons x r ih=>
  intro j t h
  cases j with
  |zero=>simp at h;subst h;exact⟨rfl,rfl⟩
  |succ j=>
   simp at h;have:=ih j t h;rw [show 2 * (j+1)=2 * j+1+1 by omega];simpa [cellsK] using this
def Rdr (B a:Nat) (L:List Tok) (E:Int) (n:Nat) (l:List Tok) (w:World):Prop:=
 ∃v,w.heap[a]? =some (.cells #[v,.int .i64 ((L.length - l.length:Nat):Int),.int .i64 E,.int .i64 (n:Int)] 1998075 (0,0))∧w.ownsRow 0 95 2 v L.length (cellsK L)∧
  a < B∧(∀g,v.ownBlock=some g→g < B)∧l <:+L∧(L.length≤131072∧∀t∈L,t.1.length≤65536)∧n≤4096∧B≤w.heap.size
def je (w:World) (g:Nat) (a b:Value):Prop:=
 w.cell? ⟨g,0,none⟩=some a∧w.cell? ⟨g,1,none⟩=some b∧w.frozen? ⟨g,0,none⟩=false∧w.frozen? ⟨g,1,none⟩=false∧g < w.heap.size
theorem ah (w:World) (o:Obj):Below w.heap.size w (w.alloc o):=(Below.refl _ _).alloc (Nat.le_refl _) _
theorem af {a b c:World} (h:Below a.heap.size a b) (k:Below b.heap.size b c):Below a.heap.size a c:=h.trans (k.mono h.size)
theorem Rdr.word {L l:List Tok} (h:l <:+L) (i:Nat):L[L.length - l.length+i]? =l[i]? :=by
 obtain⟨p,rfl⟩:=h;rw [List.getElem?_append_right (by simp)];congr 1
 simp
def iz (c:UInt8) (l:List UInt8):Bool:=l.head? == some c
theorem aw {a b:Bool} (h:a=b):Ending.returned (.bool a)= .returned (.bool b):=by rw [h]
theorem Es (s:ByteArray) (a b:Nat):(s.extract a b).data.toList=(s.data.toList.drop a).take (b - a):=by
 simp [ByteArray.data_extract,Array.toList_extract]
def Jd (c p:Int):Ending:= .panicked [{v:= .iface 29 (.agg #[.int .i64 c,.int .i64 p]),recovered:=false}]
end Go.Proofs.YtljkgcfnoegibaaGreatDoor
namespace Go.Proofs.YtljkgcfnoegibaaGreatDoor.G
theorem then_ok {α β:Type} {x:Except Er (α × List Tok)} {f:α→Rd β} {y:β × List Tok} (h:andThen x f= .ok y):∃v q,x= .ok (v,q)∧f v q= .ok y:=by
 cases x with
 |error e=>cases h
 |ok p=>exact⟨p.1,p.2,rfl,h⟩
theorem uK {l:List Tok} {f:Nat} (h:l.length < f+1) (hl:l≠ []):l.tail.length < f:=by
 cases l with
 |nil=>exact absurd rfl hl
 |cons t r=>simp at *;omega
section
variable {d:Int} {m:List Tok} {E E':Int} {num:List UInt8→Int × Int} {idx:List UInt8→Int→Option Int} {nam:List UInt8→Bool} {shp:List UInt8→Int} {tks:Int→Nat} {fnd:List UInt8→Int × Int} {mks:Int→Int→Int} {prt:Nat→List UInt8→Bool}
theorem qA {l:List Tok} (h:l.tail≠ []):taken (sh d l ++ m)=taken l:=by
 unfold taken;rw [im (pq h),vX h]
theorem sx {l:List Tok} (hl:l≠ []) (h:taken l=false):taken (sh d l ++ m)=false:=by
 by_cases ht:l.tail= []
 ·match l,hl,ht with
  |[x],_,_=>
   have h1:(x.1.head? == some 37 && ([]:List UInt8) != [61])=false:=h;have h2:(x.1.head? == some 37)=false:=(by simpa using h1);show(x.1.head? == some 37 && peek1 (sh d [x] ++ m) != [61])=false;rw [h2];rfl
 ·rw [qA ht];exact h
theorem sq {l:List Tok} (h:l.tail≠ []):df (sh d l ++ m)=df l:=by
 unfold df;rw [im (pq h),vX h]
theorem zX {l:List Tok} (hl:l≠ []) (h:df l=false):df (sh d l ++ m)=false:=by
 by_cases ht:l.tail= []
 ·match l,hl,ht with
  |[x],_,_=>
   have h1:(x.1.head? == some 98 && x.1 != [98,114] && ([]:List UInt8) != [58])=false:=h;have h2:(x.1.head? == some 98 && x.1 != [98,114])=false:=(by simpa using h1);show(x.1.head? == some 98 && x.1 != [98,114] && peek1 (sh d [x] ++ m) != [58])=false;rw [h2];rfl
 ·rw [sq ht];exact h
theorem xO:∀f f' acc l v r,f≤f'→l.length < f→valuesW idx E f acc l= .ok (v,r)→r <:+l∧(r≠ []→valuesW idx E' f' acc (sh d l ++ m)= .ok (v,sh d r ++ m)):=by
 intro f;induction f with
 |zero=>intro f' acc l v r _ h;omega
 |succ f ih=>
  intro f' acc l v r hf hl h;obtain⟨f',rfl⟩:∃k,f'=k+1:=⟨f' - 1,by omega⟩;simp only [valuesW] at h ⊢
  cases ht:taken l with
  |true=>
   rw [ht,if_pos rfl] at h;obtain⟨u,q,h1,h2⟩:=then_ok h;obtain⟨hne,hq,_⟩:=cY h1;subst hq;obtain⟨s,c⟩:=ih f' (acc ++ [u]) l.tail v r (by omega) (uK hl hne) h2;refine⟨s.trans (List.tail_suffix l),fun hr=> ?_⟩;have hq:=gQ s hr;rw [qA hq,ht,if_pos rfl,(eP (E:=E) (E':=E') l u l.tail h1).2 hq];exact c hr
  |false=>
   rw [ht,if_neg (by simp)] at h
   cases h;refine⟨List.suffix_refl _,fun hr=> ?_⟩;rw [sx hr ht,if_neg (by simp)]
theorem zS:Sim d m id (values idx E) (values idx E'):=by
 intro l v r h;exact xO (E':=E') (l.length+1) ((sh d l ++ m).length+1) [] l v r (by simp [sh]) (by omega) h
theorem wR:∀n acc,Sim d m id (bp idx E n acc) (bp idx E' n acc):=by
 intro n;induction n with
 |zero=>intro acc;exact Sim.done rfl
 |succ n ih=>intro acc;exact Sim.then eP (fun v=>ih (acc ++ [v]))
theorem EA:∀f f' to args l v r,f≤f'→l.length < f→phiW idx E f to args l= .ok (v,r)→r <:+l∧(r≠ []→phiW idx E' f' to args (sh d l ++ m)= .ok (v,sh d r ++ m)):=by
 intro f;induction f with
 |zero=>intro f' to args l v r _ h;omega
 |succ f ih=>
  intro f' to args l v r hf hl h;obtain⟨f',rfl⟩:∃k,f'=k+1:=⟨f' - 1,by omega⟩;simp only [phiW] at h ⊢;by_cases hc:to= []∨df l=true
  ·rw [if_pos hc] at h;obtain⟨b,q,h1,h2⟩:=then_ok h;obtain⟨hne,hq,_⟩:=jg h1;subst hq;obtain⟨u,q,h3,h4⟩:=then_ok h2;obtain⟨hne2,hq,_⟩:=cY h3;subst hq;obtain⟨s,c⟩:=ih f' (to ++ [b]) (args ++ [u]) l.tail.tail v r (by omega) (Nat.lt_of_le_of_lt (by simp) (uK hl hne)) h4;refine⟨(s.trans (List.tail_suffix _)).trans (List.tail_suffix l),fun hr=> ?_⟩;have hq:=gQ s hr;rw [sq hne2,if_pos hc,(lM (E:=E) (E':=E') l b l.tail h1).2 hne2];show andThen (value idx E' (sh d l.tail ++ m)) _=_;rw [(eP (E:=E) (E':=E') l.tail u l.tail.tail h3).2 hq];exact c hr
  ·rw [if_neg hc] at h
   cases h;refine⟨List.suffix_refl _,fun hr=> ?_⟩;have h1:¬to= []:=fun e=>hc (.inl e);have h2:df l=false:=by
    cases e:df l with
    |true=>exact absurd (.inr e) hc
    |false=>rfl
   rw [if_neg (by rw [zX hr h2];simp [h1])]
theorem GW:Sim d m id (phi idx E) (phi idx E'):=by
 intro l v r h;exact EA (E':=E') (l.length+1) ((sh d l ++ m).length+1) [] [] l v r (by simp [sh]) (by omega) h
theorem EK:Sim d m id (uz idx E) (uz idx E'):=by
 intro l v r h;simp only [uz] at h ⊢
 cases ht:taken l with
 |true=>
  rw [ht,if_pos rfl] at h;obtain⟨s,c⟩:=Sim.then (k:=id) (G:=fun v=>done ((0,[v],[],[]):Opd)) (G':=fun v=>done ((0,[v],[],[]):Opd)) (eP (d:=d) (m:=m) (E:=E) (E':=E') (idx:=idx)) (fun v=>Sim.done rfl) l v r h;obtain⟨u,q,h1,h2⟩:=then_ok h;obtain⟨hne,hq,_⟩:=cY h1;subst hq;refine⟨s,fun hr=> ?_⟩;have:l.tail≠ []:=by cases h2;exact hr
  rw [qA this,ht,if_pos rfl];exact c hr
 |false=>
  rw [ht,if_neg (by simp)] at h
  cases h;refine⟨List.suffix_refl _,fun hr=> ?_⟩;rw [sx hr ht,if_neg (by simp)];rfl
theorem EW:Sim d m id (spot idx E) (spot idx E'):=by
 intro l v r h;simp only [spot] at h ⊢;by_cases hc:(peek0 l).head? =some 64
 ·rw [if_pos hc] at h;obtain⟨hne,hq,_⟩:=nu h;obtain⟨s,c⟩:=nG (d:=d) (m:=m) (E:=E) (E':=E') l v r h;refine⟨s,fun hr=> ?_⟩;rw [im hne,if_pos hc];exact c hr
 ·rw [if_neg hc] at h
  cases h;refine⟨List.suffix_refl _,fun hr=> ?_⟩;rw [im hr,if_neg hc];rfl
theorem uf (hn:nam []=false) (hnum:(num []).2≠0) (hshp:shp []≠0) (op:Int):Sim d m id (operands num idx nam shp tks E op) (operands num idx nam shp tks E' op):=by
 unfold operands;by_cases h:op=1
 ·simp only [h,if_true];exact Sim.then (Ac hnum) (fun _=>Sim.done rfl)
 simp only [h,if_false];clear h;by_cases h:op=29
 ·simp only [h,if_true];exact Sim.then (iu hnum) (fun _=>Sim.done rfl)
 simp only [h,if_false];clear h;by_cases h:op=10
 ·simp only [h,if_true];exact Sim.then (zj hshp) (fun _=>Sim.done rfl)
 simp only [h,if_false];clear h;by_cases h:op=20
 ·simp only [h,if_true];exact Sim.then GW (fun _=>Sim.done rfl)
 simp only [h,if_false];clear h;by_cases h:op=21
 ·simp only [h,if_true];exact Sim.then EW (fun _=>Sim.then (uS hn) (fun _=>Sim.then zS (fun _=>Sim.done rfl)))
 simp only [h,if_false];clear h;by_cases h:op=28
 ·simp only [h,if_true];exact EK
 simp only [h,if_false];clear h;by_cases h:op=11∨op=12∨op=15
 ·simp only [h,if_true];exact Sim.then eP (fun _=>Sim.then (iu hnum) (fun _=>Sim.done rfl))
 simp only [h,if_false];clear h;by_cases h:op=13∨op=14
 ·simp only [h,if_true];exact Sim.then eP (fun _=>Sim.then (iu hnum) (fun _=>Sim.then eP (fun _=>Sim.done rfl)))
 simp only [h,if_false];clear h;by_cases h:op=23
 ·simp only [h,if_true];exact Sim.then (iu hnum) (fun _=>Sim.done rfl)
 simp only [h,if_false];clear h;by_cases h:op=24
 ·simp only [h,if_true];exact Sim.then eP (fun _=>Sim.then (iu hnum) (fun _=>Sim.done rfl))
 simp only [h,if_false];clear h;by_cases h:op=26
 ·simp only [h,if_true];exact Sim.then lM (fun _=>Sim.done rfl)
 simp only [h,if_false];clear h;by_cases h:op=27
 ·simp only [h,if_true];exact Sim.then eP (fun _=>Sim.then lM (fun _=>Sim.then lM (fun _=>Sim.done rfl)))
 simp only [h,if_false];clear h;exact Sim.then (wR _ _) (fun _=>Sim.done rfl)
end
section
variable {d:Int} {m:List Tok} {E E':Int} {num:List UInt8→Int × Int} {idx:List UInt8→Int→Option Int} {nam:List UInt8→Bool} {shp:List UInt8→Int} {tks:Int→Nat} {fnd:List UInt8→Int × Int} {mks:Int→Int→Int} {prt:Nat→List UInt8→Bool}
theorem nL {i:Int} {o:Int × Int} {l r:List Tok} (hf:(fnd []).1=0) (h:o6 fnd mks E i l= .ok (o,r)):l≠ []∧r=l.tail∧o=fnd (peek0 l)∧o.1≠0∧decide (mks o.1 o.2≠0)=decide (0≤i):=by
 obtain⟨h1,h2,h3⟩:=fw (by simp [hf]) h;split at h3
 ·cases h3
 ·rename_i hc
  cases h3;exact⟨h1,h2,rfl,fun e=>hc (.inl e),by
   by_cases e:decide (mks (fnd (peek0 l)).1 (fnd (peek0 l)).2≠0)=decide (0≤i)
   ·exact e
   ·exact absurd (.inr e) hc⟩
theorem gm {w:List UInt8} (hw:w≠ []) {u:Unit} {l r:List Tok} (h:want E w l= .ok (u,r)):l≠ []∧r=l.tail∧peek0 l=w:=by
 obtain⟨h1,h2,h3⟩:=fw (lq hw) h;refine⟨h1,h2,?_⟩;by_cases e:peek0 l=w
 ·exact e
 ·rw [if_neg e] at h3;cases h3
theorem wG {i:Int} {l r:List Tok} (h:ident idx E l= .ok (i,r)):
  (peek1 l= [61]∧l≠ []∧mark idx 37 1048576 (peek0 l)=some i∧l.tail≠ []∧r=l.tail.tail∧value idx E l= .ok (i,l.tail)∧want E [61] l.tail= .ok ((),l.tail.tail))∨(peek1 l≠ [61]∧i= -1∧r=l):=by
 unfold ident at h;by_cases hc:peek1 l= [61]
 ·rw [if_pos hc] at h;obtain⟨v,q,h1,h2⟩:=then_ok h;obtain⟨hl,hq,hv⟩:=cY h1;subst hq;obtain⟨u,q,h3,h4⟩:=then_ok h2;obtain⟨hl2,hq,_⟩:=gm (by simp) h3;subst hq
  cases h4;exact .inl ⟨hc,hl,hv,hl2,rfl,h1,h3⟩
 ·rw [if_neg hc] at h
  cases h;exact .inr ⟨hc,rfl,rfl⟩
theorem zn (hf:(fnd []).1=0):Cy (start idx fnd mks E):=by
 intro l v r h;obtain⟨i,q,h1,h2⟩:=then_ok h;obtain⟨o,q2,h3,h4⟩:=then_ok h2;obtain⟨hq,hq2,_⟩:=nL hf h3;subst hq2
 cases h4;rcases wG h1 with ⟨_,hl,_,_,rfl,_⟩ | ⟨_,_,rfl⟩
 ·exact⟨hl,(List.tail_suffix _).trans (List.tail_suffix _)⟩
 ·exact⟨hq,List.suffix_refl _⟩
theorem yp (hn:nam []=false) (hnum:(num []).2≠0) (hshp:shp []≠0) (hf:(fnd []).1=0):Cy (vh num idx nam shp tks fnd mks E):=by
 intro l v r h;obtain⟨x,q,h1,h2⟩:=then_ok h;obtain⟨hl,hs⟩:=zn hf l x q h1;obtain⟨y,q2,h3,h4⟩:=then_ok h2
 cases h4;exact⟨hl,((uf (d:=0) (m:= []) (E':=E) hn hnum hshp x.2.1) q y r h3).1.trans hs⟩
theorem Jp {r l:List Tok} (hl:l≠ []) (h:r <:+l.tail):r.length+1≤l.length:=by
 have:=h.length_le
 cases l with
 |nil=>exact absurd rfl hl
 |cons t q=>simp at *;omega
theorem ui {k:Nat} {u:Unit} {l r:List Tok} (h:head prt E k l= .ok (u,r)):l≠ []∧r=l.tail∧k < 256:=by
 obtain⟨h1,h2,h3⟩:=fw (by simp) h;refine⟨h1,h2,?_⟩;split at h3
 ·cases h3
 ·rename_i hc;by_cases e:256≤k
  ·exact absurd (.inl e) hc
  ·omega
theorem EO:∀f f' acc l v r,f≤f'→l.length < f→rH E f acc l= .ok (v,r)→r <:+l∧(r≠ []→rH E' f' acc (sh d l ++ m)= .ok (v,sh d r ++ m)):=by
 intro f;induction f with
 |zero=>intro f' acc l v r _ h;omega
 |succ f ih=>
  intro f' acc l v r hff hl h;obtain⟨f',rfl⟩:∃k,f'=k+1:=⟨f' - 1,by omega⟩;simp only [rH] at h ⊢;by_cases hc:peek0 l= [41]
  ·rw [if_pos hc] at h
   cases h;exact⟨List.suffix_refl _,fun hr=>by rw [im hr,if_pos hc]⟩
  ·rw [if_neg hc] at h;obtain⟨t,q,h1,h2⟩:=then_ok h;obtain⟨hne,hs⟩:=zb l t q h1;have hlen:=Jp hne hs;obtain⟨s,c⟩:=ih f' (acc ++ [t]) q v r (by omega) (by omega) h2;refine⟨(s.trans hs).trans (List.tail_suffix l),fun hr=> ?_⟩;have hq:=gQ s hr;rw [im hne,if_neg hc,(Dn (E:=E) (E':=E') l t q h1).2 hq];exact c hr
theorem zq:Sim d m id (params E) (params E'):=by
 intro l v r h;exact EO (E':=E') (l.length+1) ((sh d l ++ m).length+1) [] l v r (by simp [sh]) (by omega) h
end
def noI (x:Ins):Ins:=(x.1,x.2.1,x.2.2.1,x.2.2.2.1,x.2.2.2.2.1,x.2.2.2.2.2.1,x.2.2.2.2.2.2.1,0)
def noB (b:List Ins):List Ins:=b.map noI
def noF (f:Fun):Fun:=(f.1,f.2.1,f.2.2.1,f.2.2.2.1.map noB,0)
section
variable (dig:Int→List UInt8) (iw:Int→Int→List UInt8) (mks:Int→Int→Int)
variable (ltr:Int→List UInt8)
end
section
variable (nam:List UInt8→Bool) (shp:List UInt8→Int) (tks:Int→Nat)
variable (good:Int→Int→Bool) (mks:Int→Int→Int)
end
section
variable {E:Int} {num:List UInt8→Int × Int} {idx:List UInt8→Int→Option Int} {nam:List UInt8→Bool} {shp:List UInt8→Int} {tks:Int→Nat} {fnd:List UInt8→Int × Int} {mks:Int→Int→Int} {prt:Nat→List UInt8→Bool}
variable {dig:Int→List UInt8} {iw:Int→Int→List UInt8} {good:Int→Int→Bool} {ltr:Int→List UInt8}
end
end Go.Proofs.YtljkgcfnoegibaaGreatDoor.G
