/- Texts of one chain, joined. -/
import Derived.WalkKit
import Derived.Laws.AppendOwn
import Derived.OwnWalk
import Derived.Lib.OthersKept
import Derived.Below
import Derived.Test.YtaiaakklokahjaaGreatDoorProg
import Derived.WalkSpells
import Derived.WalkSmall
import Derived.WalkLawsBesides
import Derived.KernelRfl
import Derived.Deep.QuietTactic
import Derived.BigQuiet
import Derived.RegionTactic
import Derived.BigRegion
import Derived.Deep.Cut
namespace Go.Proofs.YtaiaakklokahjaaGreatDoor.G
abbrev Tok:=List UInt8 × Int
abbrev Er:=Int × Int
abbrev Ins:=Int × Int × Int × Int × List Int × List Int × List UInt8 × Int
abbrev Fun:=List UInt8 × List Int × Int × List (List Ins) × Int
abbrev Rd (α:Type):=List Tok→Except Er (α × List Tok)
def andThen {α β:Type} (x:Except Er (α × List Tok)) (f:α→Rd β):Except Er (β × List Tok):=
 match x with
 |.ok (v,r)=>f v r
 |.error e=> .error e
def ah:List Tok→List UInt8
 |[]=> []
 |t :: _=>t.1
def bk:List Tok→List UInt8
 |_ :: t :: _=>t.1
 |_=> []
def fk (E:Int):List Tok→Int
 |[]=>E
 |t :: _=>t.2
def one {α:Type} (f:List UInt8→Option α) (c:List UInt8→Int) (E:Int):Rd α:=fun l=>
 match f (ah l)with
 |some v=> .ok (v,l.tail)
 |none=> .error (c (ah l),fk E l)
def want (E:Int) (w:List UInt8):Rd Unit:=one (fun s=>if s=w then some ()else none) (fun _=>2) E
def name (nam:List UInt8→Bool) (E:Int):Rd (List UInt8):=one (fun s=>if nam s then some s else none) (fun _=>4) E
def mark (idx:List UInt8→Int→Option Int) (sign:UInt8) (most:Int) (s:List UInt8):Option Int:=
 match s with
 |x :: y :: r=>if x=sign then idx (y :: r) most else none
 |_=>none
def index (idx:List UInt8→Int→Option Int) (sign:UInt8) (most c E:Int):Rd Int:=one (mark idx sign most) (fun _=>c) E
def value (idx:List UInt8→Int→Option Int) (E:Int):Rd Int:=index idx 37 1048576 8 E
def label (idx:List UInt8→Int→Option Int) (E:Int):Rd Int:=index idx 98 255 7 E
def number (num:List UInt8→Int × Int) (E lo hi:Int):Rd Int:=
 one (fun s=>if(num s).2≠0∨(num s).1 < lo∨hi < (num s).1 then none else some (num s).1) (fun s=>if(num s).2≠0 then(num s).2 else 18) E
def kN (num:List UInt8→Int × Int) (E:Int):Rd Int:=one (fun s=>if(num s).2≠0 then none else some (num s).1) (fun s=>(num s).2) E
def shaped (shp:List UInt8→Int) (E:Int):Rd (List UInt8):=one (fun s=>if shp s≠0 then none else some s) shp E
def taken (l:List Tok):Bool:=(ah l).head? == some 37 && bk l != [61]
def bZ (l:List Tok):Bool:=(ah l).head? == some 98 && ah l != [98,114] && bk l != [58]
def bO (idx:List UInt8→Int→Option Int) (E:Int):Nat→List Int→Rd (List Int)
 |0,acc=>fun l=> .ok (acc,l)
 |f+1,acc=>fun l=>if taken l then andThen (value idx E l) fun v=>bO idx E f (acc ++ [v])else .ok (acc,l)
def values (idx:List UInt8→Int→Option Int) (E:Int):Rd (List Int):=fun l=>bO idx E (l.length+1) [] l
def aV (idx:List UInt8→Int→Option Int) (E:Int):Nat→List Int→Rd (List Int)
 |0,acc=>fun l=> .ok (acc,l)
 |f+1,acc=>fun l=>andThen (value idx E l) fun v=>aV idx E f (acc ++ [v])
def km (idx:List UInt8→Int→Option Int) (E:Int):Nat→List Int→List Int→Rd (List Int × List Int)
 |0,to,args=>fun l=> .ok ((to,args),l)
 |f+1,to,args=>fun l=>
  if to= []∨bZ l=true then andThen (label idx E l) fun b r=>andThen (value idx E r) fun v=>km idx E f (to ++ [b]) (args ++ [v])
  else .ok ((to,args),l)
def phi (idx:List UInt8→Int→Option Int) (E:Int):Rd (List Int × List Int):=fun l=>km idx E (l.length+1) [] [] l
abbrev Opd:=Int × List Int × List Int × List UInt8
def done {α:Type} (v:α):Rd α:=fun l=> .ok (v,l)
def sG (idx:List UInt8→Int→Option Int) (E:Int):Rd Opd:=fun l=>
 if taken l then andThen (value idx E l) fun v=>done (0,[v],[],[])else .ok ((0,[],[],[]),l)
def spot (idx:List UInt8→Int→Option Int) (E:Int):Rd Int:=fun l=>
 if(ah l).head? =some 64 then index idx 64 1048576 3 E l else .ok (0,l)
def ident (idx:List UInt8→Int→Option Int) (E:Int):Rd Int:=fun l=>
 if bk l= [61] then andThen (value idx E l) fun v r=>andThen (want E [61] r) fun _=>done v else .ok (-1,l)
section
variable (num:List UInt8→Int × Int) (idx:List UInt8→Int→Option Int) (nam:List UInt8→Bool) (shp:List UInt8→Int) (tks:Int→Nat)
def operands (E op:Int):Rd Opd:=fun l=>
 if op=1 then andThen (kN num E l) fun x=>done (x,[],[],[])
 else if op=29 then andThen (number num E 0 255 l) fun x=>done (x,[],[],[])
 else if op=10 then andThen (shaped shp E l) fun s=>done (0,[],[],s)
 else if op=20 then andThen (phi idx E l) fun x=>done (0,x.2,x.1,[])
 else if op=21 then andThen (spot idx E l) fun n r=>andThen (name nam E r) fun s r=>andThen (values idx E r) fun a=>done (n,a,[],s)
 else if op=28 then sG idx E l
 else if op=11∨op=12∨op=15 then andThen (value idx E l) fun v r=>andThen (number num E 0 15 r) fun x=>done (x,[v],[],[])
 else if op=13∨op=14 then andThen (value idx E l) fun v r=>andThen (number num E 0 15 r) fun x r=>andThen (value idx E r) fun u=>done (x,[v,u],[],[])
 else if op=23 then andThen (number num E 0 1048576 l) fun x=>done (x,[],[],[])
 else if op=24 then andThen (value idx E l) fun v r=>andThen (number num E 0 1048576 r) fun x=>done (x,[v],[],[])
 else if op=26 then andThen (label idx E l) fun b=>done (0,[],[b],[])
 else if op=27 then andThen (value idx E l) fun v r=>andThen (label idx E r) fun b r=>andThen (label idx E r) fun c=>done (0,[v],[b,c],[])
 else andThen (aV idx E (tks op) [] l) fun a=>done (0,a,[],[])
variable (fnd:List UInt8→Int × Int) (mks:Int→Int→Int) (prt:Nat→List UInt8→Bool)
def oW (E id:Int):Rd (Int × Int):=
 one (fun s=>if(fnd s).1=0∨decide (mks (fnd s).1 (fnd s).2≠0)≠decide (0≤id)then none else some (fnd s)) (fun s=>if(fnd s).1=0 then 2 else 8) E
def start (E:Int):Rd (Int × Int × Int):=fun l=>andThen (ident idx E l) fun i r=>andThen (oW fnd mks E i r) fun o=>done (i,o.1,o.2)
def Fg (E a:Int):Rd Ins:=fun l=>
 andThen (start idx fnd mks E l) fun x r=>andThen (operands num idx nam shp tks E x.2.1 r) fun y=>done (x.2.1,x.1,y.1,x.2.2,y.2.1,y.2.2.1,y.2.2.2,a)
def ux (E:Int):Rd Ins:=fun l=>Fg num idx nam shp tks fnd mks E (fk E l) l
def ss (E:Int):Nat→Nat→List Ins→Rd (List Ins × Nat)
 |0,n,acc=>fun l=> .ok ((acc,n),l)
 |f+1,n,acc=>fun l=>
  if ah l= [125]∨bk l= [58] then .ok ((acc,n),l)
  else if 4096≤n then .error (6,fk E l)
  else andThen (ux num idx nam shp tks fnd mks E l) fun x=>ss E f (n+1) (acc ++ [x])
def body (E:Int) (n:Nat):Rd (List Ins × Nat):=fun l=>ss num idx nam shp tks fnd mks E (l.length+1) n [] l
def head (E:Int) (k:Nat):Rd Unit:=one (fun s=>if 256≤k∨s= []∨prt k s=false then none else some ()) (fun _=>if 256≤k then 6 else 7) E
def block (E:Int) (k n:Nat):Rd (List Ins × Nat):=fun l=>
 andThen (head prt E k l) fun _ r=>andThen (want E [58] r) fun _=>body num idx nam shp tks fnd mks E n
def rO (E:Int):Nat→Nat→List (List Ins)→Rd (List (List Ins) × Nat)
 |0,n,acc=>fun l=> .ok ((acc,n),l)
 |f+1,n,acc=>fun l=>
  if ah l= [125] then .ok ((acc,n),l)
  else andThen (block num idx nam shp tks fnd mks prt E acc.length n l) fun x=>rO E f x.2 (acc ++ [x.1])
def blocks (E:Int) (n:Nat):Rd (List (List Ins) × Nat):=fun l=>rO num idx nam shp tks fnd mks prt E (l.length+1) n [] l
def kind (s:List UInt8):Int:=if s= [110] then 0 else if s= [105] then 1 else if s= [112] then 2 else -1
def param (E:Int) (k:Nat):Rd Int:=one (fun s=>if kind s < 1∨8≤k then none else some (kind s)) (fun s=>if kind s < 1 then 9 else 6) E
def pN (E:Int):Nat→List Int→Rd (List Int)
 |0,acc=>fun l=> .ok (acc,l)
 |f+1,acc=>fun l=>if ah l= [41] then .ok (acc,l)else andThen (param E acc.length l) fun t=>pN E f (acc ++ [t])
def params (E:Int):Rd (List Int):=fun l=>pN E (l.length+1) [] l
def answer (E:Int):Rd Int:=one (fun s=>if kind s < 0 then none else some (kind s)) (fun _=>9) E
def function (E:Int) (n:Nat):Rd (Fun × Nat):=fun l=>
 andThen (want E [102,117,110,99] l) fun _ r=>andThen (name nam E r) fun s r=>andThen (want E [40] r) fun _ r=>andThen (params E r) fun p r=>andThen (want E [41] r) fun _ r=>
 andThen (answer E r) fun t r=>andThen (want E [123] r) fun _ r=>andThen (blocks num idx nam shp tks fnd mks prt E n r) fun b r=>andThen (want E [125] r) fun _=>done ((s,p,t,b.1,fk E l),b.2)
def uO (E:Int):Nat→Nat→List Fun→Rd (List Fun × Nat)
 |0,n,acc=>fun l=> .ok ((acc,n),l)
 |f+1,n,acc=>fun l=>
  if l= [] then .ok ((acc,n),l)
  else if 32≤acc.length then .error (6,fk E l)
  else andThen (function num idx nam shp tks fnd mks prt E n l) fun x=>uO E f x.2 (acc ++ [x.1])
def program (E:Int):Rd (List Fun × Nat):=fun l=>uO num idx nam shp tks fnd mks prt E (l.length+1) 0 [] l
end
def sh (d:Int) (l:List Tok):List Tok:=l.map fun t=>(t.1,t.2+d)
theorem fW {d:Int} {l m:List Tok} (h:l≠ []):ah (sh d l ++ m)=ah l:=by
 cases l with
 |nil=>exact absurd rfl h
 |cons t r=>rfl
theorem tQ {d:Int} {l m:List Tok} (h:l.tail≠ []):bk (sh d l ++ m)=bk l:=by
 match l,h with
 |a :: b :: r,_=>rfl
 |[_],h=>exact absurd rfl h
 |[],h=>exact absurd rfl h
theorem FQ {d:Int} {l m:List Tok} (h:l≠ []):(sh d l ++ m).tail=sh d l.tail ++ m:=by
 cases l with
 |nil=>exact absurd rfl h
 |cons t r=>rfl
theorem pD {l:List Tok} (h:l.tail≠ []):l≠ []:=fun e=>by subst e;exact h rfl
theorem fO {r l:List Tok} (h:r <:+l) (hr:r≠ []):l≠ []:=fun e=>by
 subst e;exact hr (List.eq_nil_of_suffix_nil h)
def Sim {α β:Type} (d:Int) (m:List Tok) (g:α→β) (F:Rd α) (F':Rd β):Prop:=
 ∀l v r,F l= .ok (v,r)→r <:+l∧(r≠ []→F' (sh d l ++ m)= .ok (g v,sh d r ++ m))
def sA {α:Type} (F:Rd α):Prop:=∀l v r,F l= .ok (v,r)→l≠ []∧r <:+l.tail
theorem Sim.done {α β:Type} {d:Int} {m:List Tok} {g:α→β} {v:α} {v':β} (h:g v=v'):Sim d m g (done v) (done v'):=by
 intro l u r h1
 cases h1;exact⟨List.suffix_refl _,fun _=>by rw [h];rfl⟩
theorem Sim.then {α β γ δ:Type} {d:Int} {m:List Tok} {g:α→β} {k:γ→δ} {F:Rd α} {F':Rd β} {G:α→Rd γ} {G':β→Rd δ} (hF:Sim d m g F F') (hG:∀v,Sim d m k (G v) (G' (g v))):
  Sim d m k (fun l=>andThen (F l) G) (fun l=>andThen (F' l) G'):=by
 intro l v r h;replace h:andThen (F l) G= .ok (v,r):=h
 cases e:F l with
 |error x=>rw [e] at h;cases h
 |ok p=>
  obtain⟨u,q⟩:=p;rw [e] at h;obtain⟨s1,c1⟩:=hF l u q e;obtain⟨s2,c2⟩:=hG u q v r h;refine⟨s2.trans s1,fun hr=> ?_⟩;show andThen (F' (sh d l ++ m)) G'=_;rw [c1 (fO s2 hr)];exact c2 hr
theorem ep {α:Type} {f:List UInt8→Option α} {c:List UInt8→Int} {E:Int} (h0:f []=none) {l r:List Tok} {v:α} (h:one f c E l= .ok (v,r)):l≠ []∧r=l.tail∧f (ah l)=some v:=by
 unfold one at h
 cases e:f (ah l)with
 |none=>rw [e] at h;cases h
 |some u=>
  rw [e] at h
  cases h;refine⟨fun e2=> ?_,rfl,rfl⟩;subst e2;exact absurd (h0.symm.trans e) (by simp)
theorem Sim.one {α:Type} {d:Int} {m:List Tok} {f:List UInt8→Option α} {c c':List UInt8→Int} {E E':Int} (h0:f []=none):Sim d m id (one f c E) (one f c' E'):=by
 intro l v r h;obtain⟨hl,rfl,hv⟩:=ep h0 h;refine⟨List.tail_suffix l,fun _=> ?_⟩;unfold G.one;rw [fW hl,hv,FQ hl];rfl
theorem sA.one {α:Type} {f:List UInt8→Option α} {c:List UInt8→Int} {E:Int} (h0:f []=none):sA (one f c E):=by
 intro l v r h;obtain⟨hl,rfl,_⟩:=ep h0 h;exact⟨hl,List.suffix_refl _⟩
theorem sA.then {α β:Type} {F:Rd α} {G:α→Rd β} (hF:sA F) (hG:∀v l u r,G v l= .ok (u,r)→r <:+l):sA (fun l=>andThen (F l) G):=by
 intro l v r h;replace h:andThen (F l) G= .ok (v,r):=h
 cases e:F l with
 |error x=>rw [e] at h;cases h
 |ok p=>
  obtain⟨u,q⟩:=p;rw [e] at h;obtain⟨h1,h2⟩:=hF l u q e;exact⟨h1,(hG u q v r h).trans h2⟩
section
variable {d:Int} {m:List Tok} {E E':Int} {num:List UInt8→Int × Int} {idx:List UInt8→Int→Option Int} {nam:List UInt8→Bool} {shp:List UInt8→Int} {tks:Int→Nat} {fnd:List UInt8→Int × Int} {mks:Int→Int→Int} {prt:Nat→List UInt8→Bool}
theorem ki {w:List UInt8} (hw:w≠ []):(fun s=>if s=w then some ()else none) ([]:List UInt8)=none:=by
 show(if []=w then some ()else none)=none;rw [if_neg (fun e=>hw e.symm)]
theorem lO {w:List UInt8} (hw:w≠ []):Sim d m id (want E w) (want E' w):=Sim.one (ki hw)
theorem mK {sign:UInt8} {most c:Int}:Sim d m id (index idx sign most c E) (index idx sign most c E'):=Sim.one (f:=mark idx sign most) rfl
theorem mf {sign:UInt8} {most c n:Int} {l r:List Tok} (h:index idx sign most c E l= .ok (n,r)):l≠ []∧r=l.tail∧mark idx sign most (ah l)=some n:=ep (f:=mark idx sign most) rfl h
theorem bW {n:Int} {l r:List Tok} (h:value idx E l= .ok (n,r)):l≠ []∧r=l.tail∧mark idx 37 1048576 (ah l)=some n:=mf h
theorem gZ {n:Int} {l r:List Tok} (h:label idx E l= .ok (n,r)):l≠ []∧r=l.tail∧mark idx 98 255 (ah l)=some n:=mf h
theorem dM:Sim d m id (value idx E) (value idx E'):=mK
theorem ka:Sim d m id (label idx E) (label idx E'):=mK
theorem sW (hn:nam []=false):Sim d m id (name nam E) (name nam E'):=Sim.one (by simp [hn])
theorem gm {lo hi:Int} (hn:(num []).2≠0):Sim d m id (number num E lo hi) (number num E' lo hi):=Sim.one (by simp [hn])
theorem vG (hn:(num []).2≠0):Sim d m id (kN num E) (kN num E'):=Sim.one (by simp [hn])
theorem vO (hn:shp []≠0):Sim d m id (shaped shp E) (shaped shp E'):=Sim.one (by simp [hn])
theorem An {k:Nat}:Sim d m id (param E k) (param E' k):=Sim.one (by simp [kind])
theorem xi {k:Nat}:sA (param E k):=sA.one (by simp [kind])
theorem wR:Sim d m id (answer E) (answer E'):=Sim.one (by simp [kind])
end
end Go.Proofs.YtaiaakklokahjaaGreatDoor.G
namespace Go.Proofs.YtaiaakklokahjaaGreatDoor
open Go Go.RowKit
open G (Tok Er Ins Fun ah bk fk)
theorem aa {p:Prop} (h:p):Hid p:=h
def bs (l:List UInt8):ByteArray:=⟨l.toArray⟩
theorem eC (l:List UInt8):(bs l).data.toList=l:=by simp [bs]
theorem bE (l:List UInt8):(bs l).size=l.length:=by simp [bs,ByteArray.size]
theorem Il (s:ByteArray):bs s.data.toList=s:=by cases s;simp [bs]
def W80 (w w':World):Prop:=∀(k:Nat) (cs:Array Value) (fz:Nat × Nat),w.heap[k]? =some (.cells cs 2997152 fz)→w'.heap[k]? =some (.cells cs 2997152 fz)
def A0 (a:Nat) (w w':World):Prop:=∀v,w.cell? ⟨a,0,none⟩=some v→w'.cell? ⟨a,0,none⟩=some v
def Kp (B a:Nat) (w w':World):Prop:=(w'.os=w.os∧W80 w w')∧w'.tape=w.tape∧(w'.output=w.output∧A0 a w w')∧w.heap.size≤w'.heap.size∧∀k,k < B→k≠a→w'.heap[k]? =w.heap[k]?
theorem Kp.refl (B a:Nat) (w:World):Kp B a w w:=⟨⟨rfl,fun _ _ _ h=>h⟩,rfl,⟨rfl,fun _ h=>h⟩,Nat.le_refl _,fun _ _ _=>rfl⟩
theorem Kp.trans {B a:Nat} {u v w:World} (h:Kp B a u v) (k:Kp B a v w):Kp B a u w:=
 ⟨⟨k.1.1.trans h.1.1,fun i cs fz e=>k.1.2 i cs fz (h.1.2 i cs fz e)⟩,k.2.1.trans h.2.1,⟨k.2.2.1.1.trans h.2.2.1.1,fun x e=>k.2.2.1.2 x (h.2.2.1.2 x e)⟩,Nat.le_trans h.2.2.2.1 k.2.2.2.1,fun i h1 h2=>(k.2.2.2.2 i h1 h2).trans (h.2.2.2.2 i h1 h2)⟩
theorem Kp.mono {B B' a:Nat} {u v:World} (h:Kp B a u v) (hB:B'≤B):Kp B' a u v:=⟨h.1,h.2.1,h.2.2.1,h.2.2.2.1,fun i h1=>h.2.2.2.2 i (Nat.lt_of_lt_of_le h1 hB)⟩
theorem Kp.size {B a:Nat} {u v:World} (h:Kp B a u v):u.heap.size≤v.heap.size:=h.2.2.2.1
theorem Kp.As {B a:Nat} {u v:World} (h:Below u.heap.size u v) (hB:B≤u.heap.size):Kp B a u v:=
 ⟨⟨h.os,fun k cs fz e=>(h.block k (Array.getElem?_eq_some_iff.1 e).1).trans e⟩,h.tape,⟨h.output,fun x e=>(h.cell (p:=⟨a,0,none⟩) (World.block_lt_of_cell? u _ e)).trans e⟩,h.size,fun i h1 _=>h.block i (by omega)⟩
theorem Kp.below {B a:Nat} {u v:World} (h:Kp B a u v) (ha:B≤a):Below B u v:=⟨h.1.1,h.2.1,h.2.2.1.1,h.2.2.2.1,fun i h1=>h.2.2.2.2 i h1 (by omega)⟩
theorem Kp.alloc {B a:Nat} {u w:World} (h:Kp B a u w) (hB:B≤w.heap.size) (o:Obj):Kp B a u (w.alloc o):=
 h.trans (Kp.As ((Below.refl _ w).alloc (Nat.le_refl _) o) hB)
def N80 (u w:World) (q:Nat):Prop:=u.heap.size≤q∨∀(cs:Array Value) (fz:Nat × Nat),w.heap[q]? ≠some (.cells cs 2997152 fz)
theorem Kp.setCell {B a:Nat} {u w:World} (h:Kp B a u w) {p:Addr} (hp:(p.block=a∧p.off≠0)∨(B≤p.block∧p.block≠a)) (hn:N80 u w p.block) (x:Value):Kp B a u (w.setCell p x):=by
 have hb:=(Below.refl 0 w).setCell (Nat.zero_le p.block) x;refine⟨⟨hb.os.trans h.1.1,fun k cs fz e=> ?_⟩,hb.tape.trans h.2.1,⟨hb.output.trans h.2.2.1.1,fun v e=> ?_⟩,Nat.le_trans h.size hb.size,fun k h1 h2=>(Below.heap_setCell w p x k (by omega)).trans (h.2.2.2.2 k h1 h2)⟩
 ·have e2:=h.1.2 k cs fz e;rw [Below.heap_setCell w p x k ?_]
  ·exact e2
  ·intro hk;rcases hn with hn | hn
   ·have:=(Array.getElem?_eq_some_iff.1 e).1;omega
   ·rw [hk] at e2;exact hn cs fz e2
 ·rw [World.cell?_setCell_other _ _ _ _ ?_]
  ·exact h.2.2.1.2 v e
  ·intro e2;subst e2;rcases hp with hp | hp
   ·exact hp.2 rfl
   ·exact hp.2 rfl
theorem Kp.grown {B a:Nat} {u w w':World} {row:Option Nat} (h:Kp B a u w) (hg:w.grownBy w' row) (hB:B≤w.heap.size) (hr:∀k,row=some k→B≤k∧k≠a) (hn:∀k,row=some k→N80 u w k):Kp B a u w':=by
 refine⟨⟨hg.os.trans h.1.1,fun k cs fz e=> ?_⟩,hg.tape.trans h.2.1,⟨hg.output.trans h.2.2.1.1,fun v e=> ?_⟩,Nat.le_trans h.size hg.size,fun k h1 h2=>(hg.block k (by omega) (fun e=>by have:=hr k e.symm;omega)).trans (h.2.2.2.2 k h1 h2)⟩
 ·have e2:=h.1.2 k cs fz e;rw [hg.block k (Array.getElem?_eq_some_iff.1 e2).1 ?_]
  ·exact e2
  ·intro hk;rcases hn k hk.symm with hn | hn
   ·have:=(Array.getElem?_eq_some_iff.1 e).1;omega
   ·exact hn cs fz e2
 ·exact hg.cell (h.2.2.1.2 v e) (fun e2=>(hr a e2.symm).2 rfl)
theorem Kp.own {B a b e s n:Nat} {v:Value} {xs:List Value} {u w:World} (h:Kp B a u w) (ho:u.ownsRow b e s v n xs) (hv:∀g,v.ownBlock=some g→g < B∧g≠a):w.ownsRow b e s v n xs:=by
 refine⟨ho.1,?_⟩;rcases ho.2 with hn | ⟨g,cap,cur,hv2,hb,hg,rest⟩
 ·exact .inl hn
 ·have:=hv g (by rw [hv2];rfl);exact .inr ⟨g,cap,cur,hv2,hb,(h.2.2.2.2 g this.1 this.2).trans hg,rest⟩
theorem aL {b b' e s n:Nat} {v:Value} {xs:List Value} {w:World} (h:w.ownsRow b e s v n xs) (hb:b'≤b):w.ownsRow b' e s v n xs:=by
 refine⟨h.1,?_⟩;rcases h.2 with hn | ⟨g,cap,cur,hv2,hb2,rest⟩
 ·exact .inl hn
 ·exact .inr ⟨g,cap,cur,hv2,by omega,rest⟩
theorem cz {b e s n:Nat} {v:Value} {xs:List Value} {w:World} (h:w.ownsRow b e s v n xs) {g:Nat} (hg:v.ownBlock=some g):∃c,w.heap[g]? =some (.cells c e (0,0)):=by
 rcases h.2 with ⟨rfl,_⟩ | ⟨g',cap,cur,rfl,_,hh,_⟩
 ·simp [Value.ownBlock] at hg
 ·simp [Value.ownBlock] at hg;subst hg;exact⟨cur,hh⟩
theorem bp {b e s n g:Nat} {v:Value} {xs:List Value} {w:World} (h:w.ownsRow b e s v n xs) {c:Array Value} {t:TypeId} {fz:Nat × Nat} (hg:w.heap[g]? =some (.cells c t fz)) (ht:t≠e):v.ownBlock≠some g:=by
 intro hv;obtain⟨c2,h2⟩:=cz h hv;rw [hg] at h2;simp at h2;exact ht h2.2.1
theorem Ay {b e s n b2 e2 s2 n2:Nat} {v v2:Value} {xs xs2:List Value} {w:World} (h:w.ownsRow b e s v n xs) (h2:w.ownsRow b2 e2 s2 v2 n2 xs2) (ht:e≠e2):v.ownBlock=none∨v.ownBlock≠v2.ownBlock:=by
 cases hv:v.ownBlock with
 |none=>exact .inl rfl
 |some g=>
  refine .inr fun e=> ?_;obtain⟨c,hc⟩:=cz h hv;exact bp h2 hc ht e.symm
def iN:List Tok→List Value
 |[]=> []
 |t :: r=> .string (bs t.1) :: .int .i64 t.2 :: iN r
theorem qu:∀(L:List Tok) (j:Nat) (t:Tok),L[j]? =some t→(iN L)[2 * j]? =some (.string (bs t.1))∧(iN L)[2 * j+1]? =some (.int .i64 t.2):=by
 intro L;induction L with
 |nil=>intro j t h;simp at h
 |cons x r ih=>
  intro j t h
  cases j with
  |zero=>simp at h;subst h;exact⟨rfl,rfl⟩
  |succ j=>
   simp at h;have:=ih j t h;rw [show 2 * (j+1)=2 * j+1+1 by omega];simpa [iN] using this
def Rdr (B a:Nat) (L:List Tok) (E:Int) (n:Nat) (l:List Tok) (w:World):Prop:=
 ∃v,w.heap[a]? =some (.cells #[v,.int .i64 ((L.length - l.length:Nat):Int),.int .i64 E,.int .i64 (n:Int)] 2997075 (0,0))∧w.ownsRow 0 173 2 v L.length (iN L)∧
  a < B∧(∀g,v.ownBlock=some g→g < B)∧l <:+L∧(L.length≤131072∧∀t∈L,t.1.length≤65536)∧n≤4096∧B≤w.heap.size
theorem Rdr.mono {B B' a:Nat} {L:List Tok} {E:Int} {n:Nat} {l:List Tok} {w:World} (h:Rdr B a L E n l w) (hB:B≤B') (hw:B'≤w.heap.size):Rdr B' a L E n l w:=by
 obtain⟨v,h1,h2,h3,h4,h5,h6,h7,h8⟩:=h;exact⟨v,h1,h2,by omega,fun g hg=>Nat.lt_of_lt_of_le (h4 g hg) hB,h5,h6,h7,hw⟩
theorem Rdr.keep {B a:Nat} {L:List Tok} {E:Int} {n:Nat} {l:List Tok} {w w':World} (h:Rdr B a L E n l w) (hs:w.heap.size≤w'.heap.size) (hb:∀k,k < B→w'.heap[k]? =w.heap[k]?):Rdr B a L E n l w':=by
 obtain⟨v,h1,h2,h3,h4,h5,h6,h7,h8⟩:=h;refine⟨v,(hb a h3).trans h1,?_,h3,h4,h5,h6,h7,by omega⟩;refine⟨h2.1,?_⟩;rcases h2.2 with hn | ⟨g,cap,cur,hv2,hbb,hg,rest⟩
 ·exact .inl hn
 ·exact .inr ⟨g,cap,cur,hv2,hbb,(hb g (h4 g (by rw [hv2];rfl))).trans hg,rest⟩
theorem Rdr.below {B a:Nat} {L:List Tok} {E:Int} {n:Nat} {l:List Tok} {w w':World} (h:Rdr B a L E n l w) (hb:Below B w w'):Rdr B a L E n l w':=h.keep hb.size hb.block
theorem Rdr.size {B a:Nat} {L:List Tok} {E:Int} {n:Nat} {l:List Tok} {w:World} (h:Rdr B a L E n l w):B≤w.heap.size:=by
 obtain⟨v,h1,h2,h3,h4,h5,h6,h7,h8⟩:=h;exact h8
theorem Rdr.short {B a:Nat} {L:List Tok} {E:Int} {n:Nat} {l:List Tok} {w:World} (h:Rdr B a L E n l w):(ah l).length≤65536:=by
 obtain⟨v,h1,h2,h3,h4,h5,h6,h7,h8⟩:=h
 cases l with
 |nil=>simp [ah]
 |cons t r=>exact h6.2 t (h5.subset (by simp))
theorem Rdr.cells {B a:Nat} {L:List Tok} {E:Int} {n:Nat} {l:List Tok} {w:World} (h:Rdr B a L E n l w):
  a < w.heap.size∧∃v,w.cell? ⟨a,0,none⟩=some v∧w.cell? ⟨a,1,none⟩=some (.int .i64 ((L.length - l.length:Nat):Int))∧w.cell? ⟨a,2,none⟩=some (.int .i64 E)∧w.cell? ⟨a,3,none⟩=some (.int .i64 (n:Int))∧
   w.frozen? ⟨a,0,none⟩=false∧w.frozen? ⟨a,1,none⟩=false∧w.frozen? ⟨a,2,none⟩=false∧w.frozen? ⟨a,3,none⟩=false∧
   ((v= .slice none 0 0∧L= [])∨∃g cap,v= .slice (some ⟨g,0,none⟩) L.length cap∧L.length≤cap∧cap≤maxLen∧(∀j t,L[j]? =some t→w.cell? ⟨g,j * 2,none⟩=some (.string (bs t.1))∧w.cell? ⟨g,j * 2+1,none⟩=some (.int .i64 t.2))∧∀j,w.frozen? ⟨g,j,none⟩=false):=by
 obtain⟨v,h1,h2,h3,h4,h5,h6,h7,h8⟩:=h;refine⟨by omega,v,by simp [World.cell?,h1],by simp [World.cell?,h1],by simp [World.cell?,h1],by simp [World.cell?,h1],by simp [World.frozen?,h1],by simp [World.frozen?,h1],by simp [World.frozen?,h1],by simp [World.frozen?,h1],?_⟩;rcases h2.2 with ⟨hv,hn⟩ | ⟨g,cap,cur,hv2,hbb,hg,hc1,hc2,hc3,hc4⟩
 ·exact .inl ⟨hv,List.length_eq_zero_iff.1 hn⟩
 ·refine .inr ⟨g,cap,hv2,hc1,hc2,?_,?_⟩
  ·intro j t hj;have hc:=h2.cells (g:=g) (by rw [hv2];rfl);obtain⟨k1,k2⟩:=qu L j t hj;have e1:=hc _ _ k1;have e2:=hc _ _ k2;rw [Addr.add_lit,Nat.zero_add,Nat.mul_comm] at e1 e2;exact⟨e1,e2⟩
  ·intro j;simp [World.frozen?,hg]
def iy (w:World) (g:Nat) (a b:Value):Prop:=
 w.cell? ⟨g,0,none⟩=some a∧w.cell? ⟨g,1,none⟩=some b∧w.frozen? ⟨g,0,none⟩=false∧w.frozen? ⟨g,1,none⟩=false∧g < w.heap.size
theorem iy.new (w:World) (t:TypeId) {a b:Value}:iy (w.alloc (.cells #[a,b] t)) w.heap.size a b:=by
 refine⟨?_,?_,?_,?_,by simp⟩ <;> simp [go_sem]
theorem iy.below {w w1:World} {g:Nat} {a b:Value} (h:iy w g a b) (hb:Below w.heap.size w w1):iy w1 g a b:=by
 obtain⟨c0,c1,f0,f1,z⟩:=h;exact⟨(hb.cell z).trans c0,(hb.cell z).trans c1,(hb.frozen z).trans f0,(hb.frozen z).trans f1,Nat.lt_of_lt_of_le z hb.size⟩
theorem iy.kept {B a:Nat} {w w1:World} {g:Nat} {x y:Value} (h:iy w g x y) (hb:Kp B a w w1) (hg:g < B) (ha:g≠a):iy w1 g x y:=by
 obtain⟨c0,c1,f0,f1,z⟩:=h;have e:=hb.2.2.2.2 g hg ha;exact⟨(World.cell?_of_block e).trans c0,(World.cell?_of_block e).trans c1,(World.frozen?_of_block e).trans f0,(World.frozen?_of_block e).trans f1,Nat.lt_of_lt_of_le z hb.size⟩
theorem af (w:World) (o:Obj):Below w.heap.size w (w.alloc o):=(Below.refl _ _).alloc (Nat.le_refl _) _
theorem ae {a b c:World} (h:Below a.heap.size a b) (k:Below b.heap.size b c):Below a.heap.size a c:=h.trans (k.mono h.size)
theorem Rdr.step {B a:Nat} {L:List Tok} {E:Int} {n:Nat} {l:List Tok} {w w':World} (h:Rdr B a L E n l w) (hb:Below w.heap.size w w'):Rdr B a L E n l w':=h.below (hb.mono h.size)
theorem Rdr.word {L l:List Tok} (h:l <:+L) (i:Nat):L[L.length - l.length+i]? =l[i]? :=by
 obtain⟨p,rfl⟩:=h;rw [List.getElem?_append_right (by simp)];congr 1
 simp
def gE (c:UInt8) (l:List UInt8):Bool:=l.head? == some c
theorem aw {a b:Bool} (h:a=b):Ending.returned (.bool a)= .returned (.bool b):=by rw [h]
theorem EF (s:ByteArray) (a b:Nat):(s.extract a b).data.toList=(s.data.toList.drop a).take (b - a):=by
 simp [ByteArray.data_extract,Array.toList_extract]
def I0 (c p:Int):Ending:= .panicked [{v:= .iface 59 (.agg #[.int .i64 c,.int .i64 p]),recovered:=false}]
end Go.Proofs.YtaiaakklokahjaaGreatDoor
namespace Go.Proofs.YtaiaakklokahjaaGreatDoor.G
theorem then_ok {α β:Type} {x:Except Er (α × List Tok)} {f:α→Rd β} {y:β × List Tok} (h:andThen x f= .ok y):∃v q,x= .ok (v,q)∧f v q= .ok y:=by
 cases x with
 |error e=>cases h
 |ok p=>exact⟨p.1,p.2,rfl,h⟩
theorem uy {l:List Tok} {f:Nat} (h:l.length < f+1) (hl:l≠ []):l.tail.length < f:=by
 cases l with
 |nil=>exact absurd rfl hl
 |cons t r=>simp at *;omega
section
variable {d:Int} {m:List Tok} {E E':Int} {num:List UInt8→Int × Int} {idx:List UInt8→Int→Option Int} {nam:List UInt8→Bool} {shp:List UInt8→Int} {tks:Int→Nat} {fnd:List UInt8→Int × Int} {mks:Int→Int→Int} {prt:Nat→List UInt8→Bool}
theorem oM {l:List Tok} (h:l.tail≠ []):taken (sh d l ++ m)=taken l:=by
 unfold taken;rw [fW (pD h),tQ h]
theorem qy {l:List Tok} (hl:l≠ []) (h:taken l=false):taken (sh d l ++ m)=false:=by
 by_cases ht:l.tail= []
 ·match l,hl,ht with
  |[x],_,_=>
   have h1:(x.1.head? == some 37 && ([]:List UInt8) != [61])=false:=h;have h2:(x.1.head? == some 37)=false:=(by simpa using h1);show(x.1.head? == some 37 && bk (sh d [x] ++ m) != [61])=false;rw [h2];rfl
 ·rw [oM ht];exact h
theorem qe {l:List Tok} (h:l.tail≠ []):bZ (sh d l ++ m)=bZ l:=by
 unfold bZ;rw [fW (pD h),tQ h]
theorem vU {l:List Tok} (hl:l≠ []) (h:bZ l=false):bZ (sh d l ++ m)=false:=by
 by_cases ht:l.tail= []
 ·match l,hl,ht with
  |[x],_,_=>
   have h1:(x.1.head? == some 98 && x.1 != [98,114] && ([]:List UInt8) != [58])=false:=h;have h2:(x.1.head? == some 98 && x.1 != [98,114])=false:=(by simpa using h1);show(x.1.head? == some 98 && x.1 != [98,114] && bk (sh d [x] ++ m) != [58])=false;rw [h2];rfl
 ·rw [qe ht];exact h
theorem vh:∀f f' acc l v r,f≤f'→l.length < f→bO idx E f acc l= .ok (v,r)→r <:+l∧(r≠ []→bO idx E' f' acc (sh d l ++ m)= .ok (v,sh d r ++ m)):=by
 intro f;induction f with
 |zero=>intro f' acc l v r _ h;omega
 |succ f ih=>
  intro f' acc l v r hf hl h;obtain⟨f',rfl⟩:∃k,f'=k+1:=⟨f' - 1,by omega⟩;simp only [bO] at h ⊢
  cases ht:taken l with
  |true=>
   rw [ht,if_pos rfl] at h;obtain⟨u,q,h1,h2⟩:=then_ok h;obtain⟨hne,hq,_⟩:=bW h1;subst hq;obtain⟨s,c⟩:=ih f' (acc ++ [u]) l.tail v r (by omega) (uy hl hne) h2;refine⟨s.trans (List.tail_suffix l),fun hr=> ?_⟩;have hq:=fO s hr;rw [oM hq,ht,if_pos rfl,(dM (E:=E) (E':=E') l u l.tail h1).2 hq];exact c hr
  |false=>
   rw [ht,if_neg (by simp)] at h
   cases h;refine⟨List.suffix_refl _,fun hr=> ?_⟩;rw [qy hr ht,if_neg (by simp)]
theorem xI:Sim d m id (values idx E) (values idx E'):=by
 intro l v r h;exact vh (E':=E') (l.length+1) ((sh d l ++ m).length+1) [] l v r (by simp [sh]) (by omega) h
theorem uW:∀n acc,Sim d m id (aV idx E n acc) (aV idx E' n acc):=by
 intro n;induction n with
 |zero=>intro acc;exact Sim.done rfl
 |succ n ih=>intro acc;exact Sim.then dM (fun v=>ih (acc ++ [v]))
theorem Cg:∀f f' to args l v r,f≤f'→l.length < f→km idx E f to args l= .ok (v,r)→r <:+l∧(r≠ []→km idx E' f' to args (sh d l ++ m)= .ok (v,sh d r ++ m)):=by
 intro f;induction f with
 |zero=>intro f' to args l v r _ h;omega
 |succ f ih=>
  intro f' to args l v r hf hl h;obtain⟨f',rfl⟩:∃k,f'=k+1:=⟨f' - 1,by omega⟩;simp only [km] at h ⊢;by_cases hc:to= []∨bZ l=true
  ·rw [if_pos hc] at h;obtain⟨b,q,h1,h2⟩:=then_ok h;obtain⟨hne,hq,_⟩:=gZ h1;subst hq;obtain⟨u,q,h3,h4⟩:=then_ok h2;obtain⟨hne2,hq,_⟩:=bW h3;subst hq;obtain⟨s,c⟩:=ih f' (to ++ [b]) (args ++ [u]) l.tail.tail v r (by omega) (Nat.lt_of_le_of_lt (by simp) (uy hl hne)) h4;refine⟨(s.trans (List.tail_suffix _)).trans (List.tail_suffix l),fun hr=> ?_⟩;have hq:=fO s hr;rw [qe hne2,if_pos hc,(ka (E:=E) (E':=E') l b l.tail h1).2 hne2];show andThen (value idx E' (sh d l.tail ++ m)) _=_;rw [(dM (E:=E) (E':=E') l.tail u l.tail.tail h3).2 hq];exact c hr
  ·rw [if_neg hc] at h
   cases h;refine⟨List.suffix_refl _,fun hr=> ?_⟩;have h1:¬to= []:=fun e=>hc (.inl e);have h2:bZ l=false:=by
    cases e:bZ l with
    |true=>exact absurd (.inr e) hc
    |false=>rfl
   rw [if_neg (by rw [vU hr h2];simp [h1])]
theorem Ha:Sim d m id (phi idx E) (phi idx E'):=by
 intro l v r h;exact Cg (E':=E') (l.length+1) ((sh d l ++ m).length+1) [] [] l v r (by simp [sh]) (by omega) h
theorem CI:Sim d m id (sG idx E) (sG idx E'):=by
 intro l v r h;simp only [sG] at h ⊢
 cases ht:taken l with
 |true=>
  rw [ht,if_pos rfl] at h;obtain⟨s,c⟩:=Sim.then (k:=id) (G:=fun v=>done ((0,[v],[],[]):Opd)) (G':=fun v=>done ((0,[v],[],[]):Opd)) (dM (d:=d) (m:=m) (E:=E) (E':=E') (idx:=idx)) (fun v=>Sim.done rfl) l v r h;obtain⟨u,q,h1,h2⟩:=then_ok h;obtain⟨hne,hq,_⟩:=bW h1;subst hq;refine⟨s,fun hr=> ?_⟩;have:l.tail≠ []:=by cases h2;exact hr
  rw [oM this,ht,if_pos rfl];exact c hr
 |false=>
  rw [ht,if_neg (by simp)] at h
  cases h;refine⟨List.suffix_refl _,fun hr=> ?_⟩;rw [qy hr ht,if_neg (by simp)];rfl
theorem Fe:Sim d m id (spot idx E) (spot idx E'):=by
 intro l v r h;simp only [spot] at h ⊢;by_cases hc:(ah l).head? =some 64
 ·rw [if_pos hc] at h;obtain⟨hne,hq,_⟩:=mf h;obtain⟨s,c⟩:=mK (d:=d) (m:=m) (E:=E) (E':=E') l v r h;refine⟨s,fun hr=> ?_⟩;rw [fW hne,if_pos hc];exact c hr
 ·rw [if_neg hc] at h
  cases h;refine⟨List.suffix_refl _,fun hr=> ?_⟩;rw [fW hr,if_neg hc];rfl
theorem sM (hn:nam []=false) (hnum:(num []).2≠0) (hshp:shp []≠0) (op:Int):Sim d m id (operands num idx nam shp tks E op) (operands num idx nam shp tks E' op):=by
 unfold operands;by_cases h:op=1
 ·simp only [h,if_true];exact Sim.then (vG hnum) (fun _=>Sim.done rfl)
 simp only [h,if_false];clear h;by_cases h:op=29
 ·simp only [h,if_true];exact Sim.then (gm hnum) (fun _=>Sim.done rfl)
 simp only [h,if_false];clear h;by_cases h:op=10
 ·simp only [h,if_true];exact Sim.then (vO hshp) (fun _=>Sim.done rfl)
 simp only [h,if_false];clear h;by_cases h:op=20
 ·simp only [h,if_true];exact Sim.then Ha (fun _=>Sim.done rfl)
 simp only [h,if_false];clear h;by_cases h:op=21
 ·simp only [h,if_true];exact Sim.then Fe (fun _=>Sim.then (sW hn) (fun _=>Sim.then xI (fun _=>Sim.done rfl)))
 simp only [h,if_false];clear h;by_cases h:op=28
 ·simp only [h,if_true];exact CI
 simp only [h,if_false];clear h;by_cases h:op=11∨op=12∨op=15
 ·simp only [h,if_true];exact Sim.then dM (fun _=>Sim.then (gm hnum) (fun _=>Sim.done rfl))
 simp only [h,if_false];clear h;by_cases h:op=13∨op=14
 ·simp only [h,if_true];exact Sim.then dM (fun _=>Sim.then (gm hnum) (fun _=>Sim.then dM (fun _=>Sim.done rfl)))
 simp only [h,if_false];clear h;by_cases h:op=23
 ·simp only [h,if_true];exact Sim.then (gm hnum) (fun _=>Sim.done rfl)
 simp only [h,if_false];clear h;by_cases h:op=24
 ·simp only [h,if_true];exact Sim.then dM (fun _=>Sim.then (gm hnum) (fun _=>Sim.done rfl))
 simp only [h,if_false];clear h;by_cases h:op=26
 ·simp only [h,if_true];exact Sim.then ka (fun _=>Sim.done rfl)
 simp only [h,if_false];clear h;by_cases h:op=27
 ·simp only [h,if_true];exact Sim.then dM (fun _=>Sim.then ka (fun _=>Sim.then ka (fun _=>Sim.done rfl)))
 simp only [h,if_false];clear h;exact Sim.then (uW _ _) (fun _=>Sim.done rfl)
end
section
variable {d:Int} {m:List Tok} {E E':Int} {num:List UInt8→Int × Int} {idx:List UInt8→Int→Option Int} {nam:List UInt8→Bool} {shp:List UInt8→Int} {tks:Int→Nat} {fnd:List UInt8→Int × Int} {mks:Int→Int→Int} {prt:Nat→List UInt8→Bool}
theorem ng {i:Int} {o:Int × Int} {l r:List Tok} (hf:(fnd []).1=0) (h:oW fnd mks E i l= .ok (o,r)):l≠ []∧r=l.tail∧o=fnd (ah l)∧o.1≠0∧decide (mks o.1 o.2≠0)=decide (0≤i):=by
 obtain⟨h1,h2,h3⟩:=ep (by simp [hf]) h;split at h3
 ·cases h3
 ·rename_i hc
  cases h3;exact⟨h1,h2,rfl,fun e=>hc (.inl e),by
   by_cases e:decide (mks (fnd (ah l)).1 (fnd (ah l)).2≠0)=decide (0≤i)
   ·exact e
   ·exact absurd (.inr e) hc⟩
theorem eY {w:List UInt8} (hw:w≠ []) {u:Unit} {l r:List Tok} (h:want E w l= .ok (u,r)):l≠ []∧r=l.tail∧ah l=w:=by
 obtain⟨h1,h2,h3⟩:=ep (ki hw) h;refine⟨h1,h2,?_⟩;by_cases e:ah l=w
 ·exact e
 ·rw [if_neg e] at h3;cases h3
theorem uZ {i:Int} {l r:List Tok} (h:ident idx E l= .ok (i,r)):
  (bk l= [61]∧l≠ []∧mark idx 37 1048576 (ah l)=some i∧l.tail≠ []∧r=l.tail.tail∧value idx E l= .ok (i,l.tail)∧want E [61] l.tail= .ok ((),l.tail.tail))∨(bk l≠ [61]∧i= -1∧r=l):=by
 unfold ident at h;by_cases hc:bk l= [61]
 ·rw [if_pos hc] at h;obtain⟨v,q,h1,h2⟩:=then_ok h;obtain⟨hl,hq,hv⟩:=bW h1;subst hq;obtain⟨u,q,h3,h4⟩:=then_ok h2;obtain⟨hl2,hq,_⟩:=eY (by simp) h3;subst hq
  cases h4;exact .inl ⟨hc,hl,hv,hl2,rfl,h1,h3⟩
 ·rw [if_neg hc] at h
  cases h;exact .inr ⟨hc,rfl,rfl⟩
theorem xC (hf:(fnd []).1=0):sA (start idx fnd mks E):=by
 intro l v r h;obtain⟨i,q,h1,h2⟩:=then_ok h;obtain⟨o,q2,h3,h4⟩:=then_ok h2;obtain⟨hq,hq2,_⟩:=ng hf h3;subst hq2
 cases h4;rcases uZ h1 with ⟨_,hl,_,_,rfl,_⟩ | ⟨_,_,rfl⟩
 ·exact⟨hl,(List.tail_suffix _).trans (List.tail_suffix _)⟩
 ·exact⟨hq,List.suffix_refl _⟩
theorem vA (hn:nam []=false) (hnum:(num []).2≠0) (hshp:shp []≠0) (hf:(fnd []).1=0):sA (ux num idx nam shp tks fnd mks E):=by
 intro l v r h;obtain⟨x,q,h1,h2⟩:=then_ok h;obtain⟨hl,hs⟩:=xC hf l x q h1;obtain⟨y,q2,h3,h4⟩:=then_ok h2
 cases h4;exact⟨hl,((sM (d:=0) (m:= []) (E':=E) hn hnum hshp x.2.1) q y r h3).1.trans hs⟩
theorem J4 {r l:List Tok} (hl:l≠ []) (h:r <:+l.tail):r.length+1≤l.length:=by
 have:=h.length_le
 cases l with
 |nil=>exact absurd rfl hl
 |cons t q=>simp at *;omega
theorem rQ {k:Nat} {u:Unit} {l r:List Tok} (h:head prt E k l= .ok (u,r)):l≠ []∧r=l.tail∧k < 256:=by
 obtain⟨h1,h2,h3⟩:=ep (by simp) h;refine⟨h1,h2,?_⟩;split at h3
 ·cases h3
 ·rename_i hc;by_cases e:256≤k
  ·exact absurd (.inl e) hc
  ·omega
theorem E0:∀f f' acc l v r,f≤f'→l.length < f→pN E f acc l= .ok (v,r)→r <:+l∧(r≠ []→pN E' f' acc (sh d l ++ m)= .ok (v,sh d r ++ m)):=by
 intro f;induction f with
 |zero=>intro f' acc l v r _ h;omega
 |succ f ih=>
  intro f' acc l v r hff hl h;obtain⟨f',rfl⟩:∃k,f'=k+1:=⟨f' - 1,by omega⟩;simp only [pN] at h ⊢;by_cases hc:ah l= [41]
  ·rw [if_pos hc] at h
   cases h;exact⟨List.suffix_refl _,fun hr=>by rw [fW hr,if_pos hc]⟩
  ·rw [if_neg hc] at h;obtain⟨t,q,h1,h2⟩:=then_ok h;obtain⟨hne,hs⟩:=xi l t q h1;have hlen:=J4 hne hs;obtain⟨s,c⟩:=ih f' (acc ++ [t]) q v r (by omega) (by omega) h2;refine⟨(s.trans hs).trans (List.tail_suffix l),fun hr=> ?_⟩;have hq:=fO s hr;rw [fW hne,if_neg hc,(An (E:=E) (E':=E') l t q h1).2 hq];exact c hr
theorem xJ:Sim d m id (params E) (params E'):=by
 intro l v r h;exact E0 (E':=E') (l.length+1) ((sh d l ++ m).length+1) [] l v r (by simp [sh]) (by omega) h
end
def noI (x:Ins):Ins:=(x.1,x.2.1,x.2.2.1,x.2.2.2.1,x.2.2.2.2.1,x.2.2.2.2.2.1,x.2.2.2.2.2.2.1,0)
def noB (b:List Ins):List Ins:=b.map noI
def noF (f:Fun):Fun:=(f.1,f.2.1,f.2.2.1,f.2.2.2.1.map noB,0)
section
variable (dig:Int→List UInt8) (iw:Int→Int→List UInt8) (mks:Int→Int→Int)
variable (ltr:Int→List UInt8)
end
section
variable (nam:List UInt8→Bool) (shp:List UInt8→Int) (tks:Int→Nat)
variable (good:Int→Int→Bool) (mks:Int→Int→Int)
end
section
variable {E:Int} {num:List UInt8→Int × Int} {idx:List UInt8→Int→Option Int} {nam:List UInt8→Bool} {shp:List UInt8→Int} {tks:Int→Nat} {fnd:List UInt8→Int × Int} {mks:Int→Int→Int} {prt:Nat→List UInt8→Bool}
variable {dig:Int→List UInt8} {iw:Int→Int→List UInt8} {good:Int→Int→Bool} {ltr:Int→List UInt8}
def Ends (R:List Tok):Prop:=ah R= [125]∨(bk R= [58]∧(ah R).head? =some 98)
theorem Ends.stop {R:List Tok} (h:Ends R):ah R= [125]∨bk R= [58]:=by
 rcases h with h | h
 ·exact .inl h
 ·exact .inr h.1
end
end Go.Proofs.YtaiaakklokahjaaGreatDoor.G
namespace Go.Proofs.YtaiaakklokahjaaGreatDoor.L1
open Go.RowKit
def cJ (c:UInt8):Bool:=decide (48≤c.toNat) && decide (c.toNat≤57)
def worth (l:List UInt8):Nat:=l.foldl (fun a c=>a * 10+(c.toNat - 48)) 0
def isNum (l:List UInt8):Bool:= !l.isEmpty && l.all cJ && (l.head? != some 48 || l.length == 1)
theorem eu (c:UInt8):cJ c=true↔48≤c.toNat∧c.toNat≤57:=by simp [cJ]
theorem ta (l:List UInt8) (a:Nat):l.foldl (fun a c=>a * 10+(c.toNat - 48)) a=a * 10 ^ l.length+worth l:=by
 unfold worth;induction l generalizing a with
 |nil=>simp
 |cons c l ih=>
  simp only [List.foldl_cons,List.length_cons];rw [ih (a * 10+(c.toNat - 48)),ih (0 * 10+(c.toNat - 48))];rw [Nat.pow_succ,Nat.add_mul,Nat.zero_mul,Nat.zero_add,Nat.mul_assoc,Nat.mul_comm 10 (10 ^ l.length)];omega
theorem dQ (a b:List UInt8):worth (a ++ b)=worth a * 10 ^ b.length+worth b:=by
 show(a ++ b).foldl _ 0=_;rw [List.foldl_append,ta b];rfl
theorem j7 (c:UInt8):worth [c]=c.toNat - 48:=by simp [worth]
theorem iS (l:List UInt8) (c:UInt8):worth (l ++ [c])=worth l * 10+(c.toNat - 48):=by
 rw [dQ,j7];simp
def ju (l:List UInt8):Bool:=l.head? == some 45
def bF (l:List UInt8):List UInt8:=if ju l then l.tail else l
def aK (l:List UInt8):Int × Int:=
 if isNum (bF l)=true∧¬(ju l=true∧bF l= [48])then
  if ju l=true then(if worth (bF l)≤9223372036854775808 then(- (worth (bF l):Int),0)else(0,18))
  else(if worth (bF l)≤9223372036854775807 then((worth (bF l):Int),0)else(0,18))
 else(0,3)
def dq (l:List UInt8) (most:Int):Int × Int:=
 if(aK l).2≠0 then(0,(aK l).2)else if(aK l).1 < 0∨most < (aK l).1 then(0,18)else((aK l).1,0)
theorem kC (l:List UInt8): -9223372036854775808≤(aK l).1∧(aK l).1≤9223372036854775807:=by
 unfold aK;split
 ·split
  ·split
   ·simp only;omega
   ·simp
  ·split
   ·simp only;omega
   ·simp
 ·simp
theorem aa {p:Prop} (h:p):Hid p:=h
theorem aA {p:Prop} (h:Hid p):p:=h
theorem dL (c:UInt8) (k:Nat) (hk:k < 256):c.toNat=k↔c=UInt8.ofNat k:=by
 constructor
 ·intro h;apply UInt8.toNat_inj.1;rw [h];simp [UInt8.toNat_ofNat'];omega
 ·rintro rfl;simp [UInt8.toNat_ofNat'];omega
theorem zd (s:ByteArray) (h:0 < s.size):s.data.toList.head? =some s[0]:=by
 rw [List.head?_eq_getElem?,List.getElem?_eq_getElem (by simpa using h)];rfl
theorem bm (s:ByteArray):s.data.toList.length=s.size:=by simp
theorem dF (s:ByteArray) (h:s.size=0):s.toList.isEmpty=true∧s.data.toList= []:=by
 have:s.data.toList= []:=List.length_eq_zero_iff.1 (by rw [bm];exact h);exact⟨by rw [ByteArray.toList_eq,this];rfl,this⟩
theorem cC (s:ByteArray) (h:0 < s.size):s.toList.isEmpty=false∧s.data.toList.isEmpty=false:=by
 have:s.data.toList.isEmpty=false:=by
  cases e:s.data.toList with
  |nil=>have:=bm s;rw [e] at this;simp at this;omega
  |cons=>rfl
 exact⟨by rw [ByteArray.toList_eq,this],this⟩
def Dl (m:Int) (l:List UInt8):Int × Int:=if l.all cJ=true then(if(worth l:Int)≤m then((worth l:Int),0)else(0,18))else(0,3)
theorem eZ (s:ByteArray) (k:Nat) (h:k < s.size):s.data.toList.take (k+1)=s.data.toList.take k ++ [s[k]]:=by
 rw [List.take_succ_eq_append_getElem (by simpa using h)];rfl
theorem iu (s:ByteArray) (k:Nat) (h:¬k < s.size):s.data.toList.take k=s.data.toList:=List.take_of_length_le (by rw [bm];omega)
theorem zb {k:IntKind} {j:IntKind} {a b c d:Int} (h:a=b) (h':c=d):Ending.returned (.tuple #[.int k a,.int j c])= .returned (.tuple #[.int k b,.int j d]):=by rw [h,h']
theorem AM {m:Int} (s:ByteArray) (k:Nat) (hk:k < s.size) (hd:¬(48≤(s[k].toNat:Int)∧(s[k].toNat:Int)≤57)):Dl m s.data.toList=(0,3):=by
 unfold Dl;rw [if_neg];intro h;have:=(eu _).1 (List.all_eq_true.1 h s[k] (by
  have:s.data.toList[k]? =some s[k]:=by rw [List.getElem?_eq_getElem (by simpa using hk)];rfl
  exact List.mem_of_getElem? this))
 omega
theorem jV (l:List UInt8):isNum l=true↔l.isEmpty=false∧l.all cJ=true∧(l.head? ≠some 48∨l.length=1):=by
 simp only [isNum,Bool.and_eq_true,Bool.or_eq_true,bne_iff_ne,beq_iff_eq,Bool.not_eq_true'];exact⟨fun h=>⟨h.1.1,h.1.2,h.2⟩,fun h=>⟨⟨h.1,h.2.1⟩,h.2.2⟩⟩
theorem lY (l:List UInt8) (m:Int) (h:(aK l).2≠0):dq l m=(0,(aK l).2):=by unfold dq;rw [if_pos h]
theorem lC (l:List UInt8) (m:Int) (h:(aK l).2=0) (h1:(aK l).1 < 0∨m < (aK l).1):dq l m=(0,18):=by unfold dq;rw [if_neg (by simpa using h),if_pos h1]
theorem nz (l:List UInt8) (m:Int) (h:(aK l).2=0) (h1:¬((aK l).1 < 0∨m < (aK l).1)):dq l m=((aK l).1,0):=by unfold dq;rw [if_neg (by simpa using h),if_neg h1]
end Go.Proofs.YtaiaakklokahjaaGreatDoor.L1
