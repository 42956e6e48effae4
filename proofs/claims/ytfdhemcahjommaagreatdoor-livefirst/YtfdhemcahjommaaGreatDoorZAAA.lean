/- Texts of one chain, joined. -/
import Derived.WalkKit
import Derived.Laws.AppendOwn
import Derived.OwnWalk
import Derived.Lib.OthersKept
import Derived.Below
import Derived.Test.YtfdhemcahjommaaGreatDoorProg
import Derived.WalkSpells
import Derived.WalkSmall
import Derived.WalkLawsBesides
import Derived.KernelRfl
import Derived.Deep.QuietTactic
import Derived.BigQuiet
import Derived.RegionTactic
import Derived.BigRegion
import Derived.Deep.Cut
namespace Go.Proofs.YtfdhemcahjommaaGreatDoor.G
abbrev Tok:=List UInt8 × Int
abbrev Er:=Int × Int
abbrev Ins:=Int × Int × Int × Int × List Int × List Int × List UInt8 × Int
abbrev Fun:=List UInt8 × List Int × Int × List (List Ins) × Int
abbrev Rd (α:Type):=List Tok→Except Er (α × List Tok)
def andThen {α β:Type} (x:Except Er (α × List Tok)) (f:α→Rd β):Except Er (β × List Tok):=
 match x with
 |.ok (v,r)=>f v r
 |.error e=> .error e
def ak:List Tok→List UInt8
 |[]=> []
 |t :: _=>t.1
def br:List Tok→List UInt8
 |_ :: t :: _=>t.1
 |_=> []
def ft (E:Int):List Tok→Int
 |[]=>E
 |t :: _=>t.2
def one {α:Type} (f:List UInt8→Option α) (c:List UInt8→Int) (E:Int):Rd α:=fun l=>
 match f (ak l)with
 |some v=> .ok (v,l.tail)
 |none=> .error (c (ak l),ft E l)
def want (E:Int) (w:List UInt8):Rd Unit:=one (fun s=>if s=w then some ()else none) (fun _=>2) E
def name (nam:List UInt8→Bool) (E:Int):Rd (List UInt8):=one (fun s=>if nam s then some s else none) (fun _=>4) E
def mark (idx:List UInt8→Int→Option Int) (sign:UInt8) (most:Int) (s:List UInt8):Option Int:=
 match s with
 |x :: y :: r=>if x=sign then idx (y :: r) most else none
 |_=>none
def index (idx:List UInt8→Int→Option Int) (sign:UInt8) (most c E:Int):Rd Int:=one (mark idx sign most) (fun _=>c) E
def value (idx:List UInt8→Int→Option Int) (E:Int):Rd Int:=index idx 37 1048576 8 E
def label (idx:List UInt8→Int→Option Int) (E:Int):Rd Int:=index idx 98 255 7 E
def number (num:List UInt8→Int × Int) (E lo hi:Int):Rd Int:=
 one (fun s=>if(num s).2≠0∨(num s).1 < lo∨hi < (num s).1 then none else some (num s).1) (fun s=>if(num s).2≠0 then(num s).2 else 18) E
def kH (num:List UInt8→Int × Int) (E:Int):Rd Int:=one (fun s=>if(num s).2≠0 then none else some (num s).1) (fun s=>(num s).2) E
def shaped (shp:List UInt8→Int) (E:Int):Rd (List UInt8):=one (fun s=>if shp s≠0 then none else some s) shp E
def taken (l:List Tok):Bool:=(ak l).head? == some 37 && br l != [61]
def cg (l:List Tok):Bool:=(ak l).head? == some 98 && ak l != [98,114] && br l != [58]
def bQ (idx:List UInt8→Int→Option Int) (E:Int):Nat→List Int→Rd (List Int)
 |0,acc=>fun l=> .ok (acc,l)
 |f+1,acc=>fun l=>if taken l then andThen (value idx E l) fun v=>bQ idx E f (acc ++ [v])else .ok (acc,l)
def values (idx:List UInt8→Int→Option Int) (E:Int):Rd (List Int):=fun l=>bQ idx E (l.length+1) [] l
def aY (idx:List UInt8→Int→Option Int) (E:Int):Nat→List Int→Rd (List Int)
 |0,acc=>fun l=> .ok (acc,l)
 |f+1,acc=>fun l=>andThen (value idx E l) fun v=>aY idx E f (acc ++ [v])
def ku (idx:List UInt8→Int→Option Int) (E:Int):Nat→List Int→List Int→Rd (List Int × List Int)
 |0,to,args=>fun l=> .ok ((to,args),l)
 |f+1,to,args=>fun l=>
  if to= []∨cg l=true then andThen (label idx E l) fun b r=>andThen (value idx E r) fun v=>ku idx E f (to ++ [b]) (args ++ [v])
  else .ok ((to,args),l)
def phi (idx:List UInt8→Int→Option Int) (E:Int):Rd (List Int × List Int):=fun l=>ku idx E (l.length+1) [] [] l
abbrev Opd:=Int × List Int × List Int × List UInt8
def done {α:Type} (v:α):Rd α:=fun l=> .ok (v,l)
def sk (idx:List UInt8→Int→Option Int) (E:Int):Rd Opd:=fun l=>
 if taken l then andThen (value idx E l) fun v=>done (0,[v],[],[])else .ok ((0,[],[],[]),l)
def spot (idx:List UInt8→Int→Option Int) (E:Int):Rd Int:=fun l=>
 if(ak l).head? =some 64 then index idx 64 1048576 3 E l else .ok (0,l)
def ident (idx:List UInt8→Int→Option Int) (E:Int):Rd Int:=fun l=>
 if br l= [61] then andThen (value idx E l) fun v r=>andThen (want E [61] r) fun _=>done v else .ok (-1,l)
section
variable (num:List UInt8→Int × Int) (idx:List UInt8→Int→Option Int) (nam:List UInt8→Bool) (shp:List UInt8→Int) (tks:Int→Nat)
def operands (E op:Int):Rd Opd:=fun l=>
 if op=1 then andThen (kH num E l) fun x=>done (x,[],[],[])
 else if op=29 then andThen (number num E 0 255 l) fun x=>done (x,[],[],[])
 else if op=10 then andThen (shaped shp E l) fun s=>done (0,[],[],s)
 else if op=20 then andThen (phi idx E l) fun x=>done (0,x.2,x.1,[])
 else if op=21 then andThen (spot idx E l) fun n r=>andThen (name nam E r) fun s r=>andThen (values idx E r) fun a=>done (n,a,[],s)
 else if op=28 then sk idx E l
 else if op=11∨op=12∨op=15 then andThen (value idx E l) fun v r=>andThen (number num E 0 15 r) fun x=>done (x,[v],[],[])
 else if op=13∨op=14 then andThen (value idx E l) fun v r=>andThen (number num E 0 15 r) fun x r=>andThen (value idx E r) fun u=>done (x,[v,u],[],[])
 else if op=23 then andThen (number num E 0 1048576 l) fun x=>done (x,[],[],[])
 else if op=24 then andThen (value idx E l) fun v r=>andThen (number num E 0 1048576 r) fun x=>done (x,[v],[],[])
 else if op=26 then andThen (label idx E l) fun b=>done (0,[],[b],[])
 else if op=27 then andThen (value idx E l) fun v r=>andThen (label idx E r) fun b r=>andThen (label idx E r) fun c=>done (0,[v],[b,c],[])
 else andThen (aY idx E (tks op) [] l) fun a=>done (0,a,[],[])
variable (fnd:List UInt8→Int × Int) (mks:Int→Int→Int) (prt:Nat→List UInt8→Bool)
def oS (E id:Int):Rd (Int × Int):=
 one (fun s=>if(fnd s).1=0∨decide (mks (fnd s).1 (fnd s).2≠0)≠decide (0≤id)then none else some (fnd s)) (fun s=>if(fnd s).1=0 then 2 else 8) E
def start (E:Int):Rd (Int × Int × Int):=fun l=>andThen (ident idx E l) fun i r=>andThen (oS fnd mks E i r) fun o=>done (i,o.1,o.2)
def Dz (E a:Int):Rd Ins:=fun l=>
 andThen (start idx fnd mks E l) fun x r=>andThen (operands num idx nam shp tks E x.2.1 r) fun y=>done (x.2.1,x.1,y.1,x.2.2,y.2.1,y.2.2.1,y.2.2.2,a)
def um (E:Int):Rd Ins:=fun l=>Dz num idx nam shp tks fnd mks E (ft E l) l
def rW (E:Int):Nat→Nat→List Ins→Rd (List Ins × Nat)
 |0,n,acc=>fun l=> .ok ((acc,n),l)
 |f+1,n,acc=>fun l=>
  if ak l= [125]∨br l= [58] then .ok ((acc,n),l)
  else if 4096≤n then .error (6,ft E l)
  else andThen (um num idx nam shp tks fnd mks E l) fun x=>rW E f (n+1) (acc ++ [x])
def body (E:Int) (n:Nat):Rd (List Ins × Nat):=fun l=>rW num idx nam shp tks fnd mks E (l.length+1) n [] l
def head (E:Int) (k:Nat):Rd Unit:=one (fun s=>if 256≤k∨s= []∨prt k s=false then none else some ()) (fun _=>if 256≤k then 6 else 7) E
def block (E:Int) (k n:Nat):Rd (List Ins × Nat):=fun l=>
 andThen (head prt E k l) fun _ r=>andThen (want E [58] r) fun _=>body num idx nam shp tks fnd mks E n
def rK (E:Int):Nat→Nat→List (List Ins)→Rd (List (List Ins) × Nat)
 |0,n,acc=>fun l=> .ok ((acc,n),l)
 |f+1,n,acc=>fun l=>
  if ak l= [125] then .ok ((acc,n),l)
  else andThen (block num idx nam shp tks fnd mks prt E acc.length n l) fun x=>rK E f x.2 (acc ++ [x.1])
def blocks (E:Int) (n:Nat):Rd (List (List Ins) × Nat):=fun l=>rK num idx nam shp tks fnd mks prt E (l.length+1) n [] l
def kind (s:List UInt8):Int:=if s= [110] then 0 else if s= [105] then 1 else if s= [112] then 2 else -1
def param (E:Int) (k:Nat):Rd Int:=one (fun s=>if kind s < 1∨8≤k then none else some (kind s)) (fun s=>if kind s < 1 then 9 else 6) E
def qf (E:Int):Nat→List Int→Rd (List Int)
 |0,acc=>fun l=> .ok (acc,l)
 |f+1,acc=>fun l=>if ak l= [41] then .ok (acc,l)else andThen (param E acc.length l) fun t=>qf E f (acc ++ [t])
def params (E:Int):Rd (List Int):=fun l=>qf E (l.length+1) [] l
def answer (E:Int):Rd Int:=one (fun s=>if kind s < 0 then none else some (kind s)) (fun _=>9) E
def function (E:Int) (n:Nat):Rd (Fun × Nat):=fun l=>
 andThen (want E [102,117,110,99] l) fun _ r=>andThen (name nam E r) fun s r=>andThen (want E [40] r) fun _ r=>andThen (params E r) fun p r=>andThen (want E [41] r) fun _ r=>
 andThen (answer E r) fun t r=>andThen (want E [123] r) fun _ r=>andThen (blocks num idx nam shp tks fnd mks prt E n r) fun b r=>andThen (want E [125] r) fun _=>done ((s,p,t,b.1,ft E l),b.2)
def sX (E:Int):Nat→Nat→List Fun→Rd (List Fun × Nat)
 |0,n,acc=>fun l=> .ok ((acc,n),l)
 |f+1,n,acc=>fun l=>
  if l= [] then .ok ((acc,n),l)
  else if 32≤acc.length then .error (6,ft E l)
  else andThen (function num idx nam shp tks fnd mks prt E n l) fun x=>sX E f x.2 (acc ++ [x.1])
def program (E:Int):Rd (List Fun × Nat):=fun l=>sX num idx nam shp tks fnd mks prt E (l.length+1) 0 [] l
end
def sh (d:Int) (l:List Tok):List Tok:=l.map fun t=>(t.1,t.2+d)
theorem gH {d:Int} {l m:List Tok} (h:l≠ []):ak (sh d l ++ m)=ak l:=by
 cases l with
 |nil=>exact absurd rfl h
 |cons t r=>rfl
theorem tX {d:Int} {l m:List Tok} (h:l.tail≠ []):br (sh d l ++ m)=br l:=by
 match l,h with
 |a :: b :: r,_=>rfl
 |[_],h=>exact absurd rfl h
 |[],h=>exact absurd rfl h
theorem FA {d:Int} {l m:List Tok} (h:l≠ []):(sh d l ++ m).tail=sh d l.tail ++ m:=by
 cases l with
 |nil=>exact absurd rfl h
 |cons t r=>rfl
theorem n9 {l:List Tok} (h:l.tail≠ []):l≠ []:=fun e=>by subst e;exact h rfl
theorem fR {r l:List Tok} (h:r <:+l) (hr:r≠ []):l≠ []:=fun e=>by
 subst e;exact hr (List.eq_nil_of_suffix_nil h)
def Sim {α β:Type} (d:Int) (m:List Tok) (g:α→β) (F:Rd α) (F':Rd β):Prop:=
 ∀l v r,F l= .ok (v,r)→r <:+l∧(r≠ []→F' (sh d l ++ m)= .ok (g v,sh d r ++ m))
def rV {α:Type} (F:Rd α):Prop:=∀l v r,F l= .ok (v,r)→l≠ []∧r <:+l.tail
theorem Sim.done {α β:Type} {d:Int} {m:List Tok} {g:α→β} {v:α} {v':β} (h:g v=v'):Sim d m g (done v) (done v'):=by
 intro l u r h1
 cases h1;exact⟨List.suffix_refl _,fun _=>by rw [h];rfl⟩
theorem Sim.then {α β γ δ:Type} {d:Int} {m:List Tok} {g:α→β} {k:γ→δ} {F:Rd α} {F':Rd β} {G:α→Rd γ} {G':β→Rd δ} (hF:Sim d m g F F') (hG:∀v,Sim d m k (G v) (G' (g v))):
  Sim d m k (fun l=>andThen (F l) G) (fun l=>andThen (F' l) G'):=by
 intro l v r h;replace h:andThen (F l) G= .ok (v,r):=h
 cases e:F l with
 |error x=>rw [e] at h;cases h
 |ok p=>
  obtain⟨u,q⟩:=p;rw [e] at h;obtain⟨s1,c1⟩:=hF l u q e;obtain⟨s2,c2⟩:=hG u q v r h;refine⟨s2.trans s1,fun hr=> ?_⟩;show andThen (F' (sh d l ++ m)) G'=_;rw [c1 (fR s2 hr)];exact c2 hr
theorem eI {α:Type} {f:List UInt8→Option α} {c:List UInt8→Int} {E:Int} (h0:f []=none) {l r:List Tok} {v:α} (h:one f c E l= .ok (v,r)):l≠ []∧r=l.tail∧f (ak l)=some v:=by
 unfold one at h
 cases e:f (ak l)with
 |none=>rw [e] at h;cases h
 |some u=>
  rw [e] at h
  cases h;refine⟨fun e2=> ?_,rfl,rfl⟩;subst e2;exact absurd (h0.symm.trans e) (by simp)
theorem Sim.one {α:Type} {d:Int} {m:List Tok} {f:List UInt8→Option α} {c c':List UInt8→Int} {E E':Int} (h0:f []=none):Sim d m id (one f c E) (one f c' E'):=by
 intro l v r h;obtain⟨hl,rfl,hv⟩:=eI h0 h;refine⟨List.tail_suffix l,fun _=> ?_⟩;unfold G.one;rw [gH hl,hv,FA hl];rfl
theorem rV.one {α:Type} {f:List UInt8→Option α} {c:List UInt8→Int} {E:Int} (h0:f []=none):rV (one f c E):=by
 intro l v r h;obtain⟨hl,rfl,_⟩:=eI h0 h;exact⟨hl,List.suffix_refl _⟩
theorem rV.then {α β:Type} {F:Rd α} {G:α→Rd β} (hF:rV F) (hG:∀v l u r,G v l= .ok (u,r)→r <:+l):rV (fun l=>andThen (F l) G):=by
 intro l v r h;replace h:andThen (F l) G= .ok (v,r):=h
 cases e:F l with
 |error x=>rw [e] at h;cases h
 |ok p=>
  obtain⟨u,q⟩:=p;rw [e] at h;obtain⟨h1,h2⟩:=hF l u q e;exact⟨h1,(hG u q v r h).trans h2⟩
section
variable {d:Int} {m:List Tok} {E E':Int} {num:List UInt8→Int × Int} {idx:List UInt8→Int→Option Int} {nam:List UInt8→Bool} {shp:List UInt8→Int} {tks:Int→Nat} {fnd:List UInt8→Int × Int} {mks:Int→Int→Int} {prt:Nat→List UInt8→Bool}
theorem kp {w:List UInt8} (hw:w≠ []):(fun s=>if s=w then some ()else none) ([]:List UInt8)=none:=by
 show(if []=w then some ()else none)=none;rw [if_neg (fun e=>hw e.symm)]
theorem lK {w:List UInt8} (hw:w≠ []):Sim d m id (want E w) (want E' w):=Sim.one (kp hw)
theorem m8 {sign:UInt8} {most c:Int}:Sim d m id (index idx sign most c E) (index idx sign most c E'):=Sim.one (f:=mark idx sign most) rfl
theorem lI {sign:UInt8} {most c n:Int} {l r:List Tok} (h:index idx sign most c E l= .ok (n,r)):l≠ []∧r=l.tail∧mark idx sign most (ak l)=some n:=eI (f:=mark idx sign most) rfl h
theorem bZ {n:Int} {l r:List Tok} (h:value idx E l= .ok (n,r)):l≠ []∧r=l.tail∧mark idx 37 1048576 (ak l)=some n:=lI h
theorem ik {n:Int} {l r:List Tok} (h:label idx E l= .ok (n,r)):l≠ []∧r=l.tail∧mark idx 98 255 (ak l)=some n:=lI h
theorem dZ:Sim d m id (value idx E) (value idx E'):=m8
theorem ka:Sim d m id (label idx E) (label idx E'):=m8
theorem sY (hn:nam []=false):Sim d m id (name nam E) (name nam E'):=Sim.one (by simp [hn])
theorem gN {lo hi:Int} (hn:(num []).2≠0):Sim d m id (number num E lo hi) (number num E' lo hi):=Sim.one (by simp [hn])
theorem xJ (hn:(num []).2≠0):Sim d m id (kH num E) (kH num E'):=Sim.one (by simp [hn])
theorem wW (hn:shp []≠0):Sim d m id (shaped shp E) (shaped shp E'):=Sim.one (by simp [hn])
theorem Be {k:Nat}:Sim d m id (param E k) (param E' k):=Sim.one (by simp [kind])
theorem xR {k:Nat}:rV (param E k):=rV.one (by simp [kind])
theorem we:Sim d m id (answer E) (answer E'):=Sim.one (by simp [kind])
end
end Go.Proofs.YtfdhemcahjommaaGreatDoor.G
namespace Go.Proofs.YtfdhemcahjommaaGreatDoor
open Go Go.RowKit
open G (Tok Er Ins Fun ak br ft)
theorem ae {p:Prop} (h:p):Hid p:=h
def bs (l:List UInt8):ByteArray:=⟨l.toArray⟩
theorem eM (l:List UInt8):(bs l).data.toList=l:=by simp [bs]
theorem bI (l:List UInt8):(bs l).size=l.length:=by simp [bs,ByteArray.size]
theorem Is (s:ByteArray):bs s.data.toList=s:=by cases s;simp [bs]
def W80 (w w':World):Prop:=∀(k:Nat) (cs:Array Value) (fz:Nat × Nat),w.heap[k]? =some (.cells cs 2997152 fz)→w'.heap[k]? =some (.cells cs 2997152 fz)
def A0 (a:Nat) (w w':World):Prop:=∀v,w.cell? ⟨a,0,none⟩=some v→w'.cell? ⟨a,0,none⟩=some v
def Kp (B a:Nat) (w w':World):Prop:=(w'.os=w.os∧W80 w w')∧w'.tape=w.tape∧(w'.output=w.output∧A0 a w w')∧w.heap.size≤w'.heap.size∧∀k,k < B→k≠a→w'.heap[k]? =w.heap[k]?
theorem Kp.refl (B a:Nat) (w:World):Kp B a w w:=⟨⟨rfl,fun _ _ _ h=>h⟩,rfl,⟨rfl,fun _ h=>h⟩,Nat.le_refl _,fun _ _ _=>rfl⟩
theorem Kp.trans {B a:Nat} {u v w:World} (h:Kp B a u v) (k:Kp B a v w):Kp B a u w:=
 ⟨⟨k.1.1.trans h.1.1,fun i cs fz e=>k.1.2 i cs fz (h.1.2 i cs fz e)⟩,k.2.1.trans h.2.1,⟨k.2.2.1.1.trans h.2.2.1.1,fun x e=>k.2.2.1.2 x (h.2.2.1.2 x e)⟩,Nat.le_trans h.2.2.2.1 k.2.2.2.1,fun i h1 h2=>(k.2.2.2.2 i h1 h2).trans (h.2.2.2.2 i h1 h2)⟩
theorem Kp.mono {B B' a:Nat} {u v:World} (h:Kp B a u v) (hB:B'≤B):Kp B' a u v:=⟨h.1,h.2.1,h.2.2.1,h.2.2.2.1,fun i h1=>h.2.2.2.2 i (Nat.lt_of_lt_of_le h1 hB)⟩
theorem Kp.size {B a:Nat} {u v:World} (h:Kp B a u v):u.heap.size≤v.heap.size:=h.2.2.2.1
theorem Kp.zG {B a:Nat} {u v:World} (h:Below u.heap.size u v) (hB:B≤u.heap.size):Kp B a u v:=
 ⟨⟨h.os,fun k cs fz e=>(h.block k (Array.getElem?_eq_some_iff.1 e).1).trans e⟩,h.tape,⟨h.output,fun x e=>(h.cell (p:=⟨a,0,none⟩) (World.block_lt_of_cell? u _ e)).trans e⟩,h.size,fun i h1 _=>h.block i (by omega)⟩
theorem Kp.below {B a:Nat} {u v:World} (h:Kp B a u v) (ha:B≤a):Below B u v:=⟨h.1.1,h.2.1,h.2.2.1.1,h.2.2.2.1,fun i h1=>h.2.2.2.2 i h1 (by omega)⟩
theorem Kp.alloc {B a:Nat} {u w:World} (h:Kp B a u w) (hB:B≤w.heap.size) (o:Obj):Kp B a u (w.alloc o):=
 h.trans (Kp.zG ((Below.refl _ w).alloc (Nat.le_refl _) o) hB)
def N80 (u w:World) (q:Nat):Prop:=u.heap.size≤q∨∀(cs:Array Value) (fz:Nat × Nat),w.heap[q]? ≠some (.cells cs 2997152 fz)
theorem Kp.setCell {B a:Nat} {u w:World} (h:Kp B a u w) {p:Addr} (hp:(p.block=a∧p.off≠0)∨(B≤p.block∧p.block≠a)) (hn:N80 u w p.block) (x:Value):Kp B a u (w.setCell p x):=by
 have hb:=(Below.refl 0 w).setCell (Nat.zero_le p.block) x;refine⟨⟨hb.os.trans h.1.1,fun k cs fz e=> ?_⟩,hb.tape.trans h.2.1,⟨hb.output.trans h.2.2.1.1,fun v e=> ?_⟩,Nat.le_trans h.size hb.size,fun k h1 h2=>(Below.heap_setCell w p x k (by omega)).trans (h.2.2.2.2 k h1 h2)⟩
 ·have e2:=h.1.2 k cs fz e;rw [Below.heap_setCell w p x k ?_]
  ·exact e2
  ·intro hk;rcases hn with hn | hn
   ·have:=(Array.getElem?_eq_some_iff.1 e).1;omega
   ·rw [hk] at e2;exact hn cs fz e2
 ·rw [World.cell?_setCell_other _ _ _ _ ?_]
  ·exact h.2.2.1.2 v e
  ·intro e2;subst e2;rcases hp with hp | hp
   ·exact hp.2 rfl
   ·exact hp.2 rfl
theorem Kp.grown {B a:Nat} {u w w':World} {row:Option Nat} (h:Kp B a u w) (hg:w.grownBy w' row) (hB:B≤w.heap.size) (hr:∀k,row=some k→B≤k∧k≠a) (hn:∀k,row=some k→N80 u w k):Kp B a u w':=by
 refine⟨⟨hg.os.trans h.1.1,fun k cs fz e=> ?_⟩,hg.tape.trans h.2.1,⟨hg.output.trans h.2.2.1.1,fun v e=> ?_⟩,Nat.le_trans h.size hg.size,fun k h1 h2=>(hg.block k (by omega) (fun e=>by have:=hr k e.symm;omega)).trans (h.2.2.2.2 k h1 h2)⟩
 ·have e2:=h.1.2 k cs fz e;rw [hg.block k (Array.getElem?_eq_some_iff.1 e2).1 ?_]
  ·exact e2
  ·intro hk;rcases hn k hk.symm with hn | hn
   ·have:=(Array.getElem?_eq_some_iff.1 e).1;omega
   ·exact hn cs fz e2
 ·exact hg.cell (h.2.2.1.2 v e) (fun e2=>(hr a e2.symm).2 rfl)
theorem Kp.own {B a b e s n:Nat} {v:Value} {xs:List Value} {u w:World} (h:Kp B a u w) (ho:u.ownsRow b e s v n xs) (hv:∀g,v.ownBlock=some g→g < B∧g≠a):w.ownsRow b e s v n xs:=by
 refine⟨ho.1,?_⟩;rcases ho.2 with hn | ⟨g,cap,cur,hv2,hb,hg,rest⟩
 ·exact .inl hn
 ·have:=hv g (by rw [hv2];rfl);exact .inr ⟨g,cap,cur,hv2,hb,(h.2.2.2.2 g this.1 this.2).trans hg,rest⟩
theorem aO {b b' e s n:Nat} {v:Value} {xs:List Value} {w:World} (h:w.ownsRow b e s v n xs) (hb:b'≤b):w.ownsRow b' e s v n xs:=by
 refine⟨h.1,?_⟩;rcases h.2 with hn | ⟨g,cap,cur,hv2,hb2,rest⟩
 ·exact .inl hn
 ·exact .inr ⟨g,cap,cur,hv2,by omega,rest⟩
theorem cU {b e s n:Nat} {v:Value} {xs:List Value} {w:World} (h:w.ownsRow b e s v n xs) {g:Nat} (hg:v.ownBlock=some g):∃c,w.heap[g]? =some (.cells c e (0,0)):=by
 rcases h.2 with ⟨rfl,_⟩ | ⟨g',cap,cur,rfl,_,hh,_⟩
 ·simp [Value.ownBlock] at hg
 ·simp [Value.ownBlock] at hg;subst hg;exact⟨cur,hh⟩
theorem bw {b e s n g:Nat} {v:Value} {xs:List Value} {w:World} (h:w.ownsRow b e s v n xs) {c:Array Value} {t:TypeId} {fz:Nat × Nat} (hg:w.heap[g]? =some (.cells c t fz)) (ht:t≠e):v.ownBlock≠some g:=by
 intro hv;obtain⟨c2,h2⟩:=cU h hv;rw [hg] at h2;simp at h2;exact ht h2.2.1
theorem Bn {b e s n b2 e2 s2 n2:Nat} {v v2:Value} {xs xs2:List Value} {w:World} (h:w.ownsRow b e s v n xs) (h2:w.ownsRow b2 e2 s2 v2 n2 xs2) (ht:e≠e2):v.ownBlock=none∨v.ownBlock≠v2.ownBlock:=by
 cases hv:v.ownBlock with
 |none=>exact .inl rfl
 |some g=>
  refine .inr fun e=> ?_;obtain⟨c,hc⟩:=cU h hv;exact bw h2 hc ht e.symm
def jd:List Tok→List Value
 |[]=> []
 |t :: r=> .string (bs t.1) :: .int .i64 t.2 :: jd r
theorem rp:∀(L:List Tok) (j:Nat) (t:Tok),L[j]? =some t→(jd L)[2 * j]? =some (.string (bs t.1))∧(jd L)[2 * j+1]? =some (.int .i64 t.2):=by
 intro L;induction L with
 |nil=>intro j t h;simp at h
 |cons x r ih=>
  intro j t h
  cases j with
  |zero=>simp at h;subst h;exact⟨rfl,rfl⟩
  |succ j=>
   simp at h;have:=ih j t h;rw [show 2 * (j+1)=2 * j+1+1 by omega];simpa [jd] using this
def Rdr (B a:Nat) (L:List Tok) (E:Int) (n:Nat) (l:List Tok) (w:World):Prop:=
 ∃v,w.heap[a]? =some (.cells #[v,.int .i64 ((L.length - l.length:Nat):Int),.int .i64 E,.int .i64 (n:Int)] 2997075 (0,0))∧w.ownsRow 0 134 2 v L.length (jd L)∧
  a < B∧(∀g,v.ownBlock=some g→g < B)∧l <:+L∧(L.length≤131072∧∀t∈L,t.1.length≤65536)∧n≤4096∧B≤w.heap.size
theorem Rdr.mono {B B' a:Nat} {L:List Tok} {E:Int} {n:Nat} {l:List Tok} {w:World} (h:Rdr B a L E n l w) (hB:B≤B') (hw:B'≤w.heap.size):Rdr B' a L E n l w:=by
 obtain⟨v,h1,h2,h3,h4,h5,h6,h7,h8⟩:=h;exact⟨v,h1,h2,by omega,fun g hg=>Nat.lt_of_lt_of_le (h4 g hg) hB,h5,h6,h7,hw⟩
theorem Rdr.keep {B a:Nat} {L:List Tok} {E:Int} {n:Nat} {l:List Tok} {w w':World} (h:Rdr B a L E n l w) (hs:w.heap.size≤w'.heap.size) (hb:∀k,k < B→w'.heap[k]? =w.heap[k]?):Rdr B a L E n l w':=by
 obtain⟨v,h1,h2,h3,h4,h5,h6,h7,h8⟩:=h;refine⟨v,(hb a h3).trans h1,?_,h3,h4,h5,h6,h7,by omega⟩;refine⟨h2.1,?_⟩;rcases h2.2 with hn | ⟨g,cap,cur,hv2,hbb,hg,rest⟩
 ·exact .inl hn
 ·exact .inr ⟨g,cap,cur,hv2,hbb,(hb g (h4 g (by rw [hv2];rfl))).trans hg,rest⟩
theorem Rdr.below {B a:Nat} {L:List Tok} {E:Int} {n:Nat} {l:List Tok} {w w':World} (h:Rdr B a L E n l w) (hb:Below B w w'):Rdr B a L E n l w':=h.keep hb.size hb.block
theorem Rdr.size {B a:Nat} {L:List Tok} {E:Int} {n:Nat} {l:List Tok} {w:World} (h:Rdr B a L E n l w):B≤w.heap.size:=by
 obtain⟨v,h1,h2,h3,h4,h5,h6,h7,h8⟩:=h;exact h8
theorem Rdr.short {B a:Nat} {L:List Tok} {E:Int} {n:Nat} {l:List Tok} {w:World} (h:Rdr B a L E n l w):(ak l).length≤65536:=by
 obtain⟨v,h1,h2,h3,h4,h5,h6,h7,h8⟩:=h
 cases l with
 |nil=>simp [ak]
 |cons t r=>exact h6.2 t (h5.subset (by simp))
theorem Rdr.cells {B a:Nat} {L:List Tok} {E:Int} {n:Nat} {l:List Tok} {w:World} (h:Rdr B a L E n l w):
  a < w.heap.size∧∃v,w.cell? ⟨a,0,none⟩=some v∧w.cell? ⟨a,1,none⟩=some (.int .i64 ((L.length - l.length:Nat):Int))∧w.cell? ⟨a,2,none⟩=some (.int .i64 E)∧w.cell? ⟨a,3,none⟩=some (.int .i64 (n:Int))∧
   w.frozen? ⟨a,0,none⟩=false∧w.frozen? ⟨a,1,none⟩=false∧w.frozen? ⟨a,2,none⟩=false∧w.frozen? ⟨a,3,none⟩=false∧
   ((v= .slice none 0 0∧L= [])∨∃g cap,v= .slice (some ⟨g,0,none⟩) L.length cap∧L.length≤cap∧cap≤maxLen∧(∀j t,L[j]? =some t→w.cell? ⟨g,j * 2,none⟩=some (.string (bs t.1))∧w.cell? ⟨g,j * 2+1,none⟩=some (.int .i64 t.2))∧∀j,w.frozen? ⟨g,j,none⟩=false):=by
 obtain⟨v,h1,h2,h3,h4,h5,h6,h7,h8⟩:=h;refine⟨by omega,v,by simp [World.cell?,h1],by simp [World.cell?,h1],by simp [World.cell?,h1],by simp [World.cell?,h1],by simp [World.frozen?,h1],by simp [World.frozen?,h1],by simp [World.frozen?,h1],by simp [World.frozen?,h1],?_⟩;rcases h2.2 with ⟨hv,hn⟩ | ⟨g,cap,cur,hv2,hbb,hg,hc1,hc2,hc3,hc4⟩
 ·exact .inl ⟨hv,List.length_eq_zero_iff.1 hn⟩
 ·refine .inr ⟨g,cap,hv2,hc1,hc2,?_,?_⟩
  ·intro j t hj;have hc:=h2.cells (g:=g) (by rw [hv2];rfl);obtain⟨k1,k2⟩:=rp L j t hj;have e1:=hc _ _ k1;have e2:=hc _ _ k2;rw [Addr.add_lit,Nat.zero_add,Nat.mul_comm] at e1 e2;exact⟨e1,e2⟩
  ·intro j;simp [World.frozen?,hg]
def iF (w:World) (g:Nat) (a b:Value):Prop:=
 w.cell? ⟨g,0,none⟩=some a∧w.cell? ⟨g,1,none⟩=some b∧w.frozen? ⟨g,0,none⟩=false∧w.frozen? ⟨g,1,none⟩=false∧g < w.heap.size
theorem iF.new (w:World) (t:TypeId) {a b:Value}:iF (w.alloc (.cells #[a,b] t)) w.heap.size a b:=by
 refine⟨?_,?_,?_,?_,by simp⟩ <;> simp [go_sem]
theorem iF.below {w w1:World} {g:Nat} {a b:Value} (h:iF w g a b) (hb:Below w.heap.size w w1):iF w1 g a b:=by
 obtain⟨c0,c1,f0,f1,z⟩:=h;exact⟨(hb.cell z).trans c0,(hb.cell z).trans c1,(hb.frozen z).trans f0,(hb.frozen z).trans f1,Nat.lt_of_lt_of_le z hb.size⟩
theorem iF.kept {B a:Nat} {w w1:World} {g:Nat} {x y:Value} (h:iF w g x y) (hb:Kp B a w w1) (hg:g < B) (ha:g≠a):iF w1 g x y:=by
 obtain⟨c0,c1,f0,f1,z⟩:=h;have e:=hb.2.2.2.2 g hg ha;exact⟨(World.cell?_of_block e).trans c0,(World.cell?_of_block e).trans c1,(World.frozen?_of_block e).trans f0,(World.frozen?_of_block e).trans f1,Nat.lt_of_lt_of_le z hb.size⟩
theorem ag (w:World) (o:Obj):Below w.heap.size w (w.alloc o):=(Below.refl _ _).alloc (Nat.le_refl _) _
theorem af {a b c:World} (h:Below a.heap.size a b) (k:Below b.heap.size b c):Below a.heap.size a c:=h.trans (k.mono h.size)
theorem Rdr.step {B a:Nat} {L:List Tok} {E:Int} {n:Nat} {l:List Tok} {w w':World} (h:Rdr B a L E n l w) (hb:Below w.heap.size w w'):Rdr B a L E n l w':=h.below (hb.mono h.size)
theorem Rdr.word {L l:List Tok} (h:l <:+L) (i:Nat):L[L.length - l.length+i]? =l[i]? :=by
 obtain⟨p,rfl⟩:=h;rw [List.getElem?_append_right (by simp)];congr 1
 simp
def gD (c:UInt8) (l:List UInt8):Bool:=l.head? == some c
theorem ax {a b:Bool} (h:a=b):Ending.returned (.bool a)= .returned (.bool b):=by rw [h]
theorem CY (s:ByteArray) (a b:Nat):(s.extract a b).data.toList=(s.data.toList.drop a).take (b - a):=by
 simp [ByteArray.data_extract,Array.toList_extract]
def IQ (c p:Int):Ending:= .panicked [{v:= .iface 55 (.agg #[.int .i64 c,.int .i64 p]),recovered:=false}]
end Go.Proofs.YtfdhemcahjommaaGreatDoor
namespace Go.Proofs.YtfdhemcahjommaaGreatDoor.G
theorem then_ok {α β:Type} {x:Except Er (α × List Tok)} {f:α→Rd β} {y:β × List Tok} (h:andThen x f= .ok y):∃v q,x= .ok (v,q)∧f v q= .ok y:=by
 cases x with
 |error e=>cases h
 |ok p=>exact⟨p.1,p.2,rfl,h⟩
theorem tR {l:List Tok} {f:Nat} (h:l.length < f+1) (hl:l≠ []):l.tail.length < f:=by
 cases l with
 |nil=>exact absurd rfl hl
 |cons t r=>simp at *;omega
section
variable {d:Int} {m:List Tok} {E E':Int} {num:List UInt8→Int × Int} {idx:List UInt8→Int→Option Int} {nam:List UInt8→Bool} {shp:List UInt8→Int} {tks:Int→Nat} {fnd:List UInt8→Int × Int} {mks:Int→Int→Int} {prt:Nat→List UInt8→Bool}
theorem ph {l:List Tok} (h:l.tail≠ []):taken (sh d l ++ m)=taken l:=by
 unfold taken;rw [gH (n9 h),tX h]
theorem qj {l:List Tok} (hl:l≠ []) (h:taken l=false):taken (sh d l ++ m)=false:=by
 by_cases ht:l.tail= []
 ·match l,hl,ht with
  |[x],_,_=>
   have h1:(x.1.head? == some 37 && ([]:List UInt8) != [61])=false:=h;have h2:(x.1.head? == some 37)=false:=(by simpa using h1);show(x.1.head? == some 37 && br (sh d [x] ++ m) != [61])=false;rw [h2];rfl
 ·rw [ph ht];exact h
theorem qC {l:List Tok} (h:l.tail≠ []):cg (sh d l ++ m)=cg l:=by
 unfold cg;rw [gH (n9 h),tX h]
theorem vE {l:List Tok} (hl:l≠ []) (h:cg l=false):cg (sh d l ++ m)=false:=by
 by_cases ht:l.tail= []
 ·match l,hl,ht with
  |[x],_,_=>
   have h1:(x.1.head? == some 98 && x.1 != [98,114] && ([]:List UInt8) != [58])=false:=h;have h2:(x.1.head? == some 98 && x.1 != [98,114])=false:=(by simpa using h1);show(x.1.head? == some 98 && x.1 != [98,114] && br (sh d [x] ++ m) != [58])=false;rw [h2];rfl
 ·rw [qC ht];exact h
theorem ug:∀f f' acc l v r,f≤f'→l.length < f→bQ idx E f acc l= .ok (v,r)→r <:+l∧(r≠ []→bQ idx E' f' acc (sh d l ++ m)= .ok (v,sh d r ++ m)):=by
 intro f;induction f with
 |zero=>intro f' acc l v r _ h;omega
 |succ f ih=>
  intro f' acc l v r hf hl h;obtain⟨f',rfl⟩:∃k,f'=k+1:=⟨f' - 1,by omega⟩;simp only [bQ] at h ⊢
  cases ht:taken l with
  |true=>
   rw [ht,if_pos rfl] at h;obtain⟨u,q,h1,h2⟩:=then_ok h;obtain⟨hne,hq,_⟩:=bZ h1;subst hq;obtain⟨s,c⟩:=ih f' (acc ++ [u]) l.tail v r (by omega) (tR hl hne) h2;refine⟨s.trans (List.tail_suffix l),fun hr=> ?_⟩;have hq:=fR s hr;rw [ph hq,ht,if_pos rfl,(dZ (E:=E) (E':=E') l u l.tail h1).2 hq];exact c hr
  |false=>
   rw [ht,if_neg (by simp)] at h
   cases h;refine⟨List.suffix_refl _,fun hr=> ?_⟩;rw [qj hr ht,if_neg (by simp)]
theorem wG:Sim d m id (values idx E) (values idx E'):=by
 intro l v r h;exact ug (E':=E') (l.length+1) ((sh d l ++ m).length+1) [] l v r (by simp [sh]) (by omega) h
theorem uA:∀n acc,Sim d m id (aY idx E n acc) (aY idx E' n acc):=by
 intro n;induction n with
 |zero=>intro acc;exact Sim.done rfl
 |succ n ih=>intro acc;exact Sim.then dZ (fun v=>ih (acc ++ [v]))
theorem DA:∀f f' to args l v r,f≤f'→l.length < f→ku idx E f to args l= .ok (v,r)→r <:+l∧(r≠ []→ku idx E' f' to args (sh d l ++ m)= .ok (v,sh d r ++ m)):=by
 intro f;induction f with
 |zero=>intro f' to args l v r _ h;omega
 |succ f ih=>
  intro f' to args l v r hf hl h;obtain⟨f',rfl⟩:∃k,f'=k+1:=⟨f' - 1,by omega⟩;simp only [ku] at h ⊢;by_cases hc:to= []∨cg l=true
  ·rw [if_pos hc] at h;obtain⟨b,q,h1,h2⟩:=then_ok h;obtain⟨hne,hq,_⟩:=ik h1;subst hq;obtain⟨u,q,h3,h4⟩:=then_ok h2;obtain⟨hne2,hq,_⟩:=bZ h3;subst hq;obtain⟨s,c⟩:=ih f' (to ++ [b]) (args ++ [u]) l.tail.tail v r (by omega) (Nat.lt_of_le_of_lt (by simp) (tR hl hne)) h4;refine⟨(s.trans (List.tail_suffix _)).trans (List.tail_suffix l),fun hr=> ?_⟩;have hq:=fR s hr;rw [qC hne2,if_pos hc,(ka (E:=E) (E':=E') l b l.tail h1).2 hne2];show andThen (value idx E' (sh d l.tail ++ m)) _=_;rw [(dZ (E:=E) (E':=E') l.tail u l.tail.tail h3).2 hq];exact c hr
  ·rw [if_neg hc] at h
   cases h;refine⟨List.suffix_refl _,fun hr=> ?_⟩;have h1:¬to= []:=fun e=>hc (.inl e);have h2:cg l=false:=by
    cases e:cg l with
    |true=>exact absurd (.inr e) hc
    |false=>rfl
   rw [if_neg (by rw [vE hr h2];simp [h1])]
theorem Ge:Sim d m id (phi idx E) (phi idx E'):=by
 intro l v r h;exact DA (E':=E') (l.length+1) ((sh d l ++ m).length+1) [] [] l v r (by simp [sh]) (by omega) h
theorem DG:Sim d m id (sk idx E) (sk idx E'):=by
 intro l v r h;simp only [sk] at h ⊢
 cases ht:taken l with
 |true=>
  rw [ht,if_pos rfl] at h;obtain⟨s,c⟩:=Sim.then (k:=id) (G:=fun v=>done ((0,[v],[],[]):Opd)) (G':=fun v=>done ((0,[v],[],[]):Opd)) (dZ (d:=d) (m:=m) (E:=E) (E':=E') (idx:=idx)) (fun v=>Sim.done rfl) l v r h;obtain⟨u,q,h1,h2⟩:=then_ok h;obtain⟨hne,hq,_⟩:=bZ h1;subst hq;refine⟨s,fun hr=> ?_⟩;have:l.tail≠ []:=by cases h2;exact hr
  rw [ph this,ht,if_pos rfl];exact c hr
 |false=>
  rw [ht,if_neg (by simp)] at h
  cases h;refine⟨List.suffix_refl _,fun hr=> ?_⟩;rw [qj hr ht,if_neg (by simp)];rfl
theorem EW:Sim d m id (spot idx E) (spot idx E'):=by
 intro l v r h;simp only [spot] at h ⊢;by_cases hc:(ak l).head? =some 64
 ·rw [if_pos hc] at h;obtain⟨hne,hq,_⟩:=lI h;obtain⟨s,c⟩:=m8 (d:=d) (m:=m) (E:=E) (E':=E') l v r h;refine⟨s,fun hr=> ?_⟩;rw [gH hne,if_pos hc];exact c hr
 ·rw [if_neg hc] at h
  cases h;refine⟨List.suffix_refl _,fun hr=> ?_⟩;rw [gH hr,if_neg hc];rfl
theorem rU (hn:nam []=false) (hnum:(num []).2≠0) (hshp:shp []≠0) (op:Int):Sim d m id (operands num idx nam shp tks E op) (operands num idx nam shp tks E' op):=by
 unfold operands;by_cases h:op=1
 ·simp only [h,if_true];exact Sim.then (xJ hnum) (fun _=>Sim.done rfl)
 simp only [h,if_false];clear h;by_cases h:op=29
 ·simp only [h,if_true];exact Sim.then (gN hnum) (fun _=>Sim.done rfl)
 simp only [h,if_false];clear h;by_cases h:op=10
 ·simp only [h,if_true];exact Sim.then (wW hshp) (fun _=>Sim.done rfl)
 simp only [h,if_false];clear h;by_cases h:op=20
 ·simp only [h,if_true];exact Sim.then Ge (fun _=>Sim.done rfl)
 simp only [h,if_false];clear h;by_cases h:op=21
 ·simp only [h,if_true];exact Sim.then EW (fun _=>Sim.then (sY hn) (fun _=>Sim.then wG (fun _=>Sim.done rfl)))
 simp only [h,if_false];clear h;by_cases h:op=28
 ·simp only [h,if_true];exact DG
 simp only [h,if_false];clear h;by_cases h:op=11∨op=12∨op=15
 ·simp only [h,if_true];exact Sim.then dZ (fun _=>Sim.then (gN hnum) (fun _=>Sim.done rfl))
 simp only [h,if_false];clear h;by_cases h:op=13∨op=14
 ·simp only [h,if_true];exact Sim.then dZ (fun _=>Sim.then (gN hnum) (fun _=>Sim.then dZ (fun _=>Sim.done rfl)))
 simp only [h,if_false];clear h;by_cases h:op=23
 ·simp only [h,if_true];exact Sim.then (gN hnum) (fun _=>Sim.done rfl)
 simp only [h,if_false];clear h;by_cases h:op=24
 ·simp only [h,if_true];exact Sim.then dZ (fun _=>Sim.then (gN hnum) (fun _=>Sim.done rfl))
 simp only [h,if_false];clear h;by_cases h:op=26
 ·simp only [h,if_true];exact Sim.then ka (fun _=>Sim.done rfl)
 simp only [h,if_false];clear h;by_cases h:op=27
 ·simp only [h,if_true];exact Sim.then dZ (fun _=>Sim.then ka (fun _=>Sim.then ka (fun _=>Sim.done rfl)))
 simp only [h,if_false];clear h;exact Sim.then (uA _ _) (fun _=>Sim.done rfl)
end
section
variable {d:Int} {m:List Tok} {E E':Int} {num:List UInt8→Int × Int} {idx:List UInt8→Int→Option Int} {nam:List UInt8→Bool} {shp:List UInt8→Int} {tks:Int→Nat} {fnd:List UInt8→Int × Int} {mks:Int→Int→Int} {prt:Nat→List UInt8→Bool}
theorem ng {i:Int} {o:Int × Int} {l r:List Tok} (hf:(fnd []).1=0) (h:oS fnd mks E i l= .ok (o,r)):l≠ []∧r=l.tail∧o=fnd (ak l)∧o.1≠0∧decide (mks o.1 o.2≠0)=decide (0≤i):=by
 obtain⟨h1,h2,h3⟩:=eI (by simp [hf]) h;split at h3
 ·cases h3
 ·rename_i hc
  cases h3;exact⟨h1,h2,rfl,fun e=>hc (.inl e),by
   by_cases e:decide (mks (fnd (ak l)).1 (fnd (ak l)).2≠0)=decide (0≤i)
   ·exact e
   ·exact absurd (.inr e) hc⟩
theorem fh {w:List UInt8} (hw:w≠ []) {u:Unit} {l r:List Tok} (h:want E w l= .ok (u,r)):l≠ []∧r=l.tail∧ak l=w:=by
 obtain⟨h1,h2,h3⟩:=eI (kp hw) h;refine⟨h1,h2,?_⟩;by_cases e:ak l=w
 ·exact e
 ·rw [if_neg e] at h3;cases h3
theorem tI {i:Int} {l r:List Tok} (h:ident idx E l= .ok (i,r)):
  (br l= [61]∧l≠ []∧mark idx 37 1048576 (ak l)=some i∧l.tail≠ []∧r=l.tail.tail∧value idx E l= .ok (i,l.tail)∧want E [61] l.tail= .ok ((),l.tail.tail))∨(br l≠ [61]∧i= -1∧r=l):=by
 unfold ident at h;by_cases hc:br l= [61]
 ·rw [if_pos hc] at h;obtain⟨v,q,h1,h2⟩:=then_ok h;obtain⟨hl,hq,hv⟩:=bZ h1;subst hq;obtain⟨u,q,h3,h4⟩:=then_ok h2;obtain⟨hl2,hq,_⟩:=fh (by simp) h3;subst hq
  cases h4;exact .inl ⟨hc,hl,hv,hl2,rfl,h1,h3⟩
 ·rw [if_neg hc] at h
  cases h;exact .inr ⟨hc,rfl,rfl⟩
theorem vJ (hf:(fnd []).1=0):rV (start idx fnd mks E):=by
 intro l v r h;obtain⟨i,q,h1,h2⟩:=then_ok h;obtain⟨o,q2,h3,h4⟩:=then_ok h2;obtain⟨hq,hq2,_⟩:=ng hf h3;subst hq2
 cases h4;rcases tI h1 with ⟨_,hl,_,_,rfl,_⟩ | ⟨_,_,rfl⟩
 ·exact⟨hl,(List.tail_suffix _).trans (List.tail_suffix _)⟩
 ·exact⟨hq,List.suffix_refl _⟩
theorem xL (hn:nam []=false) (hnum:(num []).2≠0) (hshp:shp []≠0) (hf:(fnd []).1=0):rV (um num idx nam shp tks fnd mks E):=by
 intro l v r h;obtain⟨x,q,h1,h2⟩:=then_ok h;obtain⟨hl,hs⟩:=vJ hf l x q h1;obtain⟨y,q2,h3,h4⟩:=then_ok h2
 cases h4;exact⟨hl,((rU (d:=0) (m:= []) (E':=E) hn hnum hshp x.2.1) q y r h3).1.trans hs⟩
theorem J4 {r l:List Tok} (hl:l≠ []) (h:r <:+l.tail):r.length+1≤l.length:=by
 have:=h.length_le
 cases l with
 |nil=>exact absurd rfl hl
 |cons t q=>simp at *;omega
theorem ry {k:Nat} {u:Unit} {l r:List Tok} (h:head prt E k l= .ok (u,r)):l≠ []∧r=l.tail∧k < 256:=by
 obtain⟨h1,h2,h3⟩:=eI (by simp) h;refine⟨h1,h2,?_⟩;split at h3
 ·cases h3
 ·rename_i hc;by_cases e:256≤k
  ·exact absurd (.inl e) hc
  ·omega
theorem BO:∀f f' acc l v r,f≤f'→l.length < f→qf E f acc l= .ok (v,r)→r <:+l∧(r≠ []→qf E' f' acc (sh d l ++ m)= .ok (v,sh d r ++ m)):=by
 intro f;induction f with
 |zero=>intro f' acc l v r _ h;omega
 |succ f ih=>
  intro f' acc l v r hff hl h;obtain⟨f',rfl⟩:∃k,f'=k+1:=⟨f' - 1,by omega⟩;simp only [qf] at h ⊢;by_cases hc:ak l= [41]
  ·rw [if_pos hc] at h
   cases h;exact⟨List.suffix_refl _,fun hr=>by rw [gH hr,if_pos hc]⟩
  ·rw [if_neg hc] at h;obtain⟨t,q,h1,h2⟩:=then_ok h;obtain⟨hne,hs⟩:=xR l t q h1;have hlen:=J4 hne hs;obtain⟨s,c⟩:=ih f' (acc ++ [t]) q v r (by omega) (by omega) h2;refine⟨(s.trans hs).trans (List.tail_suffix l),fun hr=> ?_⟩;have hq:=fR s hr;rw [gH hne,if_neg hc,(Be (E:=E) (E':=E') l t q h1).2 hq];exact c hr
theorem wT:Sim d m id (params E) (params E'):=by
 intro l v r h;exact BO (E':=E') (l.length+1) ((sh d l ++ m).length+1) [] l v r (by simp [sh]) (by omega) h
end
def noI (x:Ins):Ins:=(x.1,x.2.1,x.2.2.1,x.2.2.2.1,x.2.2.2.2.1,x.2.2.2.2.2.1,x.2.2.2.2.2.2.1,0)
def noB (b:List Ins):List Ins:=b.map noI
def noF (f:Fun):Fun:=(f.1,f.2.1,f.2.2.1,f.2.2.2.1.map noB,0)
section
variable (dig:Int→List UInt8) (iw:Int→Int→List UInt8) (mks:Int→Int→Int)
variable (ltr:Int→List UInt8)
end
section
variable (nam:List UInt8→Bool) (shp:List UInt8→Int) (tks:Int→Nat)
variable (good:Int→Int→Bool) (mks:Int→Int→Int)
end
section
variable {E:Int} {num:List UInt8→Int × Int} {idx:List UInt8→Int→Option Int} {nam:List UInt8→Bool} {shp:List UInt8→Int} {tks:Int→Nat} {fnd:List UInt8→Int × Int} {mks:Int→Int→Int} {prt:Nat→List UInt8→Bool}
variable {dig:Int→List UInt8} {iw:Int→Int→List UInt8} {good:Int→Int→Bool} {ltr:Int→List UInt8}
def Ends (R:List Tok):Prop:=ak R= [125]∨(br R= [58]∧(ak R).head? =some 98)
theorem Ends.stop {R:List Tok} (h:Ends R):ak R= [125]∨br R= [58]:=by
 rcases h with h | h
 ·exact .inl h
 ·exact .inr h.1
end
end Go.Proofs.YtfdhemcahjommaaGreatDoor.G
namespace Go.Proofs.YtfdhemcahjommaaGreatDoor.L1
open Go.RowKit
def de (c:UInt8):Bool:=decide (48≤c.toNat) && decide (c.toNat≤57)
def worth (l:List UInt8):Nat:=l.foldl (fun a c=>a * 10+(c.toNat - 48)) 0
def isNum (l:List UInt8):Bool:= !l.isEmpty && l.all de && (l.head? != some 48 || l.length == 1)
theorem eJ (c:UInt8):de c=true↔48≤c.toNat∧c.toNat≤57:=by simp [de]
theorem vg (l:List UInt8) (a:Nat):l.foldl (fun a c=>a * 10+(c.toNat - 48)) a=a * 10 ^ l.length+worth l:=by
 unfold worth;induction l generalizing a with
 |nil=>simp
 |cons c l ih=>
  simp only [List.foldl_cons,List.length_cons];rw [ih (a * 10+(c.toNat - 48)),ih (0 * 10+(c.toNat - 48))];rw [Nat.pow_succ,Nat.add_mul,Nat.zero_mul,Nat.zero_add,Nat.mul_assoc,Nat.mul_comm 10 (10 ^ l.length)];omega
theorem dX (a b:List UInt8):worth (a ++ b)=worth a * 10 ^ b.length+worth b:=by
 show(a ++ b).foldl _ 0=_;rw [List.foldl_append,vg b];rfl
theorem kc (c:UInt8):worth [c]=c.toNat - 48:=by simp [worth]
theorem iP (l:List UInt8) (c:UInt8):worth (l ++ [c])=worth l * 10+(c.toNat - 48):=by
 rw [dX,kc];simp
def jI (l:List UInt8):Bool:=l.head? == some 45
def bJ (l:List UInt8):List UInt8:=if jI l then l.tail else l
def aN (l:List UInt8):Int × Int:=
 if isNum (bJ l)=true∧¬(jI l=true∧bJ l= [48])then
  if jI l=true then(if worth (bJ l)≤9223372036854775808 then(- (worth (bJ l):Int),0)else(0,18))
  else(if worth (bJ l)≤9223372036854775807 then((worth (bJ l):Int),0)else(0,18))
 else(0,3)
def dG (l:List UInt8) (most:Int):Int × Int:=
 if(aN l).2≠0 then(0,(aN l).2)else if(aN l).1 < 0∨most < (aN l).1 then(0,18)else((aN l).1,0)
theorem kD (l:List UInt8): -9223372036854775808≤(aN l).1∧(aN l).1≤9223372036854775807:=by
 unfold aN;split
 ·split
  ·split
   ·simp only;omega
   ·simp
  ·split
   ·simp only;omega
   ·simp
 ·simp
theorem ae {p:Prop} (h:p):Hid p:=h
theorem aD {p:Prop} (h:Hid p):p:=h
theorem dW (c:UInt8) (k:Nat) (hk:k < 256):c.toNat=k↔c=UInt8.ofNat k:=by
 constructor
 ·intro h;apply UInt8.toNat_inj.1;rw [h];simp [UInt8.toNat_ofNat'];omega
 ·rintro rfl;simp [UInt8.toNat_ofNat'];omega
theorem xZ (s:ByteArray) (h:0 < s.size):s.data.toList.head? =some s[0]:=by
 rw [List.head?_eq_getElem?,List.getElem?_eq_getElem (by simpa using h)];rfl
theorem bt (s:ByteArray):s.data.toList.length=s.size:=by simp
theorem dQ (s:ByteArray) (h:s.size=0):s.toList.isEmpty=true∧s.data.toList= []:=by
 have:s.data.toList= []:=List.length_eq_zero_iff.1 (by rw [bt];exact h);exact⟨by rw [ByteArray.toList_eq,this];rfl,this⟩
theorem cQ (s:ByteArray) (h:0 < s.size):s.toList.isEmpty=false∧s.data.toList.isEmpty=false:=by
 have:s.data.toList.isEmpty=false:=by
  cases e:s.data.toList with
  |nil=>have:=bt s;rw [e] at this;simp at this;omega
  |cons=>rfl
 exact⟨by rw [ByteArray.toList_eq,this],this⟩
def El (m:Int) (l:List UInt8):Int × Int:=if l.all de=true then(if(worth l:Int)≤m then((worth l:Int),0)else(0,18))else(0,3)
theorem fi (s:ByteArray) (k:Nat) (h:k < s.size):s.data.toList.take (k+1)=s.data.toList.take k ++ [s[k]]:=by
 rw [List.take_succ_eq_append_getElem (by simpa using h)];rfl
theorem ir (s:ByteArray) (k:Nat) (h:¬k < s.size):s.data.toList.take k=s.data.toList:=List.take_of_length_le (by rw [bt];omega)
theorem yN {k:IntKind} {j:IntKind} {a b c d:Int} (h:a=b) (h':c=d):Ending.returned (.tuple #[.int k a,.int j c])= .returned (.tuple #[.int k b,.int j d]):=by rw [h,h']
theorem Bv {m:Int} (s:ByteArray) (k:Nat) (hk:k < s.size) (hd:¬(48≤(s[k].toNat:Int)∧(s[k].toNat:Int)≤57)):El m s.data.toList=(0,3):=by
 unfold El;rw [if_neg];intro h;have:=(eJ _).1 (List.all_eq_true.1 h s[k] (by
  have:s.data.toList[k]? =some s[k]:=by rw [List.getElem?_eq_getElem (by simpa using hk)];rfl
  exact List.mem_of_getElem? this))
 omega
theorem kj (l:List UInt8):isNum l=true↔l.isEmpty=false∧l.all de=true∧(l.head? ≠some 48∨l.length=1):=by
 simp only [isNum,Bool.and_eq_true,Bool.or_eq_true,bne_iff_ne,beq_iff_eq,Bool.not_eq_true'];exact⟨fun h=>⟨h.1.1,h.1.2,h.2⟩,fun h=>⟨⟨h.1,h.2.1⟩,h.2.2⟩⟩
theorem lR (l:List UInt8) (m:Int) (h:(aN l).2≠0):dG l m=(0,(aN l).2):=by unfold dG;rw [if_pos h]
theorem lW (l:List UInt8) (m:Int) (h:(aN l).2=0) (h1:(aN l).1 < 0∨m < (aN l).1):dG l m=(0,18):=by unfold dG;rw [if_neg (by simpa using h),if_pos h1]
theorem nu (l:List UInt8) (m:Int) (h:(aN l).2=0) (h1:¬((aN l).1 < 0∨m < (aN l).1)):dG l m=((aN l).1,0):=by unfold dG;rw [if_neg (by simpa using h),if_neg h1]
end Go.Proofs.YtfdhemcahjommaaGreatDoor.L1
