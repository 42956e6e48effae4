/- Texts of one chain, joined. -/
import Derived.Test.YtljkgcfnoegibaaGreatDoorProg
import Derived.KernelRfl
import Derived.Below
import Derived.WalkKit
import Derived.WalkSpells
import Derived.WalkSmall
import Derived.WalkLawsBesides
import Derived.Deep.QuietTactic
import Derived.BigQuiet
import Derived.Lib.SmallJoins
import Derived.Deep.Cut
import Derived.Laws.AppendOwn
import Derived.OwnWalk
import Derived.Lib.OthersKept
set_option maxHeartbeats 400000
namespace Go.Proofs.YtljkgcfnoegibaaGreatDoor.L5
set_option maxRecDepth 8000
open Go
open Go Go.RowKit
def tab:List (List UInt8 × Int × Int × Int × Int):= [
 ([],0,0,0,0),
 ([99,111,110,115,116],0,0,1,32),
 ([97,100,100],1,1,1,32),
 ([115,117,98],1,1,1,32),
 ([109,117,108],1,1,1,32),
 ([100,105,118],1,1,1,1),
 ([108,116],1,1,1,32),
 ([101,113],1,1,1,32),
 ([110,105,108],0,0,2,32),
 ([115,97,109,101],2,2,1,32),
 ([110,101,119],0,0,2,0),
 ([108,111,97,100,46,105],2,0,1,3),
 ([108,111,97,100,46,112],2,0,2,3),
 ([115,116,111,114,101,46,105],2,1,0,5),
 ([115,116,111,114,101,46,112],2,2,0,5),
 ([115,108,111,116],2,0,3,1),
 ([103,101,116,46,105],3,0,1,3),
 ([103,101,116,46,112],3,0,2,3),
 ([112,117,116,46,105],3,1,0,5),
 ([112,117,116,46,112],3,2,0,5),
 ([112,104,105],0,0,0,128),
 ([99,97,108,108],0,0,0,199),
 ([111,117,116],1,0,0,16),
 ([112,111,108,108],0,0,0,80),
 ([114,101,108,111,99],0,0,0,128),
 ([109,97,114,107],2,0,0,16),
 ([98,114],0,0,0,8),
 ([105,102],1,0,0,8),
 ([114,101,116],0,0,0,8),
 ([102,97,105,108],0,0,0,9)]
def num (op:Int):Nat:=if 1≤op∧op≤29 then op.toNat else 0
def rowAt (k:Nat):List UInt8 × Int × Int × Int × Int:=tab.getD k ([],0,0,0,0)
def letters (k:Nat):List UInt8:=(rowAt k).1
def tk0 (k:Nat):Int:=(rowAt k).2.1
def tk1 (k:Nat):Int:=(rowAt k).2.2.1
def mk (k:Nat):Int:=(rowAt k).2.2.2.1
def ds (k:Nat):Int:=(rowAt k).2.2.2.2
def word (k:Nat):ByteArray:=⟨(letters k).toArray⟩
theorem J0 (op:Int):num op≤29:=by unfold num;split <;> omega
theorem jL {op:Int} (h:¬(1≤op∧op≤29)):num op=0:=by unfold num;rw [if_neg h]
def dW (k:Nat):Value:= .agg #[.string (word k),.int .i64 (tk0 k),.int .i64 (tk1 k),.int .i64 (mk k),.int .i64 (ds k)]
def beside (k:Nat) (things:Int):Bool:=bits BinOp.and .i64 (ds k) things != 0
theorem kZ {l:List Int} {things:Int} (h:∀k,k < 30→l.contains ((k:Nat):Int)=beside k things) (hl:l.all (fun x=>decide (1≤x) && decide (x≤29))=true) (op:Int):l.contains op=beside (num op) things:=by
 by_cases ho:1≤op∧op≤29
 ·have e:op=((op.toNat:Nat):Int):=by omega
  have:=h op.toNat (by omega);rw [←e] at this;rw [this,show num op=op.toNat from if_pos ho]
 ·have h0:=h 0 (by omega);rw [jL ho,←h0];have no:∀x:Int,¬(1≤x∧x≤29)→l.contains x=false:=by
   intro x hx;rw [Bool.eq_false_iff];intro hc;have:=List.all_eq_true.1 hl x (by simpa using hc);simp only [Bool.and_eq_true,decide_eq_true_eq] at this;exact hx this
  rw [no op ho,no ((0:Nat):Int) (by omega)]
def FM:List Int:= [20,21,24]
theorem Hw (op:Int):FM.contains op=beside (num op) 128:=kZ (by decide +kernel) (by decide) op
def letter (t:Int):ByteArray:=if t=1 then⟨#[105]⟩else if t=2 then⟨#[112]⟩else if t=3 then⟨#[100]⟩else⟨#[110]⟩
def may (op t:Int):Bool:=
 if op=20 then decide (t=1∨t=2∨t=3)else if op=21 then decide (t=0∨t=1∨t=2)else if op=24 then decide (t=2∨t=3)else decide (t=0)
def kg (op t:Int):ByteArray:=if beside (num op) 128 then word (num op) ++ ⟨#[46]⟩ ++ letter t else word (num op)
def bD (op t:Int):Int:=if beside (num op) 128 then t else mk (num op)
def takes (k:Nat):List Int:= [tk0 k,tk1 k].filter (fun x=>x != 0)
def hit (s:ByteArray) (i:Nat):Bool:=may ((i / 4+1:Nat):Int) ((i % 4:Nat):Int) && (kg ((i / 4+1:Nat):Int) ((i % 4:Nat):Int)).toList == s.toList
def findN (s:ByteArray):Nat→Nat→Int × Int
 |0,_=>(0,0)
 |n+1,i=>if hit s i then(((i / 4+1:Nat):Int),((i % 4:Nat):Int))else findN s n (i+1)
def find (s:ByteArray):Int × Int:=findN s 116 0
theorem ae {p:Prop} (h:p):Hid p:=h
theorem aw {x y:Bool} (h:x=y):Ending.returned (.bool x)= .returned (.bool y):=by rw [h]
theorem aI {x y:Int} (h:x=y):Ending.returned (.int .i64 x)= .returned (.int .i64 y):=by rw [h]
theorem lJ {x y:ByteArray} (h:x=y):Ending.returned (.string x)= .returned (.string y):=by rw [h]
theorem ah (w:World) (o:Obj):Below w.heap.size w (w.alloc o):=(Below.refl _ _).alloc (Nat.le_refl _) _
theorem sf {w w1:World} {o:Obj} (h:Below (w.alloc o).heap.size (w.alloc o) w1):Below w.heap.size w w1:=(ah w o).trans (h.mono (by simp))
theorem af {a b c:World} (h:Below a.heap.size a b) (k:Below b.heap.size b c):Below a.heap.size a c:=h.trans (k.mono h.size)
def Tab (w:World):Prop:=0 < w.heap.size∧∀k,k < 30→
 w.cell? ⟨0,k * 5,none⟩=some (.string (word k))∧w.cell? ⟨0,k * 5+1,none⟩=some (.int .i64 (tk0 k))∧w.cell? ⟨0,k * 5+2,none⟩=some (.int .i64 (tk1 k))∧w.cell? ⟨0,k * 5+3,none⟩=some (.int .i64 (mk k))∧w.cell? ⟨0,k * 5+4,none⟩=some (.int .i64 (ds k))
theorem Tab.below {w w':World} (h:Tab w) (b:Below w.heap.size w w'):Tab w':=
 ⟨Nat.lt_of_lt_of_le h.1 b.size,fun k hk=>by
  obtain⟨h0,h1,h2,h3,h4⟩:=h.2 k hk;exact⟨(b.cell h.1).trans h0,(b.cell h.1).trans h1,(b.cell h.1).trans h2,(b.cell h.1).trans h3,(b.cell h.1).trans h4⟩⟩
theorem Fu (k:Nat) (w:World) (h0:1≤k) (h1:k≤29) (ht:Tab w):
  Calls Tryz.prog 54 #[.int .i64 k] w fun e w'=>e= .returned (dW k)∧Below w.heap.size w w':=by
 have T:=ht.below (ah w (.cells #[.string ⟨#[]⟩,.int .i64 0,.int .i64 0,.int .i64 0,.int .i64 0] 91));obtain⟨c0,c1,c2,c3,c4⟩:=T.2 k (by omega);clear T ht;go_enter Tryz.func54,Tryz.ntmps54
 go_wp2_with fail
 exact bodyPost_ret (v:=dW k) (by simp [results,Tryz.results54,go_sem,dW]) rfl ⟨rfl,ah _ _⟩
theorem xV (op:Int) (w:World) (h:¬(1≤op∧op≤29)) (ht:Tab w):
  Calls Tryz.prog 54 #[.int .i64 op] w fun e w'=>e= .returned (dW 0)∧Below w.heap.size w w':=by
 have T:=ht.below (ah w (.cells #[.string ⟨#[]⟩,.int .i64 0,.int .i64 0,.int .i64 0,.int .i64 0] 91));obtain⟨c0,c1,c2,c3,c4⟩:=T.2 0 (by omega);simp only [Nat.zero_mul,Nat.zero_add] at c0 c1 c2 c3 c4;clear T ht;by_cases h1:op < 1
 all_goals
  go_enter Tryz.func54,Tryz.ntmps54
  go_wp2_with fail
  exact bodyPost_ret (v:=dW 0) (by simp [results,Tryz.results54,go_sem,dW]) rfl ⟨rfl,ah _ _⟩
theorem qD (op:Int) (w:World) (ht:Tab w):
  Calls Tryz.prog 54 #[.int .i64 op] w fun e w'=>e= .returned (dW (num op))∧Below w.heap.size w w':=by
 by_cases h:1≤op∧op≤29
 ·have e:op=(op.toNat:Int):=by omega
  have:=Fu op.toNat w (by omega) (by omega) ht;rw [←e] at this;rwa [show num op=op.toNat from if_pos h]
 ·rw [jL h];exact xV op w h ht
theorem ve (a b c d e:Value) (w:World):Sem.run Tryz.prog (Instr.field 91 (.agg #[a,b,c,d,e]) 2) w= .ok d w:=rfl
theorem mu (a b c d e:Value) (w:World):Sem.run Tryz.prog (Instr.field 91 (.agg #[a,b,c,d,e]) 3) w= .ok e w:=rfl
theorem nh (op things:Int) (w:World) (ht:Tab w):
  Calls Tryz.prog 53 #[.int .i64 op,.int .i64 things] w fun e w'=>e= .returned (.bool (beside (num op) things))∧Below w.heap.size w w':=by
 have hf:=mu;go_enter Tryz.func53,Tryz.ntmps53
 go_wp2_with fail
 refine(qD op _ ht).mono ?_;rintro e w1 ⟨rfl,b1⟩;unfold dW;go_wp2_with fail
 go_ret;exact⟨rfl,b1⟩
theorem Hy (op t:Int) (w:World):Calls Tryz.prog 114 #[.int .i64 op,.int .i64 t] w fun e w'=>e= .returned (.bool (may op t))∧w'=w:=by
 by_cases h1:op=20
 ·subst h1;have HL:Hid (may 20 t=decide (t=1∨t=2∨t=3)):=ae rfl;go_enter Tryz.func114,Tryz.ntmps114
  go_wp2
  all_goals (go_ret;refine⟨aw ?_,rfl⟩;rw [HL.out,Bool.eq_iff_iff];simp;try omega)
 by_cases h2:op=21
 ·subst h2;have HL:Hid (may 21 t=decide (t=0∨t=1∨t=2)):=ae rfl;go_enter Tryz.func114,Tryz.ntmps114
  go_wp2
  all_goals (go_ret;refine⟨aw ?_,rfl⟩;rw [HL.out,Bool.eq_iff_iff];simp;try omega)
 by_cases h3:op=24
 ·subst h3;have HL:Hid (may 24 t=decide (t=2∨t=3)):=ae rfl;go_enter Tryz.func114,Tryz.ntmps114
  go_wp2
  all_goals (go_ret;refine⟨aw ?_,rfl⟩;rw [HL.out,Bool.eq_iff_iff];simp;try omega)
 have HL:Hid (may op t=decide (t=0)):=ae (by simp [may,h1,h2,h3]);go_enter Tryz.func114,Tryz.ntmps114
 go_wp2
 all_goals (go_ret;refine⟨aw ?_,rfl⟩;rw [HL.out,Bool.eq_iff_iff];simp;try omega)
theorem lK (op:Int) (w:World):Calls Tryz.prog 33 #[.int .i64 op] w fun e w'=>e= .returned (.bool (beside (num op) 128))∧w'=w:=by
 have HL:=ae (Hw op);go_enter Tryz.func33,Tryz.ntmps33
 go_wp2
 all_goals (go_ret;refine⟨aw ?_,rfl⟩;rw [←HL.out,Bool.eq_iff_iff];simp [FM];try omega)
def nth (l:List Int) (i:Nat):Int:=l.getD i 0
def SlI (w:World) (ao:Option Addr) (l:List Int):Prop:=
 l= []∨∃b,ao=some ⟨b,0,none⟩∧b < w.heap.size∧∀i,i < l.length→w.cell? ⟨b,i,none⟩=some (.int .i64 (nth l i))
def Box (w:World) (g:Nat) (l:List Value):Prop:=g < w.heap.size∧∀i v,l[i]? =some v→w.cell? ⟨g,i,none⟩=some v
theorem Box.new (w:World) (l:List Value) (t:TypeId):Box (w.alloc (.cells l.toArray t)) w.heap.size l:=
 ⟨by simp,fun i v h=>by rw [Joins.cell_alloc_mark_at _ _ _ _ _ _ rfl];simpa using h⟩
theorem Box.below {w w1:World} {g:Nat} {l:List Value} (h:Box w g l) (hb:Below w.heap.size w w1):Box w1 g l:=
 ⟨Nat.lt_of_lt_of_le h.1 hb.size,fun i v hi=>(hb.cell (p:=⟨g,i,none⟩) h.1).trans (h.2 i v hi)⟩
theorem fB (w:World):Below w.heap.size w w.drew:=(Below.refl _ _).drew
open Classical in
noncomputable def aZ (W x:World):World:=if Below W.heap.size W x then x else W.drew
theorem ax (W x:World):Below W.heap.size W (aZ W x):=by
 unfold aZ;split
 ·assumption
 ·exact fB W
theorem rJ {W w':World} (h:Below W.heap.size W w'):w'=aZ W w':=by unfold aZ;rw [if_pos h]
theorem aE {P:Program} {id:Nat} {Q:Exit→Act→World→Prop} {a:Act} {W:World} {l:List Oper} (hm:P.follows .mixedOrders=true) (hB:Region.lexB .any l.toArray=true)
  (h:wpQuiet P l.toArray (fun w'=>∃x:World,w'=aZ W x) (fun a'=>∀w',(∃x:World,w'=aZ W x)→Q .normal a' w') l a):(Code.region id l.toArray true).wp P Q a W:=
 wp_region_quiet (C:=fun w'=>∃x:World,w'=aZ W x) hm hB ⟨W.drew,rJ (fB W)⟩ (by simpa using h)
theorem bC {P:Program} {f:FuncId} {args:Array Value} {W:World} {x:World} {v:Value}
  (h:Calls P f args (aZ W x) fun e w'=>e= .returned v∧Below (aZ W x).heap.size (aZ W x) w'):
  Calls P f args (aZ W x) fun e w''=>e= .returned v∧∃y:World,w''=aZ W y:=
 h.mono fun _ _ ⟨he,hb⟩=>⟨he,_,rJ (af (ax W x) hb)⟩
theorem cX {P:Program} {f:FuncId} {args:Array Value} {W:World} {x:World} {v:Value}
  (h:Calls P f args (aZ W x) fun e w'=>e= .returned v∧w'=aZ W x):
  Calls P f args (aZ W x) fun e w''=>e= .returned v∧∃y:World,w''=aZ W y:=
 h.mono fun _ _ ⟨he,hb⟩=>⟨he,x,hb⟩
theorem bu {W:World} {g:Nat} {l:List Value} (h:Box W g l) (x:World):Box (aZ W x) g l:=h.below (ax W x)
theorem vV {op t:Int} (h:beside (num op) 128=true):word (num op) ++ ⟨#[46]⟩ ++ letter t=kg op t:=by unfold kg;rw [if_pos h]
theorem vY {op t:Int} (h:beside (num op) 128=false):word (num op)=kg op t:=by unfold kg;rw [if_neg (by simp [h])]
theorem mL {op t:Int} (h:beside (num op) 128=true):t=bD op t:=by unfold bD;rw [if_pos h]
theorem ni {op t:Int} (h:beside (num op) 128=false):mk (num op)=bD op t:=by unfold bD;rw [if_neg (by simp [h])]
theorem lQ (op t:Int) (a b c d e f:Value) (w:World) (ht:Tab w):Calls Tryz.prog 31 #[.agg #[.int .i64 op,a,b,.int .i64 t,c,d,e,f]] w fun e w'=>e= .returned (.int .i64 (bD op t))∧Below w.heap.size w w':=by
 have hf:=ve;have HB:=ae (Box.new w [.int .i64 op,a,b,.int .i64 t,c,d,e,f] 47);have HT:=ae (ht.below (ah w (.cells #[.int .i64 op,a,b,.int .i64 t,c,d,e,f] 47)));clear ht
 cases h:beside (num op) 128
 ·have HM:=ae (ni (t:=t) h);replace h:=ae h;go_enter Tryz.func31,Tryz.ntmps31
  go_wp2_with fail
  refine(nh op 128 _ HT.out).mono ?_;rintro e w1 ⟨rfl,b1⟩;rw [h.out];have c0:=(HB.out.below b1).2 0 _ rfl;go_wp2_with fail
  refine(qD op _ (HT.out.below b1)).mono ?_;rintro e w2 ⟨rfl,b2⟩;unfold dW;go_wp2_with fail
  go_ret;exact⟨aI HM.out,af (sf b1) b2⟩
 ·have HM:=ae (mL (t:=t) h);replace h:=ae h;go_enter Tryz.func31,Tryz.ntmps31
  go_wp2_with fail
  refine(nh op 128 _ HT.out).mono ?_;rintro e w1 ⟨rfl,b1⟩;rw [h.out];have c0:=(HB.out.below b1).2 3 _ rfl;go_wp2_with fail
  go_ret;exact⟨aI HM.out,sf b1⟩
theorem Cv (op:Int):(word (num op)).size≤7:=by
 have:∀k,k≤29→(word k).size≤7:=by decide
 exact this _ (J0 op)
theorem xh (t:Int):(letter t).size=1:=by unfold letter;split <;> (try split) <;> (try split) <;> rfl
theorem Io {op:Int} (h: [1,2,3,4,5,6,7,9,11,16,8,10,12,17,15].contains op=false):mk (num op)=0:=by
 by_cases ho:1≤op∧op≤29
 ·have e:op=((op.toNat:Nat):Int):=by omega
  have hk:∀k,k≤29→ [1,2,3,4,5,6,7,9,11,16,8,10,12,17,15].contains ((k:Nat):Int)=false→mk k=0:=by decide +kernel
  rw [show num op=op.toNat from if_pos ho];exact hk op.toNat (by omega) (by rw [←e];exact h)
 ·rw [jL ho];rfl
theorem iB {op:Int} (k v:Int) (h:(op == k)=true) (hv:mk (num k)=v):v=mk (num op):=by
 rw [←hv,show op=k by simpa using h]
theorem JX {op:Int} (h1:(op == 1)=false) (h2:(op == 2)=false) (h3:(op == 3)=false) (h4:(op == 4)=false) (h5:(op == 5)=false) (h6:(op == 6)=false) (h7:(op == 7)=false) (h9:(op == 9)=false) (h11:(op == 11)=false) (h16:(op == 16)=false)
  (h8:(op == 8)=false) (h10:(op == 10)=false) (h12:(op == 12)=false) (h17:(op == 17)=false) (h15:(op == 15)=false):0=mk (num op):=by
 refine(Io ?_).symm;simp only [List.contains_cons,List.contains_nil,h1,h2,h3,h4,h5,h6,h7,h8,h9,h10,h11,h12,h15,h16,h17];rfl
theorem dV (op t:Int) (a b c d e f:Value) (w:World):Calls Tryz.prog 18 #[.agg #[.int .i64 op,a,b,.int .i64 t,c,d,e,f]] w fun e w'=>e= .returned (.int .i64 (bD op t))∧Below w.heap.size w w':=by
 have Hb:=ae (ah w (.cells #[.int .i64 op,a,b,.int .i64 t,c,d,e,f] 47))
 cases h:beside (num op) 128
 ·have HM:=ae (ni (t:=t) h);replace h:=ae h;go_enter Tryz.func18,Tryz.ntmps18
  go_wp2_with fail
  refine(lK op _).mono ?_;rintro e w1 ⟨rfl,rfl⟩;rw [h.out];go_wp2_with fail
  all_goals (go_ret;refine⟨aI ?_,Hb.out⟩;rw [←HM.out])
  all_goals first
   |exact iB 1 1 (by assumption) rfl
   |exact iB 2 1 (by assumption) rfl
   |exact iB 3 1 (by assumption) rfl
   |exact iB 4 1 (by assumption) rfl
   |exact iB 5 1 (by assumption) rfl
   |exact iB 6 1 (by assumption) rfl
   |exact iB 7 1 (by assumption) rfl
   |exact iB 9 1 (by assumption) rfl
   |exact iB 11 1 (by assumption) rfl
   |exact iB 16 1 (by assumption) rfl
   |exact iB 8 2 (by assumption) rfl
   |exact iB 10 2 (by assumption) rfl
   |exact iB 12 2 (by assumption) rfl
   |exact iB 17 2 (by assumption) rfl
   |exact iB 15 3 (by assumption) rfl
   |exact JX (by assumption) (by assumption) (by assumption) (by assumption) (by assumption) (by assumption) (by assumption) (by assumption) (by assumption) (by assumption) (by assumption) (by assumption) (by assumption) (by assumption) (by assumption)
 ·have HM:=ae (mL (t:=t) h);replace h:=ae h;go_enter Tryz.func18,Tryz.ntmps18
  go_wp2_with fail
  refine(lK op _).mono ?_;rintro e w1 ⟨rfl,rfl⟩;rw [h.out];go_wp2_with fail
  go_ret;exact⟨aI HM.out,Hb.out⟩
theorem Tryz.cr:(Tryz.prog.info? 3).map (fun i=>(i.zero,i.size,i.bytes))=some (some (.int .i64 0),1,8):=by kernel_rfl
def part (k:Nat):Nat→List Int
 |0=> []
 |1=> [tk0 k].filter (fun x=>x != 0)
 |_=>takes k
def og (w:World) (l:List Int) (v:Value) (wr:World):Prop:=wr.ownsRow w.heap.size 3 1 v l.length (l.map (Value.int .i64))∧Below w.heap.size w wr
theorem vG (w:World):og w [] (.slice none 0 0) w:=⟨World.ownsRow_nil _ _ _ _,Below.refl _ _⟩
theorem rK {w wr:World} {l:List Int} {v:Value} (h:og w l v wr) (o:Obj):(wr.alloc o).ownsRow w.heap.size 3 1 v l.length (l.map (Value.int .i64)):=h.1.alloc o
theorem qC {w wr w2:World} {l:List Int} {v v':Value} {x:Int} {o:Obj} (h:og w l v wr) (own:w2.ownsRow w.heap.size 3 1 v' (l.length+1) (l.map (Value.int .i64) ++ [.int .i64 x])) (hg:(wr.alloc o).grownBy w2 v.ownBlock):og w (l ++ [x]) v' w2:=by
 refine⟨by simpa using own,?_⟩;refine Below.grown (h.2.alloc h.2.size o) hg (by simp;have:=h.2.size;omega) ?_;intro k hk;exact(h.1.lt k hk).1
theorem aM {w1:World} {a:Value} {t:TypeId}:∀j u,[a][j]? =some u→(w1.alloc (.cells #[a] t)).cell? ((⟨w1.heap.size,0,none⟩:Addr).add j)=some u:=by
 intro j u hj;match j,hj with
 |0,hj=>simp at hj;subst hj;simp [Addr.add]
theorem bt {a:Int}:∀u∈ [Value.int .i64 a],u.oneCell'=true:=by
 intro u hu;simp only [List.mem_singleton] at hu;subst hu;rfl
theorem Dh (k:Nat) (w:World):Sem.run Tryz.prog (Instr.field 91 (dW k) 1) w= .ok (.agg #[.int .i64 (tk0 k),.int .i64 (tk1 k)]) w:=rfl
theorem KY (a b:Value) (w:World):Sem.run Tryz.prog (Instr.index 89 (.agg #[a,b]) (.int .i64 0)) w= .ok a w:=rfl
theorem LG (a b:Value) (w:World):Sem.run Tryz.prog (Instr.index 89 (.agg #[a,b]) (.int .i64 1)) w= .ok b w:=rfl
theorem CU (op:Int) (w:World) (ht:Tab w):Calls Tryz.prog 130 #[.int .i64 op] w fun e w'=>∃v w1,e= .returned v∧Below w.heap.size w w1∧og w1 (takes (num op)) v w':=by
 obtain⟨i0,hi,hz0,hz1,hz2⟩:=info_parts Tryz.cr;have hr:=Dh;have hp0:=KY;have hp1:=LG;go_enter Tryz.func130,Tryz.ntmps130
 go_wp2_with fail
 refine(qD op _ ht).mono ?_;rintro e w1 ⟨rfl,b1⟩;go_wp2_with fail
 go_loopw [3,9] (fun v i wr=>(i= .int .i64 0∧og w1 [] v wr)∨(i= .int .i64 1∧og w1 (part (num op) 1) v wr)∨(i= .int .i64 2∧og w1 (takes (num op)) v wr)) (fun _ i _=>2 - (intOf i).toNat)
 case atStart=>exact .inl ⟨rfl,vG w1⟩
 case round=>
  rcases hrel with ⟨rfl,hG⟩ | ⟨rfl,hG⟩ | ⟨rfl,hG⟩
  all_goals replace hG:=ae hG
  ·by_cases h0:tk0 (num op)=0
   ·go_wp2
    go_roundw
    case rel=>exact .inr (.inl ⟨rfl,by have:=hG.out;simpa [part,h0] using this⟩)
    case measure=>simp [intOf]
   ·go_wp2_with (at_builtin;refine wpList_append_own _ rfl (.tmp 14) (.tmp 16) 33 rfl w1.heap.size 3 i0 _ 1 8 Tryz.underlying33 hi hz0 hz1 hz2 rfl (by decide) _ _ _ rfl (rK hG.out _) ⟨wr.heap.size,0,none⟩ 1 1 [.int .i64 (tk0 (num op))] rfl rfl aM bt (by unfold maxLen;simp) (by simp) (by simp;exact Nat.le_succ_of_le hG.out.2.size) ?_;intro v2 w2 own2 grow2 _)
    have G2:=ae (qC hG.out own2 grow2);clear own2 grow2;go_wp2
    go_roundw
    case rel=>exact .inr (.inl ⟨rfl,by have:=G2.out;simpa [part,h0] using this⟩)
    case measure=>simp [intOf]
  ·by_cases h0:tk1 (num op)=0
   ·go_wp2
    go_roundw
    case rel=>exact .inr (.inr ⟨rfl,by have:=hG.out;simpa [part,takes,List.filter_cons,h0] using this⟩)
    case measure=>simp [intOf]
   ·have hl:(part (num op) 1).length≤1:=List.length_filter_le _ _;go_wp2_with (at_builtin;refine wpList_append_own _ rfl (.tmp 14) (.tmp 16) 33 rfl w1.heap.size 3 i0 _ 1 8 Tryz.underlying33 hi hz0 hz1 hz2 rfl (by decide) _ _ _ rfl (rK hG.out _) ⟨wr.heap.size,0,none⟩ 1 1 [.int .i64 (tk1 (num op))] rfl rfl aM bt (by unfold maxLen;omega) (by omega) (by simp;exact Nat.le_succ_of_le hG.out.2.size) ?_;intro v2 w2 own2 grow2 _)
    have G2:=ae (qC hG.out own2 grow2);clear own2 grow2;go_wp2
    go_roundw
    case rel=>exact .inr (.inr ⟨rfl,by
     have:=G2.out;have e:part (num op) 1 ++ [tk1 (num op)]=takes (num op):=by
      by_cases h1:tk0 (num op)=0 <;> simp [part,takes,h0,h1]
     rwa [e] at this⟩)
    case measure=>simp [intOf]
  ·go_wp2
   go_ret;exact⟨_,w1,rfl,b1,hG.out⟩
theorem Cu {w:World} {B:Nat} {v:Value} {l:List Int} (h:w.ownsRow B 3 1 v l.length (l.map (Value.int .i64))):∃ao cap,v= .slice ao l.length cap∧SlI w ao l:=by
 rcases h.2 with ⟨rfl,h0⟩ | ⟨g,cap,cur,rfl,hb,hg,hc,_⟩
 ·have:l= []:=List.length_eq_zero_iff.1 h0;subst this;exact⟨none,0,rfl,.inl rfl⟩
 ·refine⟨some ⟨g,0,none⟩,cap,rfl,.inr ⟨g,rfl,(Array.getElem?_eq_some_iff.1 hg).1,fun i hi=> ?_⟩⟩;have ha:=h.cells (g:=g) rfl i (.int .i64 (nth l i)) (by simp [nth,hi]);rw [Addr.add_lit] at ha;simpa using ha
def qI (l:List Int) (w:World) (e:Ending) (w':World):Prop:=∃ao cap,e= .returned (.slice ao l.length cap)∧SlI w' ao l∧Below w.heap.size w w'
theorem rZ (op:Int) (w:World) (ht:Tab w):Calls Tryz.prog 130 #[.int .i64 op] w (qI (takes (num op)) w):=by
 refine(CU op w ht).mono ?_;rintro e w' ⟨v,w1,rfl,b1,hG⟩;obtain⟨ao,cap,rfl,hS⟩:=Cu hG.1;exact⟨ao,cap,rfl,hS,af b1 hG.2⟩
def Rest (s:ByteArray) (k j:Nat):Prop:=findN s (116 - (4 * (k - 1)+j)) (4 * (k - 1)+j)=find s
theorem yd (s:ByteArray):Rest s 1 0:=rfl
theorem Bi {s:ByteArray} {k:Nat} (h:Rest s k 4) (hk:1≤k):Rest s (k+1) 0:=by
 unfold Rest at *;rw [show 4 * (k+1 - 1)+0=4 * (k - 1)+4 by omega];exact h
theorem JC (s:ByteArray) {k j:Nat} (h1:1≤k) (hj:j < 4):hit s (4 * (k - 1)+j)=(may (k:Int) (j:Int) && (kg (k:Int) (j:Int)).toList == s.toList):=by
 unfold hit;rw [show(4 * (k - 1)+j) / 4+1=k by omega,show(4 * (k - 1)+j) % 4=j by omega]
theorem rQ {s:ByteArray} {k j:Nat} (h:Rest s k j) (h1:1≤k) (h2:k≤29) (hj:j < 4):
  find s=if(may (k:Int) (j:Int) && (kg (k:Int) (j:Int)).toList == s.toList)then((k:Int),(j:Int))else findN s (116 - (4 * (k - 1)+(j+1))) (4 * (k - 1)+(j+1)):=by
 unfold Rest at h;rw [←h,show 116 - (4 * (k - 1)+j)=(116 - (4 * (k - 1)+(j+1)))+1 by omega,findN,JC s h1 hj,show(4 * (k - 1)+j) / 4+1=k by omega,show(4 * (k - 1)+j) % 4=j by omega];rfl
theorem sH {s:ByteArray} {k j:Nat} (h:Rest s k j) (h1:1≤k) (h2:k≤29) (hj:j < 4) (hm:(may (k:Int) (j:Int) && (kg (k:Int) (j:Int)).toList == s.toList)=false):Rest s k (j+1):=by
 have:=rQ h h1 h2 hj;rw [hm] at this;exact this.symm
theorem ES {s:ByteArray} {k j:Nat} (h:Rest s k j) (h1:1≤k) (h2:k≤29) (hj:j < 4) (hm:may (k:Int) (j:Int)=true) (he:((kg (k:Int) (j:Int)).toList == s.toList)=true):find s=((k:Int),(j:Int)):=by
 have:=rQ h h1 h2 hj;rw [hm,he] at this;exact this
theorem EV {s:ByteArray} {k:Nat} (h:Rest s k 0) (hk:k=30):find s=(0,0):=by
 subst hk;exact h.symm
theorem pX {a b c d:Int} {p:Int × Int} (h:p=(c,d)) (ha:a=c) (hb:b=d):Ending.returned (.tuple #[.int .i64 a,.int .i64 b])= .returned (.tuple #[.int .i64 p.1,.int .i64 p.2]):=by
 subst h ha hb;rfl
theorem qB {s:ByteArray} (h:s.size=0):find s=(0,0):=by
 have:s=⟨#[]⟩:=by
  cases s with
  |mk d=>
   have:d= #[]:=Array.eq_empty_of_size_eq_zero h;rw [this]
 rw [this];decide +kernel
theorem rz (t:Int) (w:World):Calls Tryz.prog 151 #[.int .i64 t] w fun e w'=>e= .returned (.string (letter t))∧w'=w:=by
 by_cases h1:t=1
 ·subst h1;go_enter Tryz.func151,Tryz.ntmps151;go_wp2;go_ret;exact⟨rfl,rfl⟩
 by_cases h2:t=2
 ·subst h2;go_enter Tryz.func151,Tryz.ntmps151;go_wp2;go_ret;exact⟨rfl,rfl⟩
 by_cases h3:t=3
 ·subst h3;go_enter Tryz.func151,Tryz.ntmps151;go_wp2;go_ret;exact⟨rfl,rfl⟩
 have HL:Hid (letter t=⟨#[110]⟩):=ae (by simp [letter,h1,h2,h3]);go_enter Tryz.func151,Tryz.ntmps151
 go_wp2
 go_ret;exact⟨lJ HL.out.symm,rfl⟩
theorem jT (op t:Int) (w:World):Calls Tryz.prog 72 #[.int .i64 op,.int .i64 t] w fun e w'=>e= .returned (.bool (may op t))∧w'=w:=by
 by_cases h1:op=20
 ·subst h1;have HL:Hid (may 20 t=decide (t=1∨t=2∨t=3)):=ae rfl;go_enter Tryz.func72,Tryz.ntmps72
  go_wp2
  all_goals (go_ret;refine⟨aw ?_,rfl⟩;rw [HL.out,Bool.eq_iff_iff];simp;try omega)
 by_cases h2:op=21
 ·subst h2;have HL:Hid (may 21 t=decide (t=0∨t=1∨t=2)):=ae rfl;go_enter Tryz.func72,Tryz.ntmps72
  go_wp2
  all_goals (go_ret;refine⟨aw ?_,rfl⟩;rw [HL.out,Bool.eq_iff_iff];simp;try omega)
 by_cases h3:op=24
 ·subst h3;have HL:Hid (may 24 t=decide (t=2∨t=3)):=ae rfl;go_enter Tryz.func72,Tryz.ntmps72
  go_wp2
  all_goals (go_ret;refine⟨aw ?_,rfl⟩;rw [HL.out,Bool.eq_iff_iff];simp;try omega)
 have HL:Hid (may op t=decide (t=0)):=ae (by simp [may,h1,h2,h3]);go_enter Tryz.func72,Tryz.ntmps72
 go_wp2
 all_goals (go_ret;refine⟨aw ?_,rfl⟩;rw [HL.out,Bool.eq_iff_iff];simp;try omega)
theorem EH (l:List Int) (w:World) (t:TypeId):∀i,i < l.length→(w.alloc (.cells (l.map (Value.int .i64)).toArray t)).cell? ⟨w.heap.size,i,none⟩=some (.int .i64 (nth l i)):=by
 intro i hi;rw [Joins.cell_alloc_mark_at _ _ _ _ _ _ rfl];simp [nth,hi]
def kO:Array Value:=((List.range 30).map (fun k=>Value.string (word k))).toArray
theorem CE (w:World) (t:TypeId) (k:Nat) (hk:k < 30):(w.alloc (.cells kO t)).cell? ⟨w.heap.size,k,none⟩=some (.string (word k)):=by
 rw [Joins.cell_alloc_mark_at _ _ _ _ _ _ rfl];simp [kO,hk]
theorem zZ (k:Nat) (w:World) (h0:1≤k) (h1:k≤29):Calls Tryz.prog 150 #[.int .i64 k] w fun e w'=>e= .returned (.string (word k))∧Below w.heap.size w w':=by
 have hc:=CE w 9 k (by omega);have HB:=ae (ah w (.cells kO 9));go_enter Tryz.func150,Tryz.ntmps150
 go_upto_region 2 with fail
 show Code.wp _ _ _ _ (w.alloc (.cells kO 9));generalize w.alloc (.cells kO 9)=W at *;go_wp2_with fail
 go_ret;exact⟨rfl,HB.out⟩
theorem vM (op:Int) (w:World) (h:¬(1≤op∧op≤29)):Calls Tryz.prog 150 #[.int .i64 op] w fun e w'=>e= .returned (.string (word 0))∧Below w.heap.size w w':=by
 have HB:=ae (ah w (.cells kO 9));by_cases h1:op < 1
 all_goals
  go_enter Tryz.func150,Tryz.ntmps150
  go_upto_region 2 with fail
  show Code.wp _ _ _ _ (w.alloc (.cells kO 9));generalize w.alloc (.cells kO 9)=W at *;go_wp2_with fail
  go_ret;exact⟨rfl,HB.out⟩
theorem ox (op:Int) (w:World):Calls Tryz.prog 150 #[.int .i64 op] w fun e w'=>e= .returned (.string (word (num op)))∧Below w.heap.size w w':=by
 by_cases h:1≤op∧op≤29
 ·have e:op=(op.toNat:Int):=by omega
  have:=zZ op.toNat w (by omega) (by omega);rw [←e] at this;rwa [show num op=op.toNat from if_pos h]
 ·rw [jL h];exact vM op w h
theorem nr (op t:Int) (a b c d e f:Value) (w:World):Calls Tryz.prog 133 #[.agg #[.int .i64 op,a,b,.int .i64 t,c,d,e,f]] w fun e w'=>e= .returned (.string (kg op t))∧Below w.heap.size w w':=by
 have HB:=ae (Box.new w [.int .i64 op,a,b,.int .i64 t,c,d,e,f] 47);have Hb:=ae (ah w (.cells #[.int .i64 op,a,b,.int .i64 t,c,d,e,f] 47))
 cases h:beside (num op) 128
 ·have HM:=ae (vY (t:=t) h);replace h:=ae h;go_enter Tryz.func133,Tryz.ntmps133
  go_wp2_with fail
  refine(lK op _).mono ?_;rintro e w1 ⟨rfl,rfl⟩;rw [h.out];go_wp2_with fail
  refine(ox op _).mono ?_;rintro e w2 ⟨rfl,b2⟩;go_wp2_with fail
  go_ret;exact⟨lJ HM.out,af Hb.out b2⟩
 ·have HM:=ae (vV (t:=t) h);replace h:=ae h;go_enter Tryz.func133,Tryz.ntmps133
  go_wp2_with fail
  refine(lK op _).mono ?_;rintro e w1 ⟨rfl,rfl⟩;rw [h.out];have hz:=Cv op;have hl:=xh t;have c0:=fun x=>(bu HB.out x).2 0 _ rfl;have c3:=fun x=>(bu HB.out x).2 3 _ rfl;go_wp2_with fail
  refine aE (by kernel_rfl) (by kernel_rfl) ?_;repeat (go_big_quiet_step ((first
   |(go_at_call 150;exact bC (ox op _))
   |(go_at_call 151;exact cX (rz t _)))))
  refine wpQuiet_nil ?_;rintro _ ⟨x,rfl⟩;go_wp2_with fail
  go_ret;exact⟨lJ HM.out,af Hb.out (ax _ x)⟩
theorem sr {k:Nat} (l:List Int) (hl:takes k=l) (w:World) (n cap:Nat) (hn:l.length=n) (C:Array Value) (hC:(l.map (Value.int .i64)).toArray=C):
  qI (takes k) w (.returned (.slice (some ⟨w.heap.size,0,none⟩) n cap)) (w.alloc (.cells C 3)):=by
 subst hn hC;rw [hl];exact⟨_,_,rfl,.inr ⟨_,rfl,by simp,EH l w 3⟩,ah _ _⟩
theorem dL {op:Int} (k:Int) (l:List Int) (h:(op == k)=true) (hl:takes (num k)=l) (w:World) (n cap:Nat) (hn:l.length=n) (C:Array Value) (hC:(l.map (Value.int .i64)).toArray=C):
  qI (takes (num op)) w (.returned (.slice (some ⟨w.heap.size,0,none⟩) n cap)) (w.alloc (.cells C 3)):=by
 have:op=k:=by simpa using h
 subst this;exact sr l hl w n cap hn C hC
theorem Bh {op:Int} (h1:2≤op) (h2:op≤7):takes (num op)= [1,1]:=by
 have hk:∀k,k≤7→2≤k→takes k= [1,1]:=by decide +kernel
 rw [show num op=op.toNat from if_pos (by omega)];exact hk _ (by omega) (by omega)
theorem yL {op:Int} (h:¬(2≤op∧op≤7)) (h2: [9,14,11,12,15,25,13,16,17,18,19,22,27].contains op=false):takes (num op)= []:=by
 by_cases ho:1≤op∧op≤29
 ·have e:op=((op.toNat:Nat):Int):=by omega
  have hk:∀k,k≤29→¬(2≤k∧k≤7)→ [9,14,11,12,15,25,13,16,17,18,19,22,27].contains ((k:Nat):Int)=false→takes k= []:=by decide +kernel
  rw [show num op=op.toNat from if_pos ho];exact hk op.toNat (by omega) (by omega) (by rw [←e];exact h2)
 ·rw [jL ho];rfl
theorem zR {op:Int} (h:¬(2≤op∧op≤7)) (h9:(op == 9)=false) (h14:(op == 14)=false) (h11:(op == 11)=false) (h12:(op == 12)=false) (h15:(op == 15)=false) (h25:(op == 25)=false) (h13:(op == 13)=false) (h16:(op == 16)=false) (h17:(op == 17)=false) (h18:(op == 18)=false) (h19:(op == 19)=false) (h22:(op == 22)=false) (h27:(op == 27)=false) (w:World):
  qI (takes (num op)) w (.returned (.slice none 0 0)) w:=by
 rw [yL h (by simp only [List.contains_cons,List.contains_nil,h9,h14,h11,h12,h15,h25,h13,h16,h17,h18,h19,h22,h27];rfl)];exact⟨none,0,rfl,.inl rfl,Below.refl _ _⟩
theorem uA (op:Int) (w:World) (h1:2≤op) (h2:op≤7):Calls Tryz.prog 104 #[.int .i64 op] w (qI (takes (num op)) w):=by
 have HL:=ae (Bh h1 h2);go_enter Tryz.func104,Tryz.ntmps104
 go_wp2_with fail
 go_ret;exact sr [1,1] HL.out w _ _ rfl _ rfl
theorem rh (op:Int) (w:World) (h:¬(2≤op∧op≤7)):Calls Tryz.prog 104 #[.int .i64 op] w (qI (takes (num op)) w):=by
 have HH:=ae h;by_cases hx:2≤op
 all_goals
  go_enter Tryz.func104,Tryz.ntmps104
  go_wp2_with fail
  all_goals go_ret
  all_goals first
   |exact dL 9 [2,2] (by assumption) rfl w _ _ rfl _ rfl
   |exact dL 14 [2,2] (by assumption) rfl w _ _ rfl _ rfl
   |exact dL 11 [2] (by assumption) rfl w _ _ rfl _ rfl
   |exact dL 12 [2] (by assumption) rfl w _ _ rfl _ rfl
   |exact dL 15 [2] (by assumption) rfl w _ _ rfl _ rfl
   |exact dL 25 [2] (by assumption) rfl w _ _ rfl _ rfl
   |exact dL 13 [2,1] (by assumption) rfl w _ _ rfl _ rfl
   |exact dL 16 [3] (by assumption) rfl w _ _ rfl _ rfl
   |exact dL 17 [3] (by assumption) rfl w _ _ rfl _ rfl
   |exact dL 18 [3,1] (by assumption) rfl w _ _ rfl _ rfl
   |exact dL 19 [3,2] (by assumption) rfl w _ _ rfl _ rfl
   |exact dL 22 [1] (by assumption) rfl w _ _ rfl _ rfl
   |exact dL 27 [1] (by assumption) rfl w _ _ rfl _ rfl
   |exact zR HH.out (by assumption) (by assumption) (by assumption) (by assumption) (by assumption) (by assumption) (by assumption) (by assumption) (by assumption) (by assumption) (by assumption) (by assumption) (by assumption) w
theorem jC (op:Int) (w:World):Calls Tryz.prog 104 #[.int .i64 op] w (qI (takes (num op)) w):=by
 by_cases h:2≤op∧op≤7
 ·exact uA op w h.1 h.2
 ·exact rh op w h
theorem bG (s:ByteArray):s.data.toList.length=s.size:=by simp
theorem dX (s:ByteArray) (h:s.size=0):s.toList.isEmpty=true:=by
 have:s.data.toList= []:=List.length_eq_zero_iff.1 (by rw [bG];exact h);rw [ByteArray.toList_eq,this];rfl
theorem cQ (s:ByteArray) (h:0 < s.size):s.toList.isEmpty=false:=by
 rw [ByteArray.toList_eq]
 cases e:s.data.toList with
 |nil=>have:=bG s;rw [e] at this;simp at this;omega
 |cons=>rfl
theorem tE (s:ByteArray) (w:World) (hs:0 < s.size):
  Calls Tryz.prog 108 #[.string s] w fun e w'=>e= .returned (.tuple #[.int .i64 (find s).1,.int .i64 (find s).2])∧Below w.heap.size w w':=by
 have hz:=cQ s hs;go_enter Tryz.func108,Tryz.ntmps108
 go_wp2_with fail
 go_loopw [4] (fun o wr=>∃k:Nat,1≤k∧k≤30∧o= .int .i64 k∧Below w.heap.size w wr∧Hid (Rest s k 0)) (fun o _=>30 - (intOf o).toNat)
 case atStart=>exact⟨1,by omega,by omega,rfl,Below.refl _ _,yd s⟩
 case round=>
  obtain⟨k,hk1,hk2,rfl,hB,HR⟩:=hrel;replace hB:=ae hB;by_cases hlt:k < 30
  ·have hd:decide ((k:Int)≤29)=true:=(by simp;omega);go_wp2_with fail
   go_loopw [5] (fun o wr=>∃j:Nat,j≤4∧o= .int .i64 j∧Below w.heap.size w wr∧Hid (Rest s k j)) (fun o _=>4 - (intOf o).toNat)
   case atStart=>exact⟨0,by omega,rfl,hB.out,HR⟩
   case round=>
    obtain⟨j,hj,rfl,hB2,HR2⟩:=hrel;replace hB2:=ae hB2;by_cases hjt:j < 4
    ·cases hm:may (k:Int) (j:Int)
     ·have HN:=ae (sH HR2.out hk1 (by omega) hjt (by rw [hm];rfl));replace hm:=ae hm;go_wp2_with fail
      refine(jT _ _ _).mono ?_;rintro e w1 ⟨rfl,rfl⟩;rw [hm.out];go_wp2_with fail
      go_roundw
      case rel=>exact⟨j+1,by omega,by go_num,hB2.out,HN⟩
      case measure=>simp [intOf];omega
     ·cases he:(kg (k:Int) (j:Int)).toList == s.toList
      ·have HN:=ae (sH HR2.out hk1 (by omega) hjt (by rw [hm,he];rfl));replace hm:=ae hm;go_wp2_with fail
       refine(jT _ _ _).mono ?_;rintro e w1 ⟨rfl,rfl⟩;rw [hm.out];go_wp2_with fail
       refine(nr _ _ _ _ _ _ _ _ _).mono ?_;rintro e w2 ⟨rfl,b2⟩;go_wp2_with fail
       go_roundw
       case rel=>exact⟨j+1,by omega,by go_num,af hB2.out b2,HN⟩
       case measure=>simp [intOf];omega
      ·have HN:=ae (ES HR2.out hk1 (by omega) hjt hm he);replace hm:=ae hm;go_wp2_with fail
       refine(jT _ _ _).mono ?_;rintro e w1 ⟨rfl,rfl⟩;rw [hm.out];go_wp2_with fail
       refine(nr _ _ _ _ _ _ _ _ _).mono ?_;rintro e w2 ⟨rfl,b2⟩;go_wp2_with fail
       go_ret2;exact⟨pX HN.out rfl rfl,af hB2.out b2⟩
    ·have:j=4:=(by omega);subst this;go_wp2_with fail
     go_roundw
     case rel=>exact⟨k+1,by omega,by omega,by go_num,hB2.out,ae (Bi HR2.out hk1)⟩
     case measure=>simp [intOf];omega
  ·go_wp2_with fail
   go_ret2;exact⟨pX (EV HR.out (by omega)) rfl rfl,hB.out⟩
theorem kE (s:ByteArray) (w:World):
  Calls Tryz.prog 108 #[.string s] w fun e w'=>e= .returned (.tuple #[.int .i64 (find s).1,.int .i64 (find s).2])∧Below w.heap.size w w':=by
 by_cases h:0 < s.size
 ·exact tE s w h
 ·have hz:=dX s (by omega);have HF:=ae (qB (s:=s) (by omega));go_enter Tryz.func108,Tryz.ntmps108
  go_wp2_with fail
  go_ret2;exact⟨pX HF.out rfl rfl,Below.refl _ _⟩
end Go.Proofs.YtljkgcfnoegibaaGreatDoor.L5
namespace Go.Proofs.YtljkgcfnoegibaaGreatDoor.L1
open Go.RowKit
def dN (c:UInt8):Bool:=decide (48≤c.toNat) && decide (c.toNat≤57)
def worth (l:List UInt8):Nat:=l.foldl (fun a c=>a * 10+(c.toNat - 48)) 0
def isNum (l:List UInt8):Bool:= !l.isEmpty && l.all dN && (l.head? != some 48 || l.length == 1)
theorem fC (c:UInt8):dN c=true↔48≤c.toNat∧c.toNat≤57:=by simp [dN]
theorem uQ (l:List UInt8) (a:Nat):l.foldl (fun a c=>a * 10+(c.toNat - 48)) a=a * 10 ^ l.length+worth l:=by
 unfold worth;induction l generalizing a with
 |nil=>simp
 |cons c l ih=>
  simp only [List.foldl_cons,List.length_cons];rw [ih (a * 10+(c.toNat - 48)),ih (0 * 10+(c.toNat - 48))];rw [Nat.pow_succ,Nat.add_mul,Nat.zero_mul,Nat.zero_add,Nat.mul_assoc,Nat.mul_comm 10 (10 ^ l.length)];omega
theorem eJ (a b:List UInt8):worth (a ++ b)=worth a * 10 ^ b.length+worth b:=by
 show(a ++ b).foldl _ 0=_;rw [List.foldl_append,uQ b];rfl
theorem lr (c:UInt8):worth [c]=c.toNat - 48:=by simp [worth]
theorem j9 (l:List UInt8) (c:UInt8):worth (l ++ [c])=worth l * 10+(c.toNat - 48):=by
 rw [eJ,lr];simp
def ld (l:List UInt8):Bool:=l.head? == some 45
def cf (l:List UInt8):List UInt8:=if ld l then l.tail else l
def aO (l:List UInt8):Int × Int:=
 if isNum (cf l)=true∧¬(ld l=true∧cf l= [48])then
  if ld l=true then(if worth (cf l)≤9223372036854775808 then(- (worth (cf l):Int),0)else(0,18))
  else(if worth (cf l)≤9223372036854775807 then((worth (cf l):Int),0)else(0,18))
 else(0,3)
def cZ (l:List UInt8) (most:Int):Int × Int:=
 if(aO l).2≠0 then(0,(aO l).2)else if(aO l).1 < 0∨most < (aO l).1 then(0,18)else((aO l).1,0)
theorem iX (l:List UInt8): -9223372036854775808≤(aO l).1∧(aO l).1≤9223372036854775807:=by
 unfold aO;split
 ·split
  ·split
   ·simp only;omega
   ·simp
  ·split
   ·simp only;omega
   ·simp
 ·simp
theorem ae {p:Prop} (h:p):Hid p:=h
theorem ay {p:Prop} (h:Hid p):p:=h
theorem eI (c:UInt8) (k:Nat) (hk:k < 256):c.toNat=k↔c=UInt8.ofNat k:=by
 constructor
 ·intro h;apply UInt8.toNat_inj.1;rw [h];simp [UInt8.toNat_ofNat'];omega
 ·rintro rfl;simp [UInt8.toNat_ofNat'];omega
theorem Aq (s:ByteArray) (h:0 < s.size):s.data.toList.head? =some s[0]:=by
 rw [List.head?_eq_getElem?,List.getElem?_eq_getElem (by simpa using h)];rfl
theorem bG (s:ByteArray):s.data.toList.length=s.size:=by simp
theorem dX (s:ByteArray) (h:s.size=0):s.toList.isEmpty=true∧s.data.toList= []:=by
 have:s.data.toList= []:=List.length_eq_zero_iff.1 (by rw [bG];exact h);exact⟨by rw [ByteArray.toList_eq,this];rfl,this⟩
theorem cQ (s:ByteArray) (h:0 < s.size):s.toList.isEmpty=false∧s.data.toList.isEmpty=false:=by
 have:s.data.toList.isEmpty=false:=by
  cases e:s.data.toList with
  |nil=>have:=bG s;rw [e] at this;simp at this;omega
  |cons=>rfl
 exact⟨by rw [ByteArray.toList_eq,this],this⟩
def Et (m:Int) (l:List UInt8):Int × Int:=if l.all dN=true then(if(worth l:Int)≤m then((worth l:Int),0)else(0,18))else(0,3)
theorem gn (s:ByteArray) (k:Nat) (h:k < s.size):s.data.toList.take (k+1)=s.data.toList.take k ++ [s[k]]:=by
 rw [List.take_succ_eq_append_getElem (by simpa using h)];rfl
theorem jr (s:ByteArray) (k:Nat) (h:¬k < s.size):s.data.toList.take k=s.data.toList:=List.take_of_length_le (by rw [bG];omega)
theorem Ax {k:IntKind} {j:IntKind} {a b c d:Int} (h:a=b) (h':c=d):Ending.returned (.tuple #[.int k a,.int j c])= .returned (.tuple #[.int k b,.int j d]):=by rw [h,h']
theorem Cp {m:Int} (s:ByteArray) (k:Nat) (hk:k < s.size) (hd:¬(48≤(s[k].toNat:Int)∧(s[k].toNat:Int)≤57)):Et m s.data.toList=(0,3):=by
 unfold Et;rw [if_neg];intro h;have:=(fC _).1 (List.all_eq_true.1 h s[k] (by
  have:s.data.toList[k]? =some s[k]:=by rw [List.getElem?_eq_getElem (by simpa using hk)];rfl
  exact List.mem_of_getElem? this))
 omega
theorem lE (l:List UInt8):isNum l=true↔l.isEmpty=false∧l.all dN=true∧(l.head? ≠some 48∨l.length=1):=by
 simp only [isNum,Bool.and_eq_true,Bool.or_eq_true,bne_iff_ne,beq_iff_eq,Bool.not_eq_true'];exact⟨fun h=>⟨h.1.1,h.1.2,h.2⟩,fun h=>⟨⟨h.1,h.2.1⟩,h.2.2⟩⟩
theorem jK (l:List UInt8) (m:Int) (h:(aO l).2≠0):cZ l m=(0,(aO l).2):=by unfold cZ;rw [if_pos h]
theorem jF (l:List UInt8) (m:Int) (h:(aO l).2=0) (h1:(aO l).1 < 0∨m < (aO l).1):cZ l m=(0,18):=by unfold cZ;rw [if_neg (by simpa using h),if_pos h1]
theorem kH (l:List UInt8) (m:Int) (h:(aO l).2=0) (h1:¬((aO l).1 < 0∨m < (aO l).1)):cZ l m=((aO l).1,0):=by unfold cZ;rw [if_neg (by simpa using h),if_neg h1]
end Go.Proofs.YtljkgcfnoegibaaGreatDoor.L1
