/- Texts of one chain, joined. -/
import Derived.Laws.BitsLemmas
import Derived.Laws.BitsAllLaws
import Derived.RowKit
import Derived.Test.YtaiaakklokahjaaGreatDoorProg
import Derived.WalkKit
import Derived.WalkSpells
import Derived.WalkSmall
import Derived.WalkLawsBesides
import Derived.KernelRfl
import Derived.Below
import Derived.Deep.QuietTactic
import Derived.BigQuiet
import Derived.RegionTactic
import Derived.BigRegion
import Derived.Lib.SmallJoins
import Derived.Deep.Cut
import Derived.Laws.AppendOwn
import Derived.OwnWalk
import Derived.Lib.OthersKept
set_option maxHeartbeats 400000
namespace Go.Proofs.YtaiaakklokahjaaGreatDoor.L5
set_option maxRecDepth 8000
open Go
open Go Go.RowKit
def tab:List (List UInt8 × Int × Int × Int × Int):= [
 ([],0,0,0,0),
 ([99,111,110,115,116],0,0,1,32),
 ([97,100,100],1,1,1,32),
 ([115,117,98],1,1,1,32),
 ([109,117,108],1,1,1,32),
 ([100,105,118],1,1,1,1),
 ([108,116],1,1,1,32),
 ([101,113],1,1,1,32),
 ([110,105,108],0,0,2,32),
 ([115,97,109,101],2,2,1,32),
 ([110,101,119],0,0,2,0),
 ([108,111,97,100,46,105],2,0,1,3),
 ([108,111,97,100,46,112],2,0,2,3),
 ([115,116,111,114,101,46,105],2,1,0,5),
 ([115,116,111,114,101,46,112],2,2,0,5),
 ([115,108,111,116],2,0,3,1),
 ([103,101,116,46,105],3,0,1,3),
 ([103,101,116,46,112],3,0,2,3),
 ([112,117,116,46,105],3,1,0,5),
 ([112,117,116,46,112],3,2,0,5),
 ([112,104,105],0,0,0,128),
 ([99,97,108,108],0,0,0,199),
 ([111,117,116],1,0,0,16),
 ([112,111,108,108],0,0,0,80),
 ([114,101,108,111,99],0,0,0,128),
 ([109,97,114,107],2,0,0,16),
 ([98,114],0,0,0,8),
 ([105,102],1,0,0,8),
 ([114,101,116],0,0,0,8),
 ([102,97,105,108],0,0,0,9)]
def num (op:Int):Nat:=if 1≤op∧op≤29 then op.toNat else 0
def rowAt (k:Nat):List UInt8 × Int × Int × Int × Int:=tab.getD k ([],0,0,0,0)
def letters (k:Nat):List UInt8:=(rowAt k).1
def tk0 (k:Nat):Int:=(rowAt k).2.1
def tk1 (k:Nat):Int:=(rowAt k).2.2.1
def mk (k:Nat):Int:=(rowAt k).2.2.2.1
def ds (k:Nat):Int:=(rowAt k).2.2.2.2
def word (k:Nat):ByteArray:=⟨(letters k).toArray⟩
theorem J1 (op:Int):num op≤29:=by unfold num;split <;> omega
theorem iX {op:Int} (h:¬(1≤op∧op≤29)):num op=0:=by unfold num;rw [if_neg h]
def dt (k:Nat):Value:= .agg #[.string (word k),.int .i64 (tk0 k),.int .i64 (tk1 k),.int .i64 (mk k),.int .i64 (ds k)]
def beside (k:Nat) (things:Int):Bool:=bits BinOp.and .i64 (ds k) things != 0
theorem ny {l:List Int} {things:Int} (h:∀k,k < 30→l.contains ((k:Nat):Int)=beside k things) (hl:l.all (fun x=>decide (1≤x) && decide (x≤29))=true) (op:Int):l.contains op=beside (num op) things:=by
 by_cases ho:1≤op∧op≤29
 ·have e:op=((op.toNat:Nat):Int):=by omega
  have:=h op.toNat (by omega);rw [←e] at this;rw [this,show num op=op.toNat from if_pos ho]
 ·have h0:=h 0 (by omega);rw [iX ho,←h0];have no:∀x:Int,¬(1≤x∧x≤29)→l.contains x=false:=by
   intro x hx;rw [Bool.eq_false_iff];intro hc;have:=List.all_eq_true.1 hl x (by simpa using hc);simp only [Bool.and_eq_true,decide_eq_true_eq] at this;exact hx this
  rw [no op ho,no ((0:Nat):Int) (by omega)]
def Et:List Int:= [20,21,24]
theorem FA (op:Int):Et.contains op=beside (num op) 128:=ny (by decide +kernel) (by decide) op
def letter (t:Int):ByteArray:=if t=1 then⟨#[105]⟩else if t=2 then⟨#[112]⟩else if t=3 then⟨#[100]⟩else⟨#[110]⟩
def may (op t:Int):Bool:=
 if op=20 then decide (t=1∨t=2∨t=3)else if op=21 then decide (t=0∨t=1∨t=2)else if op=24 then decide (t=2∨t=3)else decide (t=0)
def ja (op t:Int):ByteArray:=if beside (num op) 128 then word (num op) ++ ⟨#[46]⟩ ++ letter t else word (num op)
def cn (op t:Int):Int:=if beside (num op) 128 then t else mk (num op)
def takes (k:Nat):List Int:= [tk0 k,tk1 k].filter (fun x=>x != 0)
def hit (s:ByteArray) (i:Nat):Bool:=may ((i / 4+1:Nat):Int) ((i % 4:Nat):Int) && (ja ((i / 4+1:Nat):Int) ((i % 4:Nat):Int)).toList == s.toList
def lr (s:ByteArray):Nat→Nat→Int × Int
 |0,_=>(0,0)
 |n+1,i=>if hit s i then(((i / 4+1:Nat):Int),((i % 4:Nat):Int))else lr s n (i+1)
def find (s:ByteArray):Int × Int:=lr s 116 0
theorem aa {p:Prop} (h:p):Hid p:=h
theorem aw {x y:Bool} (h:x=y):Ending.returned (.bool x)= .returned (.bool y):=by rw [h]
theorem aX {x y:Int} (h:x=y):Ending.returned (.int .i64 x)= .returned (.int .i64 y):=by rw [h]
theorem jW {x y:ByteArray} (h:x=y):Ending.returned (.string x)= .returned (.string y):=by rw [h]
theorem af (w:World) (o:Obj):Below w.heap.size w (w.alloc o):=(Below.refl _ _).alloc (Nat.le_refl _) _
theorem qO {w w1:World} {o:Obj} (h:Below (w.alloc o).heap.size (w.alloc o) w1):Below w.heap.size w w1:=(af w o).trans (h.mono (by simp))
theorem ae {a b c:World} (h:Below a.heap.size a b) (k:Below b.heap.size b c):Below a.heap.size a c:=h.trans (k.mono h.size)
def Tab (w:World):Prop:=1 < w.heap.size∧∀k,k < 30→
 w.cell? ⟨1,k * 5,none⟩=some (.string (word k))∧w.cell? ⟨1,k * 5+1,none⟩=some (.int .i64 (tk0 k))∧w.cell? ⟨1,k * 5+2,none⟩=some (.int .i64 (tk1 k))∧w.cell? ⟨1,k * 5+3,none⟩=some (.int .i64 (mk k))∧w.cell? ⟨1,k * 5+4,none⟩=some (.int .i64 (ds k))
theorem Tab.below {w w':World} (h:Tab w) (b:Below w.heap.size w w'):Tab w':=
 ⟨Nat.lt_of_lt_of_le h.1 b.size,fun k hk=>by
  obtain⟨h0,h1,h2,h3,h4⟩:=h.2 k hk;exact⟨(b.cell h.1).trans h0,(b.cell h.1).trans h1,(b.cell h.1).trans h2,(b.cell h.1).trans h3,(b.cell h.1).trans h4⟩⟩
theorem Ew (k:Nat) (w:World) (h0:1≤k) (h1:k≤29) (ht:Tab w):
  Calls Tryz.prog 114 #[.int .i64 k] w fun e w'=>e= .returned (dt k)∧Below w.heap.size w w':=by
 have T:=ht.below (af w (.cells #[.string ⟨#[]⟩,.int .i64 0,.int .i64 0,.int .i64 0,.int .i64 0] 145));obtain⟨c0,c1,c2,c3,c4⟩:=T.2 k (by omega);clear T ht;go_enter Tryz.func114,Tryz.ntmps114
 go_wp2_with fail
 exact bodyPost_ret (v:=dt k) (by simp [results,Tryz.results114,go_sem,dt]) rfl ⟨rfl,af _ _⟩
theorem xN (op:Int) (w:World) (h:¬(1≤op∧op≤29)) (ht:Tab w):
  Calls Tryz.prog 114 #[.int .i64 op] w fun e w'=>e= .returned (dt 0)∧Below w.heap.size w w':=by
 have T:=ht.below (af w (.cells #[.string ⟨#[]⟩,.int .i64 0,.int .i64 0,.int .i64 0,.int .i64 0] 145));obtain⟨c0,c1,c2,c3,c4⟩:=T.2 0 (by omega);simp only [Nat.zero_mul,Nat.zero_add] at c0 c1 c2 c3 c4;clear T ht;by_cases h1:op < 1
 all_goals
  go_enter Tryz.func114,Tryz.ntmps114
  go_wp2_with fail
  exact bodyPost_ret (v:=dt 0) (by simp [results,Tryz.results114,go_sem,dt]) rfl ⟨rfl,af _ _⟩
theorem ru (op:Int) (w:World) (ht:Tab w):
  Calls Tryz.prog 114 #[.int .i64 op] w fun e w'=>e= .returned (dt (num op))∧Below w.heap.size w w':=by
 by_cases h:1≤op∧op≤29
 ·have e:op=(op.toNat:Int):=by omega
  have:=Ew op.toNat w (by omega) (by omega) ht;rw [←e] at this;rwa [show num op=op.toNat from if_pos h]
 ·rw [iX h];exact xN op w h ht
theorem sU (a b c d e:Value) (w:World):Sem.run Tryz.prog (Instr.field 145 (.agg #[a,b,c,d,e]) 2) w= .ok d w:=rfl
theorem kQ (a b c d e:Value) (w:World):Sem.run Tryz.prog (Instr.field 145 (.agg #[a,b,c,d,e]) 3) w= .ok e w:=rfl
theorem pJ (op things:Int) (w:World) (ht:Tab w):
  Calls Tryz.prog 113 #[.int .i64 op,.int .i64 things] w fun e w'=>e= .returned (.bool (beside (num op) things))∧Below w.heap.size w w':=by
 have hf:=kQ;go_enter Tryz.func113,Tryz.ntmps113
 go_wp2_with fail
 refine(ru op _ ht).mono ?_;rintro e w1 ⟨rfl,b1⟩;unfold dt;go_wp2_with fail
 go_ret;exact⟨rfl,b1⟩
theorem jU (op:Int) (w:World):Calls Tryz.prog 38 #[.int .i64 op] w fun e w'=>e= .returned (.bool (beside (num op) 128))∧w'=w:=by
 have HL:=aa (FA op);go_enter Tryz.func38,Tryz.ntmps38
 go_wp2
 all_goals (go_ret;refine⟨aw ?_,rfl⟩;rw [←HL.out,Bool.eq_iff_iff];simp [Et];try omega)
def nth (l:List Int) (i:Nat):Int:=l.getD i 0
def SlI (w:World) (ao:Option Addr) (l:List Int):Prop:=
 l= []∨∃b,ao=some ⟨b,0,none⟩∧b < w.heap.size∧∀i,i < l.length→w.cell? ⟨b,i,none⟩=some (.int .i64 (nth l i))
theorem SlI.below {w w':World} {ao:Option Addr} {l:List Int} (h:SlI w ao l) (hb:Below w.heap.size w w'):SlI w' ao l:=by
 rcases h with h | ⟨b,e,hl,hc⟩
 ·exact .inl h
 ·exact .inr ⟨b,e,Nat.lt_of_lt_of_le hl hb.size,fun i hi=>(hb.cell (p:=⟨b,i,none⟩) hl).trans (hc i hi)⟩
def Box (w:World) (g:Nat) (l:List Value):Prop:=g < w.heap.size∧∀i v,l[i]? =some v→w.cell? ⟨g,i,none⟩=some v
theorem Box.new (w:World) (l:List Value) (t:TypeId):Box (w.alloc (.cells l.toArray t)) w.heap.size l:=
 ⟨by simp,fun i v h=>by rw [Joins.cell_alloc_mark_at _ _ _ _ _ _ rfl];simpa using h⟩
theorem Box.below {w w1:World} {g:Nat} {l:List Value} (h:Box w g l) (hb:Below w.heap.size w w1):Box w1 g l:=
 ⟨Nat.lt_of_lt_of_le h.1 hb.size,fun i v hi=>(hb.cell (p:=⟨g,i,none⟩) h.1).trans (h.2 i v hi)⟩
theorem aW (w:World):Below w.heap.size w w.drew:=(Below.refl _ _).drew
open Classical in
noncomputable def bM (W x:World):World:=if Below W.heap.size W x then x else W.drew
theorem aD (W x:World):Below W.heap.size W (bM W x):=by
 unfold bM;split
 ·assumption
 ·exact aW W
theorem rk {W w':World} (h:Below W.heap.size W w'):w'=bM W w':=by unfold bM;rw [if_pos h]
theorem aM {P:Program} {id:Nat} {Q:Exit→Act→World→Prop} {a:Act} {W:World} {l:List Oper} (hm:P.follows .mixedOrders=true) (hB:Region.lexB .any l.toArray=true)
  (h:wpQuiet P l.toArray (fun w'=>∃x:World,w'=bM W x) (fun a'=>∀w',(∃x:World,w'=bM W x)→Q .normal a' w') l a):(Code.region id l.toArray true).wp P Q a W:=
 wp_region_quiet (C:=fun w'=>∃x:World,w'=bM W x) hm hB ⟨W.drew,rk (aW W)⟩ (by simpa using h)
theorem eT {P:Program} {f:FuncId} {args:Array Value} {W:World} {x:World} {v:Value}
  (h:Calls P f args (bM W x) fun e w'=>e= .returned v∧Below (bM W x).heap.size (bM W x) w'):
  Calls P f args (bM W x) fun e w''=>e= .returned v∧∃y:World,w''=bM W y:=
 h.mono fun _ _ ⟨he,hb⟩=>⟨he,_,rk (ae (aD W x) hb)⟩
theorem bV {P:Program} {f:FuncId} {args:Array Value} {W:World} {x:World} {v:Value}
  (h:Calls P f args (bM W x) fun e w'=>e= .returned v∧w'=bM W x):
  Calls P f args (bM W x) fun e w''=>e= .returned v∧∃y:World,w''=bM W y:=
 h.mono fun _ _ ⟨he,hb⟩=>⟨he,x,hb⟩
theorem bG {W:World} {g:Nat} {l:List Value} (h:Box W g l) (x:World):Box (bM W x) g l:=h.below (aD W x)
theorem uM {op t:Int} (h:beside (num op) 128=true):word (num op) ++ ⟨#[46]⟩ ++ letter t=ja op t:=by unfold ja;rw [if_pos h]
theorem vj {op t:Int} (h:beside (num op) 128=false):word (num op)=ja op t:=by unfold ja;rw [if_neg (by simp [h])]
theorem lq {op t:Int} (h:beside (num op) 128=true):t=cn op t:=by unfold cn;rw [if_pos h]
theorem lQ {op t:Int} (h:beside (num op) 128=false):mk (num op)=cn op t:=by unfold cn;rw [if_neg (by simp [h])]
theorem Bb (op t:Int) (a b c d e f:Value) (w:World) (ht:Tab w):Calls Tryz.prog 76 #[.agg #[.int .i64 op,a,b,.int .i64 t,c,d,e,f]] w fun e w'=>e= .returned (.int .i64 (cn op t))∧Below w.heap.size w w':=by
 have hf:=sU;have HB:=aa (Box.new w [.int .i64 op,a,b,.int .i64 t,c,d,e,f] 41);have HT:=aa (ht.below (af w (.cells #[.int .i64 op,a,b,.int .i64 t,c,d,e,f] 41)));clear ht
 cases h:beside (num op) 128
 ·have HM:=aa (lQ (t:=t) h);replace h:=aa h;go_enter Tryz.func76,Tryz.ntmps76
  go_wp2_with fail
  refine(pJ op 128 _ HT.out).mono ?_;rintro e w1 ⟨rfl,b1⟩;rw [h.out];have c0:=(HB.out.below b1).2 0 _ rfl;go_wp2_with fail
  refine(ru op _ (HT.out.below b1)).mono ?_;rintro e w2 ⟨rfl,b2⟩;unfold dt;go_wp2_with fail
  go_ret;exact⟨aX HM.out,ae (qO b1) b2⟩
 ·have HM:=aa (lq (t:=t) h);replace h:=aa h;go_enter Tryz.func76,Tryz.ntmps76
  go_wp2_with fail
  refine(pJ op 128 _ HT.out).mono ?_;rintro e w1 ⟨rfl,b1⟩;rw [h.out];have c0:=(HB.out.below b1).2 3 _ rfl;go_wp2_with fail
  go_ret;exact⟨aX HM.out,qO b1⟩
theorem zG (op:Int):(word (num op)).size≤7:=by
 have:∀k,k≤29→(word k).size≤7:=by decide
 exact this _ (J1 op)
theorem uT (t:Int):(letter t).size=1:=by unfold letter;split <;> (try split) <;> (try split) <;> rfl
theorem FE {op:Int} (h: [1,2,3,4,5,6,7,9,11,16,8,10,12,17,15].contains op=false):mk (num op)=0:=by
 by_cases ho:1≤op∧op≤29
 ·have e:op=((op.toNat:Nat):Int):=by omega
  have hk:∀k,k≤29→ [1,2,3,4,5,6,7,9,11,16,8,10,12,17,15].contains ((k:Nat):Int)=false→mk k=0:=by decide +kernel
  rw [show num op=op.toNat from if_pos ho];exact hk op.toNat (by omega) (by rw [←e];exact h)
 ·rw [iX ho];rfl
theorem fY {op:Int} (k v:Int) (h:(op == k)=true) (hv:mk (num k)=v):v=mk (num op):=by
 rw [←hv,show op=k by simpa using h]
theorem I7 {op:Int} (h1:(op == 1)=false) (h2:(op == 2)=false) (h3:(op == 3)=false) (h4:(op == 4)=false) (h5:(op == 5)=false) (h6:(op == 6)=false) (h7:(op == 7)=false) (h9:(op == 9)=false) (h11:(op == 11)=false) (h16:(op == 16)=false)
  (h8:(op == 8)=false) (h10:(op == 10)=false) (h12:(op == 12)=false) (h17:(op == 17)=false) (h15:(op == 15)=false):0=mk (num op):=by
 refine(FE ?_).symm;simp only [List.contains_cons,List.contains_nil,h1,h2,h3,h4,h5,h6,h7,h8,h9,h10,h11,h12,h15,h16,h17];rfl
theorem db (op t:Int) (a b c d e f:Value) (w:World):Calls Tryz.prog 13 #[.agg #[.int .i64 op,a,b,.int .i64 t,c,d,e,f]] w fun e w'=>e= .returned (.int .i64 (cn op t))∧Below w.heap.size w w':=by
 have Hb:=aa (af w (.cells #[.int .i64 op,a,b,.int .i64 t,c,d,e,f] 41))
 cases h:beside (num op) 128
 ·have HM:=aa (lQ (t:=t) h);replace h:=aa h;go_enter Tryz.func13,Tryz.ntmps13
  go_wp2_with fail
  refine(jU op _).mono ?_;rintro e w1 ⟨rfl,rfl⟩;rw [h.out];go_wp2_with fail
  all_goals (go_ret;refine⟨aX ?_,Hb.out⟩;rw [←HM.out])
  all_goals first
   |exact fY 1 1 (by assumption) rfl
   |exact fY 2 1 (by assumption) rfl
   |exact fY 3 1 (by assumption) rfl
   |exact fY 4 1 (by assumption) rfl
   |exact fY 5 1 (by assumption) rfl
   |exact fY 6 1 (by assumption) rfl
   |exact fY 7 1 (by assumption) rfl
   |exact fY 9 1 (by assumption) rfl
   |exact fY 11 1 (by assumption) rfl
   |exact fY 16 1 (by assumption) rfl
   |exact fY 8 2 (by assumption) rfl
   |exact fY 10 2 (by assumption) rfl
   |exact fY 12 2 (by assumption) rfl
   |exact fY 17 2 (by assumption) rfl
   |exact fY 15 3 (by assumption) rfl
   |exact I7 (by assumption) (by assumption) (by assumption) (by assumption) (by assumption) (by assumption) (by assumption) (by assumption) (by assumption) (by assumption) (by assumption) (by assumption) (by assumption) (by assumption) (by assumption)
 ·have HM:=aa (lq (t:=t) h);replace h:=aa h;go_enter Tryz.func13,Tryz.ntmps13
  go_wp2_with fail
  refine(jU op _).mono ?_;rintro e w1 ⟨rfl,rfl⟩;rw [h.out];go_wp2_with fail
  go_ret;exact⟨aX HM.out,Hb.out⟩
theorem Tryz.cU:(Tryz.prog.info? 3).map (fun i=>(i.zero,i.size,i.bytes))=some (some (.int .i64 0),1,8):=by kernel_rfl
def part (k:Nat):Nat→List Int
 |0=> []
 |1=> [tk0 k].filter (fun x=>x != 0)
 |_=>takes k
theorem one_cell {w1:World} {a:Value} {t:TypeId}:∀j u,[a][j]? =some u→(w1.alloc (.cells #[a] t)).cell? ((⟨w1.heap.size,0,none⟩:Addr).add j)=some u:=by
 intro j u hj;match j,hj with
 |0,hj=>simp at hj;subst hj;simp [Addr.add]
theorem one_one {a:Int}:∀u∈ [Value.int .i64 a],u.oneCell'=true:=by
 intro u hu;simp only [List.mem_singleton] at hu;subst hu;rfl
theorem zh {w:World} {B:Nat} {v:Value} {l:List Int} (h:w.ownsRow B 3 1 v l.length (l.map (Value.int .i64))):∃ao cap,v= .slice ao l.length cap∧SlI w ao l:=by
 rcases h.2 with ⟨rfl,h0⟩ | ⟨g,cap,cur,rfl,hb,hg,hc,_⟩
 ·have:l= []:=List.length_eq_zero_iff.1 h0;subst this;exact⟨none,0,rfl,.inl rfl⟩
 ·refine⟨some ⟨g,0,none⟩,cap,rfl,.inr ⟨g,rfl,(Array.getElem?_eq_some_iff.1 hg).1,fun i hi=> ?_⟩⟩;have ha:=h.cells (g:=g) rfl i (.int .i64 (nth l i)) (by simp [nth,hi]);rw [Addr.add_lit] at ha;simpa using ha
def qq (l:List Int) (w:World) (e:Ending) (w':World):Prop:=∃ao cap,e= .returned (.slice ao l.length cap)∧SlI w' ao l∧Below w.heap.size w w'
def Rest (s:ByteArray) (k j:Nat):Prop:=lr s (116 - (4 * (k - 1)+j)) (4 * (k - 1)+j)=find s
theorem vq (s:ByteArray):Rest s 1 0:=rfl
theorem zg {s:ByteArray} {k:Nat} (h:Rest s k 4) (hk:1≤k):Rest s (k+1) 0:=by
 unfold Rest at *;rw [show 4 * (k+1 - 1)+0=4 * (k - 1)+4 by omega];exact h
theorem JQ (s:ByteArray) {k j:Nat} (h1:1≤k) (hj:j < 4):hit s (4 * (k - 1)+j)=(may (k:Int) (j:Int) && (ja (k:Int) (j:Int)).toList == s.toList):=by
 unfold hit;rw [show(4 * (k - 1)+j) / 4+1=k by omega,show(4 * (k - 1)+j) % 4=j by omega]
theorem qX {s:ByteArray} {k j:Nat} (h:Rest s k j) (h1:1≤k) (h2:k≤29) (hj:j < 4):
  find s=if(may (k:Int) (j:Int) && (ja (k:Int) (j:Int)).toList == s.toList)then((k:Int),(j:Int))else lr s (116 - (4 * (k - 1)+(j+1))) (4 * (k - 1)+(j+1)):=by
 unfold Rest at h;rw [←h,show 116 - (4 * (k - 1)+j)=(116 - (4 * (k - 1)+(j+1)))+1 by omega,lr,JQ s h1 hj,show(4 * (k - 1)+j) / 4+1=k by omega,show(4 * (k - 1)+j) % 4=j by omega];rfl
theorem qs {s:ByteArray} {k j:Nat} (h:Rest s k j) (h1:1≤k) (h2:k≤29) (hj:j < 4) (hm:(may (k:Int) (j:Int) && (ja (k:Int) (j:Int)).toList == s.toList)=false):Rest s k (j+1):=by
 have:=qX h h1 h2 hj;rw [hm] at this;exact this.symm
theorem BH {s:ByteArray} {k j:Nat} (h:Rest s k j) (h1:1≤k) (h2:k≤29) (hj:j < 4) (hm:may (k:Int) (j:Int)=true) (he:((ja (k:Int) (j:Int)).toList == s.toList)=true):find s=((k:Int),(j:Int)):=by
 have:=qX h h1 h2 hj;rw [hm,he] at this;exact this
theorem EM {s:ByteArray} {k:Nat} (h:Rest s k 0) (hk:k=30):find s=(0,0):=by
 subst hk;exact h.symm
theorem o6 {a b c d:Int} {p:Int × Int} (h:p=(c,d)) (ha:a=c) (hb:b=d):Ending.returned (.tuple #[.int .i64 a,.int .i64 b])= .returned (.tuple #[.int .i64 p.1,.int .i64 p.2]):=by
 subst h ha hb;rfl
theorem py {s:ByteArray} (h:s.size=0):find s=(0,0):=by
 have:s=⟨#[]⟩:=by
  cases s with
  |mk d=>
   have:d= #[]:=Array.eq_empty_of_size_eq_zero h;rw [this]
 rw [this];decide +kernel
theorem pW (t:Int) (w:World):Calls Tryz.prog 192 #[.int .i64 t] w fun e w'=>e= .returned (.string (letter t))∧w'=w:=by
 by_cases h1:t=1
 ·subst h1;go_enter Tryz.func192,Tryz.ntmps192;go_wp2;go_ret;exact⟨rfl,rfl⟩
 by_cases h2:t=2
 ·subst h2;go_enter Tryz.func192,Tryz.ntmps192;go_wp2;go_ret;exact⟨rfl,rfl⟩
 by_cases h3:t=3
 ·subst h3;go_enter Tryz.func192,Tryz.ntmps192;go_wp2;go_ret;exact⟨rfl,rfl⟩
 have HL:Hid (letter t=⟨#[110]⟩):=aa (by simp [letter,h1,h2,h3]);go_enter Tryz.func192,Tryz.ntmps192
 go_wp2
 go_ret;exact⟨jW HL.out.symm,rfl⟩
theorem iA (op t:Int) (w:World):Calls Tryz.prog 128 #[.int .i64 op,.int .i64 t] w fun e w'=>e= .returned (.bool (may op t))∧w'=w:=by
 by_cases h1:op=20
 ·subst h1;have HL:Hid (may 20 t=decide (t=1∨t=2∨t=3)):=aa rfl;go_enter Tryz.func128,Tryz.ntmps128
  go_wp2
  all_goals (go_ret;refine⟨aw ?_,rfl⟩;rw [HL.out,Bool.eq_iff_iff];simp;try omega)
 by_cases h2:op=21
 ·subst h2;have HL:Hid (may 21 t=decide (t=0∨t=1∨t=2)):=aa rfl;go_enter Tryz.func128,Tryz.ntmps128
  go_wp2
  all_goals (go_ret;refine⟨aw ?_,rfl⟩;rw [HL.out,Bool.eq_iff_iff];simp;try omega)
 by_cases h3:op=24
 ·subst h3;have HL:Hid (may 24 t=decide (t=2∨t=3)):=aa rfl;go_enter Tryz.func128,Tryz.ntmps128
  go_wp2
  all_goals (go_ret;refine⟨aw ?_,rfl⟩;rw [HL.out,Bool.eq_iff_iff];simp;try omega)
 have HL:Hid (may op t=decide (t=0)):=aa (by simp [may,h1,h2,h3]);go_enter Tryz.func128,Tryz.ntmps128
 go_wp2
 all_goals (go_ret;refine⟨aw ?_,rfl⟩;rw [HL.out,Bool.eq_iff_iff];simp;try omega)
theorem EG (l:List Int) (w:World) (t:TypeId):∀i,i < l.length→(w.alloc (.cells (l.map (Value.int .i64)).toArray t)).cell? ⟨w.heap.size,i,none⟩=some (.int .i64 (nth l i)):=by
 intro i hi;rw [Joins.cell_alloc_mark_at _ _ _ _ _ _ rfl];simp [nth,hi]
def jI:Array Value:=((List.range 30).map (fun k=>Value.string (word k))).toArray
theorem zN (w:World) (t:TypeId) (k:Nat) (hk:k < 30):(w.alloc (.cells jI t)).cell? ⟨w.heap.size,k,none⟩=some (.string (word k)):=by
 rw [Joins.cell_alloc_mark_at _ _ _ _ _ _ rfl];simp [jI,hk]
theorem wg (k:Nat) (w:World) (h0:1≤k) (h1:k≤29):Calls Tryz.prog 191 #[.int .i64 k] w fun e w'=>e= .returned (.string (word k))∧Below w.heap.size w w':=by
 have hc:=zN w 9 k (by omega);have HB:=aa (af w (.cells jI 9));go_enter Tryz.func191,Tryz.ntmps191
 go_upto_region 2 with fail
 show Code.wp _ _ _ _ (w.alloc (.cells jI 9));generalize w.alloc (.cells jI 9)=W at *;go_wp2_with fail
 go_ret;exact⟨rfl,HB.out⟩
theorem tI (op:Int) (w:World) (h:¬(1≤op∧op≤29)):Calls Tryz.prog 191 #[.int .i64 op] w fun e w'=>e= .returned (.string (word 0))∧Below w.heap.size w w':=by
 have HB:=aa (af w (.cells jI 9));by_cases h1:op < 1
 all_goals
  go_enter Tryz.func191,Tryz.ntmps191
  go_upto_region 2 with fail
  show Code.wp _ _ _ _ (w.alloc (.cells jI 9));generalize w.alloc (.cells jI 9)=W at *;go_wp2_with fail
  go_ret;exact⟨rfl,HB.out⟩
theorem nA (op:Int) (w:World):Calls Tryz.prog 191 #[.int .i64 op] w fun e w'=>e= .returned (.string (word (num op)))∧Below w.heap.size w w':=by
 by_cases h:1≤op∧op≤29
 ·have e:op=(op.toNat:Int):=by omega
  have:=wg op.toNat w (by omega) (by omega);rw [←e] at this;rwa [show num op=op.toNat from if_pos h]
 ·rw [iX h];exact tI op w h
theorem lW (op t:Int) (a b c d e f:Value) (w:World):Calls Tryz.prog 183 #[.agg #[.int .i64 op,a,b,.int .i64 t,c,d,e,f]] w fun e w'=>e= .returned (.string (ja op t))∧Below w.heap.size w w':=by
 have HB:=aa (Box.new w [.int .i64 op,a,b,.int .i64 t,c,d,e,f] 41);have Hb:=aa (af w (.cells #[.int .i64 op,a,b,.int .i64 t,c,d,e,f] 41))
 cases h:beside (num op) 128
 ·have HM:=aa (vj (t:=t) h);replace h:=aa h;go_enter Tryz.func183,Tryz.ntmps183
  go_wp2_with fail
  refine(jU op _).mono ?_;rintro e w1 ⟨rfl,rfl⟩;rw [h.out];go_wp2_with fail
  refine(nA op _).mono ?_;rintro e w2 ⟨rfl,b2⟩;go_wp2_with fail
  go_ret;exact⟨jW HM.out,ae Hb.out b2⟩
 ·have HM:=aa (uM (t:=t) h);replace h:=aa h;go_enter Tryz.func183,Tryz.ntmps183
  go_wp2_with fail
  refine(jU op _).mono ?_;rintro e w1 ⟨rfl,rfl⟩;rw [h.out];have hz:=zG op;have hl:=uT t;have c0:=fun x=>(bG HB.out x).2 0 _ rfl;have c3:=fun x=>(bG HB.out x).2 3 _ rfl;go_wp2_with fail
  refine aM (by kernel_rfl) (by kernel_rfl) ?_;repeat (go_big_quiet_step ((first
   |(go_at_call 191;exact eT (nA op _))
   |(go_at_call 192;exact bV (pW t _)))))
  refine wpQuiet_nil ?_;rintro _ ⟨x,rfl⟩;go_wp2_with fail
  go_ret;exact⟨jW HM.out,ae Hb.out (aD _ x)⟩
theorem qo {k:Nat} (l:List Int) (hl:takes k=l) (w:World) (n cap:Nat) (hn:l.length=n) (C:Array Value) (hC:(l.map (Value.int .i64)).toArray=C):
  qq (takes k) w (.returned (.slice (some ⟨w.heap.size,0,none⟩) n cap)) (w.alloc (.cells C 3)):=by
 subst hn hC;rw [hl];exact⟨_,_,rfl,.inr ⟨_,rfl,by simp,EG l w 3⟩,af _ _⟩
theorem cL {op:Int} (k:Int) (l:List Int) (h:(op == k)=true) (hl:takes (num k)=l) (w:World) (n cap:Nat) (hn:l.length=n) (C:Array Value) (hC:(l.map (Value.int .i64)).toArray=C):
  qq (takes (num op)) w (.returned (.slice (some ⟨w.heap.size,0,none⟩) n cap)) (w.alloc (.cells C 3)):=by
 have:op=k:=by simpa using h
 subst this;exact qo l hl w n cap hn C hC
theorem zj {op:Int} (h1:2≤op) (h2:op≤7):takes (num op)= [1,1]:=by
 have hk:∀k,k≤7→2≤k→takes k= [1,1]:=by decide +kernel
 rw [show num op=op.toNat from if_pos (by omega)];exact hk _ (by omega) (by omega)
theorem xL {op:Int} (h:¬(2≤op∧op≤7)) (h2: [9,14,11,12,15,25,13,16,17,18,19,22,27].contains op=false):takes (num op)= []:=by
 by_cases ho:1≤op∧op≤29
 ·have e:op=((op.toNat:Nat):Int):=by omega
  have hk:∀k,k≤29→¬(2≤k∧k≤7)→ [9,14,11,12,15,25,13,16,17,18,19,22,27].contains ((k:Nat):Int)=false→takes k= []:=by decide +kernel
  rw [show num op=op.toNat from if_pos ho];exact hk op.toNat (by omega) (by omega) (by rw [←e];exact h2)
 ·rw [iX ho];rfl
theorem xf {op:Int} (h:¬(2≤op∧op≤7)) (h9:(op == 9)=false) (h14:(op == 14)=false) (h11:(op == 11)=false) (h12:(op == 12)=false) (h15:(op == 15)=false) (h25:(op == 25)=false) (h13:(op == 13)=false) (h16:(op == 16)=false) (h17:(op == 17)=false) (h18:(op == 18)=false) (h19:(op == 19)=false) (h22:(op == 22)=false) (h27:(op == 27)=false) (w:World):
  qq (takes (num op)) w (.returned (.slice none 0 0)) w:=by
 rw [xL h (by simp only [List.contains_cons,List.contains_nil,h9,h14,h11,h12,h15,h25,h13,h16,h17,h18,h19,h22,h27];rfl)];exact⟨none,0,rfl,.inl rfl,Below.refl _ _⟩
theorem rK (op:Int) (w:World) (h1:2≤op) (h2:op≤7):Calls Tryz.prog 168 #[.int .i64 op] w (qq (takes (num op)) w):=by
 have HL:=aa (zj h1 h2);go_enter Tryz.func168,Tryz.ntmps168
 go_wp2_with fail
 go_ret;exact qo [1,1] HL.out w _ _ rfl _ rfl
theorem qa (op:Int) (w:World) (h:¬(2≤op∧op≤7)):Calls Tryz.prog 168 #[.int .i64 op] w (qq (takes (num op)) w):=by
 have HH:=aa h;by_cases hx:2≤op
 all_goals
  go_enter Tryz.func168,Tryz.ntmps168
  go_wp2_with fail
  all_goals go_ret
  all_goals first
   |exact cL 9 [2,2] (by assumption) rfl w _ _ rfl _ rfl
   |exact cL 14 [2,2] (by assumption) rfl w _ _ rfl _ rfl
   |exact cL 11 [2] (by assumption) rfl w _ _ rfl _ rfl
   |exact cL 12 [2] (by assumption) rfl w _ _ rfl _ rfl
   |exact cL 15 [2] (by assumption) rfl w _ _ rfl _ rfl
   |exact cL 25 [2] (by assumption) rfl w _ _ rfl _ rfl
   |exact cL 13 [2,1] (by assumption) rfl w _ _ rfl _ rfl
   |exact cL 16 [3] (by assumption) rfl w _ _ rfl _ rfl
   |exact cL 17 [3] (by assumption) rfl w _ _ rfl _ rfl
   |exact cL 18 [3,1] (by assumption) rfl w _ _ rfl _ rfl
   |exact cL 19 [3,2] (by assumption) rfl w _ _ rfl _ rfl
   |exact cL 22 [1] (by assumption) rfl w _ _ rfl _ rfl
   |exact cL 27 [1] (by assumption) rfl w _ _ rfl _ rfl
   |exact xf HH.out (by assumption) (by assumption) (by assumption) (by assumption) (by assumption) (by assumption) (by assumption) (by assumption) (by assumption) (by assumption) (by assumption) (by assumption) (by assumption) w
theorem iz (op:Int) (w:World):Calls Tryz.prog 168 #[.int .i64 op] w (qq (takes (num op)) w):=by
 by_cases h:2≤op∧op≤7
 ·exact rK op w h.1 h.2
 ·exact qa op w h
theorem bm (s:ByteArray):s.data.toList.length=s.size:=by simp
theorem dF (s:ByteArray) (h:s.size=0):s.toList.isEmpty=true:=by
 have:s.data.toList= []:=List.length_eq_zero_iff.1 (by rw [bm];exact h);rw [ByteArray.toList_eq,this];rfl
theorem cC (s:ByteArray) (h:0 < s.size):s.toList.isEmpty=false:=by
 rw [ByteArray.toList_eq]
 cases e:s.data.toList with
 |nil=>have:=bm s;rw [e] at this;simp at this;omega
 |cons=>rfl
theorem rZ (s:ByteArray) (w:World) (hs:0 < s.size):
  Calls Tryz.prog 179 #[.string s] w fun e w'=>e= .returned (.tuple #[.int .i64 (find s).1,.int .i64 (find s).2])∧Below w.heap.size w w':=by
 have hz:=cC s hs;go_enter Tryz.func179,Tryz.ntmps179
 go_wp2_with fail
 go_loopw [4] (fun o wr=>∃k:Nat,1≤k∧k≤30∧o= .int .i64 k∧Below w.heap.size w wr∧Hid (Rest s k 0)) (fun o _=>30 - (intOf o).toNat)
 case atStart=>exact⟨1,by omega,by omega,rfl,Below.refl _ _,vq s⟩
 case round=>
  obtain⟨k,hk1,hk2,rfl,hB,HR⟩:=hrel;replace hB:=aa hB;by_cases hlt:k < 30
  ·have hd:decide ((k:Int)≤29)=true:=(by simp;omega);go_wp2_with fail
   go_loopw [5] (fun o wr=>∃j:Nat,j≤4∧o= .int .i64 j∧Below w.heap.size w wr∧Hid (Rest s k j)) (fun o _=>4 - (intOf o).toNat)
   case atStart=>exact⟨0,by omega,rfl,hB.out,HR⟩
   case round=>
    obtain⟨j,hj,rfl,hB2,HR2⟩:=hrel;replace hB2:=aa hB2;by_cases hjt:j < 4
    ·cases hm:may (k:Int) (j:Int)
     ·have HN:=aa (qs HR2.out hk1 (by omega) hjt (by rw [hm];rfl));replace hm:=aa hm;go_wp2_with fail
      refine(iA _ _ _).mono ?_;rintro e w1 ⟨rfl,rfl⟩;rw [hm.out];go_wp2_with fail
      go_roundw
      case rel=>exact⟨j+1,by omega,by go_num,hB2.out,HN⟩
      case measure=>simp [intOf];omega
     ·cases he:(ja (k:Int) (j:Int)).toList == s.toList
      ·have HN:=aa (qs HR2.out hk1 (by omega) hjt (by rw [hm,he];rfl));replace hm:=aa hm;go_wp2_with fail
       refine(iA _ _ _).mono ?_;rintro e w1 ⟨rfl,rfl⟩;rw [hm.out];go_wp2_with fail
       refine(lW _ _ _ _ _ _ _ _ _).mono ?_;rintro e w2 ⟨rfl,b2⟩;go_wp2_with fail
       go_roundw
       case rel=>exact⟨j+1,by omega,by go_num,ae hB2.out b2,HN⟩
       case measure=>simp [intOf];omega
      ·have HN:=aa (BH HR2.out hk1 (by omega) hjt hm he);replace hm:=aa hm;go_wp2_with fail
       refine(iA _ _ _).mono ?_;rintro e w1 ⟨rfl,rfl⟩;rw [hm.out];go_wp2_with fail
       refine(lW _ _ _ _ _ _ _ _ _).mono ?_;rintro e w2 ⟨rfl,b2⟩;go_wp2_with fail
       go_ret2;exact⟨o6 HN.out rfl rfl,ae hB2.out b2⟩
    ·have:j=4:=(by omega);subst this;go_wp2_with fail
     go_roundw
     case rel=>exact⟨k+1,by omega,by omega,by go_num,hB2.out,aa (zg HR2.out hk1)⟩
     case measure=>simp [intOf];omega
  ·go_wp2_with fail
   go_ret2;exact⟨o6 (EM HR.out (by omega)) rfl rfl,hB.out⟩
theorem nB (s:ByteArray) (w:World):
  Calls Tryz.prog 179 #[.string s] w fun e w'=>e= .returned (.tuple #[.int .i64 (find s).1,.int .i64 (find s).2])∧Below w.heap.size w w':=by
 by_cases h:0 < s.size
 ·exact rZ s w h
 ·have hz:=dF s (by omega);have HF:=aa (py (s:=s) (by omega));go_enter Tryz.func179,Tryz.ntmps179
  go_wp2_with fail
  go_ret2;exact⟨o6 HF.out rfl rfl,Below.refl _ _⟩
end Go.Proofs.YtaiaakklokahjaaGreatDoor.L5
namespace Go.Proofs.YtaiaakklokahjaaGreatDoor.L3
open Go
open Go Go.RowKit
def pw (k:Nat):Int:=((2 ^ k:Nat):Int)
def bit (m k:Nat):Bool:=m.testBit k
def letter (m k:Nat):UInt8:=if bit m k then 112 else 105
def letters (m n:Nat):List UInt8:=(List.range n).map (letter m)
def isL (c:UInt8):Bool:=c == 105 || c == 112
def FU (l:List UInt8):Bool:=l.all isL
def mask (l:List UInt8):Nat→Nat
 |0=>0
 |k+1=>mask l k+if l[k]? =some 112 then 2 ^ k else 0
def may (s m:Int):Bool:=decide (0≤s∧s≤16∧0≤m∧m < pw s.toNat)
theorem yK (l:List UInt8):∀k,mask l k < 2 ^ k
 |0=>by simp [mask]
 |k+1=>by
  have:=yK l k;rw [mask,Nat.pow_succ];split <;> omega
theorem aa {p:Prop} (h:p):Hid p:=h
theorem af (w:World) (o:Obj):Below w.heap.size w (w.alloc o):=(Below.refl _ _).alloc (Nat.le_refl _) _
def iy (w:World) (g:Nat) (a b:Value):Prop:=
 w.cell? ⟨g,0,none⟩=some a∧w.cell? ⟨g,1,none⟩=some b∧w.frozen? ⟨g,0,none⟩=false∧w.frozen? ⟨g,1,none⟩=false∧g < w.heap.size
theorem iy.new (w:World) (t:TypeId) {a b:Value}:iy (w.alloc (.cells #[a,b] t)) w.heap.size a b:=by
 refine⟨?_,?_,?_,?_,by simp⟩ <;> simp [go_sem]
theorem iy.below {w w1:World} {g:Nat} {a b:Value} (h:iy w g a b) (hb:Below w.heap.size w w1):iy w1 g a b:=by
 obtain⟨c0,c1,f0,f1,z⟩:=h;exact⟨(hb.cell z).trans c0,(hb.cell z).trans c1,(hb.frozen z).trans f0,(hb.frozen z).trans f1,Nat.lt_of_lt_of_le z hb.size⟩
theorem iy.alloc {w:World} {g:Nat} {a b:Value} (h:iy w g a b) (o:Obj):iy (w.alloc o) g a b:=h.below (af w o)
def Tab (w:World):Prop:=1 < w.heap.size∧∀k,k < 16→w.cell? ⟨1,k,none⟩=some (.int .i64 (pw k))
theorem Tab.below {w w':World} (h:Tab w) (b:Below w.heap.size w w'):Tab w':=
 ⟨Nat.lt_of_lt_of_le h.1 b.size,fun k hk=>(b.cell h.1).trans (h.2 k hk)⟩
theorem iy.other {w:World} {g h:Nat} {a b:Value} (p:iy w g a b) (hg:g≠h) (j:Nat) (u:Value):iy (w.setCell ⟨h,j,none⟩ u).drew g a b:=by
 obtain⟨c0,c1,f0,f1,z⟩:=p;refine⟨?_,?_,?_,?_,?_⟩
 ·show(w.setCell ⟨h,j,none⟩ u).cell? ⟨g,0,none⟩=_;rw [World.cell?_setCell_other _ _ _ _ (fun e=>hg (congrArg Addr.block e).symm)];exact c0
 ·show(w.setCell ⟨h,j,none⟩ u).cell? ⟨g,1,none⟩=_;rw [World.cell?_setCell_other _ _ _ _ (fun e=>hg (congrArg Addr.block e).symm)];exact c1
 ·show(w.setCell ⟨h,j,none⟩ u).frozen? ⟨g,0,none⟩=_;rw [World.frozen?_setCell];exact f0
 ·show(w.setCell ⟨h,j,none⟩ u).frozen? ⟨g,1,none⟩=_;rw [World.frozen?_setCell];exact f1
 ·show g < (w.setCell ⟨h,j,none⟩ u).heap.size;simpa using z
theorem bm (s:ByteArray):s.data.toList.length=s.size:=by simp
theorem dF (s:ByteArray) (h:s.size=0):s.toList.isEmpty=true:=by
 have:s.data.toList= []:=List.length_eq_zero_iff.1 (by rw [bm];exact h);rw [ByteArray.toList_eq,this];rfl
theorem cC (s:ByteArray) (h:0 < s.size):s.toList.isEmpty=false:=by
 rw [ByteArray.toList_eq]
 cases e:s.data.toList with
 |nil=>have:=bm s;rw [e] at this;simp at this;omega
 |cons=>rfl
theorem vn (s:ByteArray) (h:s.data.toList= [46]):(s.toList == [46])=true:=by
 rw [ByteArray.toList_eq,h];rfl
theorem jk (s:ByteArray) (h:s.data.toList≠ [46]):(s.toList == [46])=false:=by
 rw [ByteArray.toList_eq];simpa using h
theorem rM (s:ByteArray) (k:Nat) (h:k < s.size):s.data.toList[k]? =some s[k]:=by
 rw [List.getElem?_eq_getElem (by simpa using h)];rfl
theorem dL (c:UInt8) (k:Nat) (hk:k < 256):c.toNat=k↔c=UInt8.ofNat k:=by
 constructor
 ·intro h;apply UInt8.toNat_inj.1;rw [h];simp [UInt8.toNat_ofNat'];omega
 ·rintro rfl;simp [UInt8.toNat_ofNat'];omega
theorem IK (s:ByteArray) (k:Nat) (h:k < s.size) (hc:¬(s[k].toNat:Int)=112):mask s.data.toList (k+1)=mask s.data.toList k:=by
 rw [mask,rM s k h,if_neg,Nat.add_zero];intro e;have:s[k]=112:=Option.some.inj e;exact hc (by rw [this];rfl)
theorem IP (s:ByteArray) (k:Nat) (h:k < s.size) (hc:(s[k].toNat:Int)=112):mask s.data.toList (k+1)=mask s.data.toList k+2 ^ k:=by
 rw [mask,rM s k h,if_pos];rw [(dL s[k] 112 (by decide)).1 (by omega)];rfl
def Ar (s:ByteArray) (k:Nat):Prop:=∀j,j < k→∀h:j < s.size,isL s[j]=true
theorem zI (s:ByteArray):Ar s 0:=fun j h=>by omega
theorem qk {s:ByteArray} {k:Nat} (h:Ar s k) (hk:k < s.size) (hc:(s[k].toNat:Int)=105∨(s[k].toNat:Int)=112):Ar s (k+1):=by
 intro j hj hs;by_cases e:j < k
 ·exact h j e hs
 ·have:j=k:=by omega
  subst this;rcases hc with hc | hc
  ·rw [(dL s[j] 105 (by decide)).1 (by omega)];rfl
  ·rw [(dL s[j] 112 (by decide)).1 (by omega)];rfl
theorem D9 {s:ByteArray} (h:Ar s s.size):FU s.data.toList=true:=by
 unfold FU;rw [List.all_eq_true];intro c hc;obtain⟨j,hj,rfl⟩:=List.mem_iff_getElem.1 hc;have hj':j < s.size:=by simpa using hj
 exact h j hj' hj'
theorem Jw {s:ByteArray} {k:Nat} (hk:k < s.size) (h1:¬(s[k].toNat:Int)=105) (h2:¬(s[k].toNat:Int)=112):FU s.data.toList=false:=by
 rw [Bool.eq_false_iff];intro h;have:=List.all_eq_true.1 h s[k] (List.mem_of_getElem? (rM s k hk));unfold isL at this;simp only [Bool.or_eq_true,beq_iff_eq] at this;rcases this with e | e
 ·exact h1 (by rw [e];rfl)
 ·exact h2 (by rw [e];rfl)
def nw (l:List UInt8):Value:=
 if FU l then .tuple #[.agg #[.int .i64 l.length,.int .i64 (mask l l.length)],.int .i64 0] else .tuple #[.agg #[.int .i64 0,.int .i64 0],.int .i64 16]
theorem Ag {s:ByteArray} (h:Ar s s.size):nw s.data.toList= .tuple #[.agg #[.int .i64 s.size,.int .i64 (mask s.data.toList s.size)],.int .i64 0]:=by
 unfold nw;rw [D9 h,bm];rfl
theorem Cn {s:ByteArray} {k:Nat} (hk:k < s.size) (h1:¬(s[k].toNat:Int)=105) (h2:¬(s[k].toNat:Int)=112):nw s.data.toList= .tuple #[.agg #[.int .i64 0,.int .i64 0],.int .i64 16]:=by
 unfold nw;rw [Jw hk h1 h2];rfl
def lD (s:ByteArray):Value:=
 if s.data.toList= [46] then .tuple #[.agg #[.int .i64 0,.int .i64 0],.int .i64 0]
 else if s.size=0∨16 < s.size then .tuple #[.agg #[.int .i64 0,.int .i64 0],.int .i64 16]
 else nw s.data.toList
theorem FC (k:Nat):pw (k+1)=pw k * 2:=by
 unfold pw;rw [Nat.pow_succ];simp
theorem C0 (k:Nat):1≤pw k:=by
 have:0 < 2 ^ k:=Nat.two_pow_pos k;unfold pw;omega
theorem FJ {i j:Nat} (h:i≤j):pw i≤pw j:=by
 have:2 ^ i≤2 ^ j:=Nat.pow_le_pow_right (by decide) h;unfold pw;omega
theorem IA {k:Nat} (h:k≤16):pw k≤65536:=FJ (j:=16) h
theorem yE {k:IntKind} {a b:Int} (h:a=b):Value.int k a= .int k b:=congrArg (Value.int k) h
theorem Aq (n:Nat) (w:World) (hn:n≤16):
  Calls Tryz.prog 169 #[.int .i64 n] w fun e w'=>e= .returned (.int .i64 (pw n))∧w'=w:=by
 go_enter Tryz.func169,Tryz.ntmps169
 go_wp2
 go_loop [3,4] (fun o i=>∃k:Nat,k≤n∧i= .int .i64 k∧o= .int .i64 (pw k)) (fun _ i=>n - (intOf i).toNat)
 case atStart=>exact⟨0,Nat.zero_le _,rfl,rfl⟩
 case round=>
  obtain⟨k,hk,rfl,rfl⟩:=hrel;have h1:=C0 k;have h2:=IA (k:=k) (by omega);by_cases hlt:k < n
  ·go_wp2
   go_round
   case rel=>exact⟨k+1,by omega,by go_num,yE (FC k).symm⟩
   case measure=>simp [intOf];omega
  ·go_wp2
   go_ret;have:k=n:=(by omega);subst this;exact⟨rfl,rfl⟩
theorem Hx (s:ByteArray) (k:Nat) (h:k < 16):mask s.data.toList k≤65535:=by
 have:=yK s.data.toList k;have h2:2 ^ k≤2 ^ 16:=Nat.pow_le_pow_right (by decide) (by omega);have:(2:Nat) ^ 16=65536:=by decide
 omega
theorem nU (s:ByteArray) (w:World) (h:s.data.toList= [46]):
  Calls Tryz.prog 131 #[.string s] w fun e w'=>e= .returned (.tuple #[.agg #[.int .i64 0,.int .i64 0],.int .i64 0])∧Below w.heap.size w w':=by
 have hp:=vn s h;clear h;go_enter Tryz.func131,Tryz.ntmps131
 go_wp2_with fail
 exact bodyPost_ret (v:= .tuple #[.agg #[.int .i64 0,.int .i64 0],.int .i64 0]) (by simp [results,Tryz.results131,go_sem]) rfl ⟨rfl,af _ _⟩
theorem gA (s:ByteArray) (w:World) (h:s.size=0):
  Calls Tryz.prog 131 #[.string s] w fun e w'=>e= .returned (.tuple #[.agg #[.int .i64 0,.int .i64 0],.int .i64 16])∧Below w.heap.size w w':=by
 have hp:=jk s (fun e=>by have:=bm s;rw [e] at this;simp at this;omega);have he:=dF s h;clear h;go_enter Tryz.func131,Tryz.ntmps131
 go_wp2_with fail
 exact bodyPost_ret (v:= .tuple #[.agg #[.int .i64 0,.int .i64 0],.int .i64 16]) (by simp [results,Tryz.results131,go_sem]) rfl ⟨rfl,af _ _⟩
theorem qb (s:ByteArray) (w:World) (h:16 < s.size):
  Calls Tryz.prog 131 #[.string s] w fun e w'=>e= .returned (.tuple #[.agg #[.int .i64 0,.int .i64 0],.int .i64 16])∧Below w.heap.size w w':=by
 have hp:=jk s (fun e=>by have:=bm s;rw [e] at this;simp at this;omega);have he:=cC s (by omega);go_enter Tryz.func131,Tryz.ntmps131
 go_wp2_with fail
 exact bodyPost_ret (v:= .tuple #[.agg #[.int .i64 0,.int .i64 0],.int .i64 16]) (by simp [results,Tryz.results131,go_sem]) rfl ⟨rfl,af _ _⟩
theorem mD (s:ByteArray) (w:World) (h0:0 < s.size) (h1:s.size≤16) (hs:s.data.toList≠ [46]):
  Calls Tryz.prog 131 #[.string s] w fun e w'=>e= .returned (nw s.data.toList)∧Below w.heap.size w w':=by
 have hp:=jk s hs;have he:=cC s h0;clear hs;go_enter Tryz.func131,Tryz.ntmps131
 go_wp2_with fail
 go_loop [4,5] (fun m i=>∃k:Nat,k≤s.size∧i= .int .i64 k∧m= .int .i64 (mask s.data.toList k)∧Ar s k) (fun _ i=>s.size - (intOf i).toNat)
 case atStart=>exact⟨0,Nat.zero_le _,rfl,rfl,zI s⟩
 case round=>
  obtain⟨k,hk,rfl,rfl,HU⟩:=hrel;have HU:=aa HU;by_cases hlt:k < s.size
  ·have hlt':(k:Int) < s.size:=(by omega);by_cases hc:(s[k].toNat:Int)=105
   ·have HM:=aa (IK s k hlt (by omega));go_wp2_with fail
    go_round
    case rel=>exact⟨k+1,by omega,by go_num,by rw [HM.out],qk HU.out hlt (.inl hc)⟩
    case measure=>simp [intOf];omega
   ·by_cases hc2:(s[k].toNat:Int)=112
    ·have HM:=aa (IP s k hlt hc2);have hb1:=Hx s k (by omega);have hb2:=IA (k:=k) (by omega);have hb3:=C0 k;go_wp2_with fail
     refine(Aq k _ (by omega)).mono ?_;rintro e w1 ⟨rfl,rfl⟩;go_wp2_with fail
     go_round
     case rel=>exact⟨k+1,by omega,by go_num,yE (by rw [HM.out];unfold pw;omega),qk HU.out hlt (.inr hc2)⟩
     case measure=>simp [intOf];omega
    ·have HM:=aa (Cn hlt hc hc2);have n1:((s[k].toNat:Int) != 105)=true:=(by simpa using hc);have n2:((s[k].toNat:Int) != 112)=true:=(by simpa using hc2);go_wp2_with fail
     exact bodyPost_ret (v:= .tuple #[.agg #[.int .i64 0,.int .i64 0],.int .i64 16]) (by simp [results,Tryz.results131,go_sem]) rfl ⟨by rw [HM.out],af _ _⟩
  ·have:k=s.size:=(by omega);subst this;have HM:=aa (Ag HU.out);go_wp2_with fail
   exact bodyPost_ret (v:= .tuple #[.agg #[.int .i64 s.size,.int .i64 (mask s.data.toList s.size)],.int .i64 0]) (by simp [results,Tryz.results131,go_sem]) rfl ⟨by rw [HM.out],af _ _⟩
theorem lT (s:ByteArray) (w:World):
  Calls Tryz.prog 131 #[.string s] w fun e w'=>e= .returned (lD s)∧Below w.heap.size w w':=by
 unfold lD;by_cases hp:s.data.toList= [46]
 ·rw [if_pos hp];exact nU s w hp
 rw [if_neg hp];by_cases h0:s.size=0
 ·rw [if_pos (.inl h0)];exact gA s w h0
 by_cases h1:16 < s.size
 ·rw [if_pos (.inr h1)];exact qb s w h1
 rw [if_neg (by omega)];exact mD s w (by omega) (by omega) hp
end Go.Proofs.YtaiaakklokahjaaGreatDoor.L3
