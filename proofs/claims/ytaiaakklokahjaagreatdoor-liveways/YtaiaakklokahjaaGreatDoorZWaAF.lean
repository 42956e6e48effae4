/- Texts of one chain, joined. -/
import Derived.Test.YtaiaakklokahjaaGreatDoorZWaAA
import Derived.Test.YtaiaakklokahjaaGreatDoorZWaAB
import Derived.Test.YtaiaakklokahjaaGreatDoorZWaAC
import Derived.Shelf.Small.Bits
import Derived.Shelf.Strconv.Itoa0
import Derived.Shelf.Sort.Plain
import Derived.Ground.Names2Prog
import Derived.Shelf.Slices.CompactI
import Derived.Shelf.Slices.SearchI
import Derived.Shelf.Slices.In.SortNone
import Derived.Shelf.Slices.Empties
import Derived.Ground.SlgcProg
import Derived.Ground.SlsfProg
import Derived.Shelf.SlGeneric
import Derived.Shelf.SlSortCmp.WholeK
import Derived.Shelf.SlicesG.Cmp
set_option maxRecDepth 20000
namespace Go.Proofs.YtaiaakklokahjaaGreatDoor
open Go Go.RowKit
open L5 (word tk0 tk1 mk ds num beside iX ny)
def dt (k:Nat):Value:= .agg #[.string (word k),.int .i64 (tk0 k),.int .i64 (tk1 k),.int .i64 (mk k),.int .i64 (ds k)]
def Tab (w:World):Prop:=1 < w.heap.size∧∀k,k < 30→
 w.cell? ⟨1,k * 5,none⟩=some (.string (word k))∧w.cell? ⟨1,k * 5+1,none⟩=some (.int .i64 (tk0 k))∧w.cell? ⟨1,k * 5+2,none⟩=some (.int .i64 (tk1 k))∧w.cell? ⟨1,k * 5+3,none⟩=some (.int .i64 (mk k))∧w.cell? ⟨1,k * 5+4,none⟩=some (.int .i64 (ds k))
theorem Tab.below {w w':World} (h:Tab w) (b:Below w.heap.size w w'):Tab w':=
 ⟨Nat.lt_of_lt_of_le h.1 b.size,fun k hk=>by
  obtain⟨h0,h1,h2,h3,h4⟩:=h.2 k hk;exact⟨(b.cell h.1).trans h0,(b.cell h.1).trans h1,(b.cell h.1).trans h2,(b.cell h.1).trans h3,(b.cell h.1).trans h4⟩⟩
theorem Ew (k:Nat) (w:World) (h0:1≤k) (h1:k≤29) (ht:Tab w):
  Calls Tryz.prog 114 #[.int .i64 k] w fun e w'=>e= .returned (dt k)∧Below w.heap.size w w':=by
 have T:=ht.below (af w (.cells #[.string ⟨#[]⟩,.int .i64 0,.int .i64 0,.int .i64 0,.int .i64 0] 145));obtain⟨c0,c1,c2,c3,c4⟩:=T.2 k (by omega);clear T ht;go_enter Tryz.func114,Tryz.ntmps114
 go_wp2_with fail
 exact bodyPost_ret (v:=dt k) (by simp [results,Tryz.results114,go_sem,dt]) rfl ⟨rfl,af _ _⟩
theorem xN (op:Int) (w:World) (h:¬(1≤op∧op≤29)) (ht:Tab w):
  Calls Tryz.prog 114 #[.int .i64 op] w fun e w'=>e= .returned (dt 0)∧Below w.heap.size w w':=by
 have T:=ht.below (af w (.cells #[.string ⟨#[]⟩,.int .i64 0,.int .i64 0,.int .i64 0,.int .i64 0] 145));obtain⟨c0,c1,c2,c3,c4⟩:=T.2 0 (by omega);simp only [Nat.zero_mul,Nat.zero_add] at c0 c1 c2 c3 c4;clear T ht;by_cases h1:op < 1
 all_goals
  go_enter Tryz.func114,Tryz.ntmps114
  go_wp2_with fail
  exact bodyPost_ret (v:=dt 0) (by simp [results,Tryz.results114,go_sem,dt]) rfl ⟨rfl,af _ _⟩
theorem ru (op:Int) (w:World) (ht:Tab w):
  Calls Tryz.prog 114 #[.int .i64 op] w fun e w'=>e= .returned (dt (num op))∧Below w.heap.size w w':=by
 by_cases h:1≤op∧op≤29
 ·have e:op=(op.toNat:Int):=by omega
  have:=Ew op.toNat w (by omega) (by omega) ht;rw [←e] at this;rwa [show num op=op.toNat from if_pos h]
 ·rw [iX h];exact xN op w h ht
theorem kQ (a b c d e:Value) (w:World):Sem.run Tryz.prog (Instr.field 145 (.agg #[a,b,c,d,e]) 3) w= .ok e w:=rfl
theorem pJ (op things:Int) (w:World) (ht:Tab w):
  Calls Tryz.prog 113 #[.int .i64 op,.int .i64 things] w fun e w'=>e= .returned (.bool (beside (num op) things))∧Below w.heap.size w w':=by
 have hf:=kQ;go_enter Tryz.func113,Tryz.ntmps113
 go_wp2_with fail
 refine(ru op _ ht).mono ?_;rintro e w1 ⟨rfl,b1⟩;unfold dt;go_wp2_with fail
 go_ret;exact⟨rfl,b1⟩
def gM (op:Int):Bool:=decide (26≤op∧op≤29)
def kY (b:Int) (n:Nat):Bool:=decide (0≤b∧b < (n:Int))
theorem zZ (b:Int) (n:Nat) (w:World):Calls Tryz.prog 100 #[.int .i64 b,.int .i64 n] w fun e w'=>e= .returned (.bool (kY b n))∧w'=w:=by
 by_cases h:0≤b
 ·have HE:Hid (decide (b < (n:Int))=kY b n):=aa (by simp [kY,h]);have h2:decide (0≤b)=true:=by simpa using h
  go_enter Tryz.func100,Tryz.ntmps100
  go_wp2
  go_ret;exact⟨L5.aw HE.out,rfl⟩
 ·have HE:Hid (false=kY b n):=aa (by simp [kY,h]);have h2:decide (0≤b)=false:=by simpa using h
  go_enter Tryz.func100,Tryz.ntmps100
  go_wp2
  go_ret;exact⟨L5.aw HE.out,rfl⟩
end Go.Proofs.YtaiaakklokahjaaGreatDoor
namespace Go.Proofs
open Go.Shelf
def Tryz.tj:Go.Shelf.Ren:=⟨fun | 189=>54 | 125=>85 | 257=>84 | 128=>125 | 129=>126 | 294=>116 | 295=>117 | 296=>118 | 297=>119 | 298=>120 | 299=>121 | 216=>122 | 300=>123 | 301=>124 | 328=>163 | 329=>164 | 330=>165 | 331=>166 | 332=>167 | 215=>83 | 343=>177 | n=>n,fun | 28=>26 | 3=>3 | 46=>114 | 0=>0 | 51=>156 | 53=>135 | 4=>4 | 183=>150 | 182=>149 | 131=>86 | 5=>5 | 9=>9 | 218=>191 | 222=>195 | 228=>203 | 229=>204 | n=>n,fun | n=>n⟩
theorem Tryz.yG:Go.Proofs.Lays.n189 Tryz.prog Tryz.tj:={
 mixed:=by kernel_rfl
 f125:=Tryz.func85.trans (congrArg some (by kernel_rfl))
 f128:=Tryz.func125.trans (congrArg some (by kernel_rfl))
 f129:=Tryz.func126.trans (congrArg some (by kernel_rfl))
 f189:=Tryz.func54.trans (congrArg some (by kernel_rfl))
 f215:=Tryz.func83.trans (congrArg some (by kernel_rfl))
 f216:=Tryz.func122.trans (congrArg some (by kernel_rfl))
 f257:=Tryz.func84.trans (congrArg some (by kernel_rfl))
 f294:=Tryz.func116.trans (congrArg some (by kernel_rfl))
 f295:=Tryz.func117.trans (congrArg some (by kernel_rfl))
 f296:=Tryz.func118.trans (congrArg some (by kernel_rfl))
 f297:=Tryz.func119.trans (congrArg some (by kernel_rfl))
 f298:=Tryz.func120.trans (congrArg some (by kernel_rfl))
 f299:=Tryz.func121.trans (congrArg some (by kernel_rfl))
 f300:=Tryz.func123.trans (congrArg some (by kernel_rfl))
 f301:=Tryz.func124.trans (congrArg some (by kernel_rfl))
 f328:=Tryz.func163.trans (congrArg some (by kernel_rfl))
 f329:=Tryz.func164.trans (congrArg some (by kernel_rfl))
 f330:=Tryz.func165.trans (congrArg some (by kernel_rfl))
 f331:=Tryz.func166.trans (congrArg some (by kernel_rfl))
 f332:=Tryz.func167.trans (congrArg some (by kernel_rfl))
 f343:=Tryz.func177.trans (congrArg some (by kernel_rfl))
 t0:=Tryz.underlying0
 a0:=Tryz.isAgg0
 z0:=Tryz.sizeOf0
 v0:=Tryz.zeroValue0
 t3:=Tryz.underlying3
 a3:=Tryz.isAgg3
 z3:=Tryz.sizeOf3
 v3:=Tryz.zeroValue3
 t4:=Tryz.underlying4
 a4:=Tryz.isAgg4
 z4:=Tryz.sizeOf4
 v4:=Tryz.zeroValue4
 t5:=Tryz.underlying5
 a5:=Tryz.isAgg5
 z5:=Tryz.sizeOf5
 v5:=Tryz.zeroValue5
 t9:=Tryz.underlying9
 a9:=Tryz.isAgg9
 z9:=Tryz.sizeOf9
 v9:=Tryz.zeroValue9
 t28:=Tryz.underlying26
 a28:=Tryz.isAgg26
 z28:=Tryz.sizeOf26
 v28:=Tryz.zeroValue26
 t46:=Tryz.underlying114
 a46:=Tryz.isAgg114
 z46:=Tryz.sizeOf114
 v46:=Tryz.zeroValue114
 t51:=Tryz.underlying156
 a51:=Tryz.isAgg156
 z51:=Tryz.sizeOf156
 v51:=Tryz.zeroValue156
 t53:=Tryz.underlying135
 a53:=Tryz.isAgg135
 z53:=Tryz.sizeOf135
 v53:=Tryz.zeroValue135
 t131:=Tryz.underlying86
 a131:=Tryz.isAgg86
 z131:=Tryz.sizeOf86
 v131:=Tryz.zeroValue86
 t182:=Tryz.underlying149
 a182:=Tryz.isAgg149
 z182:=Tryz.sizeOf149
 v182:=Tryz.zeroValue149
 t183:=Tryz.underlying150
 a183:=Tryz.isAgg150
 z183:=Tryz.sizeOf150
 v183:=Tryz.zeroValue150
 t218:=Tryz.underlying191
 a218:=Tryz.isAgg191
 z218:=Tryz.sizeOf191
 v218:=Tryz.zeroValue191
 t222:=Tryz.underlying195
 a222:=Tryz.isAgg195
 z222:=Tryz.sizeOf195
 v222:=Tryz.zeroValue195
 t228:=Tryz.underlying203
 a228:=Tryz.isAgg203
 z228:=Tryz.sizeOf203
 v228:=Tryz.zeroValue203
 t229:=Tryz.underlying204
 a229:=Tryz.isAgg204
 z229:=Tryz.sizeOf204
 v229:=Tryz.zeroValue204}
open Go.Sort Go.RowKit in
theorem Tryz.slices_Sort_int (blk off cap:Nat) (zs:List Int) (w:World) (hH:Holds (Value.int .i64) w blk off zs.toArray) (hblk:blk < w.heap.size) (hsz:zs.length < 4611686018427387904):
  Calls Tryz.prog 54 #[.slice (some ⟨blk,off,none⟩) zs.length cap] w fun e w'=>
   e= .returned (.tuple #[])∧∃n os,w'=grow (putRow (Value.int .i64) (Sort.ahead w n) blk off (zs.mergeSort fun x y=>decide (x≤y)).toArray) os:=Any.slices_Sort_int Tryz.yG blk off cap zs w hH hblk hsz
def Tryz.qc:Go.Shelf.Ren:=⟨fun | 20=>55 | n=>n,fun | 22=>26 | 3=>3 | 4=>4 | 0=>0 | n=>n,fun | n=>n⟩
theorem Tryz.ri:Go.Proofs.Lays2.n20 Tryz.prog Tryz.qc:={
 mixed:=by kernel_rfl
 f20:=Tryz.func55.trans (congrArg some (by kernel_rfl))
 t0:=Tryz.underlying0
 a0:=Tryz.isAgg0
 z0:=Tryz.sizeOf0
 v0:=Tryz.zeroValue0
 t3:=Tryz.underlying3
 a3:=Tryz.isAgg3
 z3:=Tryz.sizeOf3
 v3:=Tryz.zeroValue3
 t4:=Tryz.underlying4
 a4:=Tryz.isAgg4
 z4:=Tryz.sizeOf4
 v4:=Tryz.zeroValue4
 t22:=Tryz.underlying26
 a22:=Tryz.isAgg26
 z22:=Tryz.sizeOf26
 v22:=Tryz.zeroValue26
 i3:=by kernel_rfl}
open Go.RowKit Go.Lib Go.Sort in
theorem Tryz.slices_Compact_int (blk off cap:Nat) (zs:List Int) (w:World) (hH:Holds (Value.int .i64) w blk off zs.toArray) (hsz:zs.length≤9223372036854775807) (hcap:zs.length≤cap):
  Calls Tryz.prog 55 #[.slice (some ⟨blk,off,none⟩) zs.length cap] w fun e w'=>e= .returned (.slice (some ⟨blk,off,none⟩) (Lib.compact zs).length cap)∧∃q,w'=putRow (Value.int .i64) (Sort.ahead w q) blk off (Lib.compact zs ++ List.replicate (zs.length - (Lib.compact zs).length) 0).toArray:=Any.slices_Compact_int Tryz.ri blk off cap zs w hH hsz hcap
open Go.RowKit Go.Lib Go.Sort in
theorem Tryz.slices_Compact_int_empty (a:Option Addr) (cap:Nat) (w:World):
  Calls Tryz.prog 55 #[.slice a 0 cap] w fun e w'=>e= .returned (.slice a 0 cap)∧w'=w:=Any.slices_Compact_int_empty Tryz.ri a cap w
def Tryz.pQ:Go.Shelf.Ren:=⟨fun | 25=>149 | 31=>122 | 32=>173 | 37=>83 | n=>n,fun | 22=>26 | 3=>3 | 4=>4 | 40=>114 | 0=>0 | n=>n,fun | n=>n⟩
theorem Tryz.qR:Go.Proofs.Lays2.n25 Tryz.prog Tryz.pQ:={
 mixed:=by kernel_rfl
 f25:=Tryz.func149.trans (congrArg some (by kernel_rfl))
 f31:=Tryz.func122.trans (congrArg some (by kernel_rfl))
 f32:=Tryz.func173.trans (congrArg some (by kernel_rfl))
 f37:=Tryz.func83.trans (congrArg some (by kernel_rfl))
 t0:=Tryz.underlying0
 a0:=Tryz.isAgg0
 z0:=Tryz.sizeOf0
 v0:=Tryz.zeroValue0
 t3:=Tryz.underlying3
 a3:=Tryz.isAgg3
 z3:=Tryz.sizeOf3
 v3:=Tryz.zeroValue3
 t4:=Tryz.underlying4
 a4:=Tryz.isAgg4
 z4:=Tryz.sizeOf4
 v4:=Tryz.zeroValue4
 t22:=Tryz.underlying26
 a22:=Tryz.isAgg26
 z22:=Tryz.sizeOf26
 v22:=Tryz.zeroValue26
 t40:=Tryz.underlying114
 a40:=Tryz.isAgg114
 z40:=Tryz.sizeOf114
 v40:=Tryz.zeroValue114}
open Go.RowKit Go.Lib in
theorem Tryz.slices_BinarySearch_int (b off n c:Nat) (zs:List Int) (x:Int) (w:World) (hz:n≤zs.length) (hbig:n < 4611686018427387904) (hc:∀j,j < zs.length→w.cell? ⟨b,off+j,none⟩=some (.int .i64 (zs.getD j 0))) (hs:(zs.take n).Pairwise (· ≤·)):
  Calls Tryz.prog 149 #[.slice (some ⟨b,off,none⟩) n c,.int .i64 x] w fun e w'=>e= .returned (.tuple #[.int .i64 ((zs.take n).countP (· < x):Nat),.bool ((zs.take n).contains x)])∧∃q,w'=w.drewN q:=Any.slices_BinarySearch_int Tryz.qR b off n c zs x w hz hbig hc hs
open Go.RowKit Go.Sort in
theorem Tryz.slices_Sort_int_none (p:Option Addr) (cap:Nat) (w:World):
  Calls Tryz.prog 54 #[.slice p 0 cap] w fun e w'=>e= .returned (.tuple #[])∧w'=w:=Any.slices_Sort_int_none Tryz.yG p cap w
open Go.RowKit Go.Lib in
theorem Tryz.slices_BinarySearch_int_empty (a:Option Addr) (c:Nat) (x:Int) (w:World):
  Calls Tryz.prog 149 #[.slice a 0 c,.int .i64 x] w fun e w'=>e= .returned (.tuple #[.int .i64 0,.bool false])∧w'=w:=Any.slices_BinarySearch_int_empty Tryz.qR a c x w
end Go.Proofs
namespace Go.Proofs.YtaiaakklokahjaaGreatDoor.Mix
open Go Go.RowKit
section
variable (P:Program) (ops:Array Oper) (W:World) (F:Tmp→Up)
def mz (md:Region.Mode) (n:Nat) (L0:Array Bool) (Q:Act→(Tmp→Prop)→Prop):Nat→Array Bool→Act→(Tmp→Prop)→Prop
 |0,listed,a,S=>((∀j∈Region.ready md ops listed,j=n)∧Region.ready md ops listed≠ []∧listed=L0)∧Q a S
 |fuel+1,listed,a,S=>Region.ready md ops listed≠ []∧∀i∈Region.ready md ops listed,mOp P ops W F i (mz md n L0 Q fuel (listed.setIfInBounds i true)) a S
end
section
variable {P:Program} {ops:Array Oper} {W:World} {F:Tmp→Up} {md:Region.Mode} {n:Nat} {L0:Array Bool}
theorem iL {Q:Act→(Tmp→Prop)→Prop} {Q':Exit→Act→World→Prop} {o:Oper} {m:Nat} (ho:ops[n]? =some o)
  (hQ:∀a S w,Below W.heap.size W w→ic F S a w→Q a S→Region.wanted o (yielded ops a.tmps)=true∧∀K:Act→World→Prop,(∀a' w',wpAny P md ops Q' m (L0.setIfInBounds n true) a' w'→K a' w')→o.wp P a w K Q'):
  ∀(fuel:Nat) (listed:Array Bool) (a:Act) (S:Tmp→Prop) (w:World),Below W.heap.size W w→ic F S a w→mz P ops W F md n L0 Q fuel listed a S→wpAny P md ops Q' (m+1+fuel) listed a w
 |0,listed,a,S,w,hC,hA,h=>⟨fun h0=>absurd h0 h.1.2.1,fun i hi=>by
   obtain rfl:=h.1.1 i hi;obtain⟨hw,hk⟩:=hQ a S w hC hA h.2;unfold wpOp;simp only [ho];rw [if_pos hw];exact .inl (hk _ (fun a' w' q=>by rw [h.1.2.2];exact q))⟩
 |fuel+1,listed,a,S,w,hC,hA,h=>⟨fun h0=>absurd h0 h.1,fun i hi=>by
   have hh:=h.2 i hi;unfold mOp at hh;unfold wpOp;split
   ·rename_i ho';simp only [ho'] at hh;exact iL ho hQ fuel _ _ _ _ hC hA hh
   ·rename_i o' ho';simp only [ho'] at hh;unfold body at hh;split
    ·rename_i hw;rw [if_pos hw] at hh;exact .inl (kE hC hA (fun a' S' w' c k q=>iL ho hQ fuel _ _ _ _ c k q) hh.1 hh.2)
    ·rename_i hw;rw [if_neg hw] at hh;exact iL ho hQ fuel _ _ _ _ hC hA.del hh⟩
def Cl (md:Region.Mode) (ops:Array Oper) (listed:Array Bool):Prop:=∀(j:Nat) (oj:Oper),ops[j]? =some oj→listed.getD j false=true→∀e∈oj.after,Region.binds md e=true→listed.getD e.on false=true
theorem Cl.set {listed:Array Bool} {i:Nat} (h:Cl md ops listed) (hr:i∈Region.ready md ops listed):Cl md ops (listed.setIfInBounds i true):=by
 intro j oj hoj hj e he hb;obtain⟨_,o,ho,hall⟩:=mem_ready.1 hr;by_cases hij:i=j
 ·subst hij;rw [ho] at hoj;injection hoj with hoj;subst hoj;exact getD_set_true (hall e he hb)
 ·rw [getD_set_ne false hij] at hj;exact getD_set_true (h j oj hoj hj e he hb)
def Dj (md:Region.Mode) (ops:Array Oper) (on:Oper) (i:Nat):Prop:=∃e∈on.after,Region.binds md e=true∧(e.on=i∨∃ok,ops[e.on]? =some ok∧∃e'∈ok.after,Region.binds md e'=true∧e'.on=i)
theorem rU {Q:Act→(Tmp→Prop)→Prop} {i:Nat} {oi on:Oper} (hi:ops[i]? =some oi) (hn:ops[n]? =some on) (hlast:Dj md ops on i) (hsel:∀(j:Nat) (o:Oper) cs b,ops[j]? =some o→o.op≠ .select cs b):
  ∀(fuel:Nat) (listed:Array Bool) (a:Act) (S:Tmp→Prop),Cl md ops listed→
   (∀j oj,ops[j]? =some oj→j≠i→listed.getD j true=false→(∀e∈oj.after,Region.binds md e=true→e.on≠i)→oi.apart ops oj=true)→
   i∈Region.ready md ops listed→(Region.wanted oi (yielded ops a.tmps)=true→∃v,Valid W F oi.dst v)→
   body P ops W F oi (mz P ops W F md n L0 Q fuel (listed.setIfInBounds i true)) a S→mz P ops W F md n L0 Q (fuel+1) listed a S:=by
 intro fuel;induction fuel with
 |zero=>
  intro listed a S hcl _ hr hex H;refine⟨fun h=>(by rw [h] at hr;cases hr),fun j hj=> ?_⟩;by_cases hji:j=i
  ·subst hji;unfold mOp;simp only [hi];exact H
  ·have hno:=ready_mono hj hji;have hall:∀j∈Region.ready md ops (listed.setIfInBounds i true),j=n:=by
    unfold body at H;split at H
    ·rename_i hw;obtain⟨v,hv⟩:=hex hw;exact(H.2 v hv).1.1
    ·exact H.1.1
   obtain rfl:=hall j hno;exfalso;obtain⟨hjun,oj,hoj,hal⟩:=mem_ready.1 hj;rw [hn] at hoj;injection hoj with hoj;subst hoj;obtain⟨e,he,hb,heq⟩:=hlast;have h1:=hal e he hb;have h0:=(mem_ready.1 hr).1;replace h1:listed.getD i false=true:=by
    rcases heq with heq | ⟨ok,hok,e',he',hb',heq'⟩
    ·rw [heq] at h1;exact h1
    ·have:=hcl _ ok hok h1 e' he' hb';rw [heq'] at this;exact this
   rcases Nat.lt_or_ge i listed.size with h' | h'
   ·simp [h'] at h0 h1;rw [h0] at h1;cases h1
   ·simp [Array.getElem?_eq_none h'] at h1
 |succ fuel ih=>
  intro listed a S hcl hfree hr hex H;refine⟨fun h=>(by rw [h] at hr;cases hr),fun j hj=> ?_⟩;by_cases hji:j=i
  ·subst hji;unfold mOp;simp only [hi];exact H
  ·obtain⟨hjun,oj,hoj,hall⟩:=mem_ready.1 hj;have hnot:∀e∈oj.after,Region.binds md e=true→e.on≠i:=fun e he hb heq=>by
    have h1:=hall e he hb;have h0:=(mem_ready.1 hr).1;rw [heq] at h1;rcases Nat.lt_or_ge i listed.size with h' | h'
    ·simp [h'] at h0 h1;rw [h0] at h1;cases h1
    ·simp [Array.getElem?_eq_none h'] at h1
   have hap:=hfree j oj hoj hji hjun hnot;obtain⟨_,_,h3⟩:=Oper.apart_spec hap;have H1:body P ops W F oi (fun a' S'=>body P ops W F oj (mz P ops W F md n L0 Q fuel ((listed.setIfInBounds i true).setIfInBounds j true)) a' S') a S:=dS (fun a' S' h=>by
    have:=h.2 j (ready_mono hj hji);unfold mOp at this;simp only [hoj] at this;exact this) H
   have H2:=mM hap (fun cs b=>hsel i oi cs b hi) (fun cs b=>hsel j oj cs b hoj) hex H1;have H3:=jA (A:=fun a'=>Region.wanted oi (yielded ops a'.tmps)=true→∃v,Valid W F oi.dst v) (fun u=>by rw [wanted_put oi a oj.dst u h3];exact hex) H2;have hfree':∀k ok,ops[k]? =some ok→k≠i→(listed.setIfInBounds j true).getD k true=false→
     (∀e∈ok.after,Region.binds md e=true→e.on≠i)→oi.apart ops ok=true:=fun k ok hk hki hun hno=>by
    refine hfree k ok hk hki ?_ hno;by_cases hjk:j=k
    ·subst hjk;exact hjun
    ·rw [getD_set_ne true hjk] at hun;exact hun
   unfold mOp;simp only [hoj];refine dS (fun a' S' h=>ih (listed.setIfInBounds j true) a' S' (hcl.set hj) hfree' (ready_mono hr (Ne.symm hji)) h.1 ?_) H3;rw [Array.setIfInBounds_comm _ _ hji];exact h.2
def pre (sz k:Nat):Array Bool:=(List.range k).foldl (fun l i=>l.setIfInBounds i true) (Array.replicate sz false)
theorem oD (sz k:Nat):pre sz (k+1)=(pre sz k).setIfInBounds k true:=by
 unfold pre;rw [List.range_succ,List.foldl_append];rfl
theorem JU (sz:Nat):∀(k j:Nat),j < k→(pre sz k).getD j true=true:=by
 intro k;induction k with
 |zero=>intro j h;omega
 |succ k ih=>
  intro j h;rw [oD];by_cases e:k=j
  ·subst e;by_cases hb:k < (pre sz k).size
   ·simp [hb]
   ·simp [hb]
  ·rw [getD_set_ne true e];exact ih j (by omega)
theorem Jy (sz:Nat) (k:Nat) (hk:k < sz):(pre sz k).getD k false=false:=by
 have h:∀(m:Nat),m≤k→(pre sz m).getD k false=false:=by
  intro m;induction m with
  |zero=>intro _;simp [pre,hk]
  |succ m ih=>
   intro hm;rw [oD,getD_set_ne false (by omega)];exact ih (by omega)
 exact h k (Nat.le_refl _)
theorem nW {Q:Act→(Tmp→Prop)→Prop} {on:Oper} {m:Nat} (hsz:ops.size=n+1+m) (hn:ops[n]? =some on) (hs:Region.noSelect ops=true) (hlast:∀i,i < n→Dj md ops on i)
  (htail:∀(j:Nat) (oj:Oper),n < j→ops[j]? =some oj→∃e∈oj.after,Region.binds md e=true∧e.on=n):∀(l:List Oper) (k:Nat) (a:Act) (S:Tmp→Prop),Cl md ops (pre ops.size k)→k+l.length=n→(∀j,j < l.length→l[j]? =ops[k+j]?)→
  Region.lexFrom md ops (l.length+1+m) k (pre ops.size k)=true→je P ops W F Q l a S→mz P ops W F md n (pre ops.size n) Q l.length (pre ops.size k) a S
 |[],k,_,_,_,hk,_,hB,h=>by
  have hkn:k=n:=by simpa using hk
  subst hkn;have e:([]:List Oper).length+1+m=m+1:=by simp;omega
  rw [e,Region.lexFrom] at hB;simp only [Bool.and_eq_true] at hB;obtain⟨⟨hr,_⟩,_⟩:=hB;have hr':k∈Region.ready md ops (pre ops.size k):=by simpa using hr
  refine⟨⟨fun j hj=> ?_,fun h0=>(by rw [h0] at hr';cases hr'),rfl⟩,h⟩;refine Classical.byContradiction fun hne=> ?_;obtain⟨hjun,oj,hoj,hall⟩:=mem_ready.1 hj;rcases Nat.lt_or_ge j k with hlt | hge
  ·rw [JU _ _ _ hlt] at hjun;cases hjun
  ·obtain⟨e,he,hb,heq⟩:=htail j oj (by omega) hoj;have h1:=hall e he hb;rw [heq,Jy _ _ (by omega)] at h1
   cases h1
 |o :: l,k,a,S,hcl,hk,hl,hB,h=>by
  have h0:ops[k]? =some o:=by simpa using (hl 0 (by simp)).symm
  have e:(o :: l).length+1+m=(l.length+1+m)+1:=by simp;omega
  rw [e,Region.lexFrom] at hB;simp only [List.length_cons] at hk;simp only [Bool.and_eq_true] at hB;obtain⟨⟨hr,hf⟩,hB'⟩:=hB;refine rU h0 hn (hlast k (by omega)) (Region.noSelect_spec hs) l.length (pre ops.size k) a S hcl (Region.free_spec h0 hf) (by simpa using hr) h.1 ?_;have hcl':=hcl.set (by simpa using hr:k∈Region.ready md ops (pre ops.size k));rw [←oD] at hB' hcl' ⊢;exact dS (fun a' S' q=>nW hsz hn hs hlast htail l (k+1) _ _ hcl' (by omega) (fun j hj=>by have:=hl (j+1) (by simp;omega);simpa [Nat.add_assoc,Nat.add_comm 1 j] using this) hB' q) h.2
theorem Bx {Q:Exit→Act→World→Prop} {m i:Nat} {L:Array Bool} {a:Act} {w:World} {o:Oper} (hr:Region.ready md ops L= [i]) (ho:ops[i]? =some o) (hw:Region.wanted o (yielded ops a.tmps)=true)
  (h:∀K:Act→World→Prop,(∀a' w',wpAny P md ops Q m (L.setIfInBounds i true) a' w'→K a' w')→o.wp P a w K Q):wpAny P md ops Q (m+1) L a w:=
 ⟨fun h0=>(by rw [hr] at h0;cases h0),fun j hj=>by
  rw [hr] at hj;obtain rfl:j=i:=by simpa using hj
  unfold wpOp;simp only [ho];rw [if_pos hw];exact .inl (h _ (fun a' w' q=>q))⟩
theorem Ap {Q:Exit→Act→World→Prop} {L:Array Bool} {a:Act} {w:World} (hr:Region.ready md ops L= []) (h:Q .normal a w):wpAny P md ops Q 0 L a w:=⟨hr,h⟩
theorem oL {id:Nat} {Q:Exit→Act→World→Prop} {a:Act} {l:List Oper} (F:Tmp→Up) (n m:Nat) (o:Oper) (hn:l.length=n+1+m) (ho:l[n]? =some o) (hm:P.follows .mixedOrders=true) (hB:Region.lexB .any l.toArray=true)
  (hL:(List.range n).all (fun i=>o.after.any fun e=>Region.binds .any e && (e.on == i || (match l[e.on]? with | some ok=>ok.after.any fun e'=>Region.binds .any e' && e'.on == i | none=>false)))=true) (hT:(l.drop (n+1)).all (fun oj=>oj.after.any fun e=>Region.binds .any e && e.on == n)=true)
  (h:je P l.toArray W F (fun a' S=>∀w',Below W.heap.size W w'→ic F S a' w'→Region.wanted o (yielded l.toArray a'.tmps)=true∧∀K:Act→World→Prop,(∀a'' w'',wpAny P .any l.toArray Q m ((pre l.toArray.size n).setIfInBounds n true) a'' w''→K a'' w'')→o.wp P a' w' K Q) (l.take n) a (fun _=>False)):(Code.region id l.toArray true).wp P Q a W:=by
 simp only [Region.lexB,Bool.and_eq_true] at hB;have hsz:l.toArray.size=n+1+m:=by simpa using hn
 refine wp_region_any hm ?_;have hoA:l.toArray[n]? =some o:=by simpa using ho
 have e0:l.toArray.size=m+1+n:=by omega
 rw [e0];have hlen:(l.take n).length=n:=by rw [List.length_take];omega
 have hlast:∀i,i < n→Dj .any l.toArray o i:=fun i hi=>by
  have:=List.all_eq_true.1 hL i (by simpa using hi);obtain⟨e,he,h2⟩:=Array.any_eq_true'.1 this;simp only [Bool.and_eq_true,Bool.or_eq_true,beq_iff_eq] at h2;refine⟨e,he,h2.1,?_⟩;rcases h2.2 with h3 | h3
  ·exact .inl h3
  ·right;split at h3
   ·rename_i ok hok;obtain⟨e',he',h4⟩:=Array.any_eq_true'.1 h3;simp only [Bool.and_eq_true,beq_iff_eq] at h4;exact⟨ok,by simpa using hok,e',he',h4.1,h4.2⟩
   ·cases h3
 have htail:∀(j:Nat) (oj:Oper),n < j→l.toArray[j]? =some oj→∃e∈oj.after,Region.binds .any e=true∧e.on=n:=fun j oj hj hoj=>by
  have hm':oj∈l.drop (n+1):=by
   rw [List.mem_iff_getElem?];refine⟨j - (n+1),?_⟩;rw [List.getElem?_drop,show n+1+(j - (n+1))=j by omega];simpa using hoj
  have:=List.all_eq_true.1 hT oj hm';obtain⟨e,he,h2⟩:=Array.any_eq_true'.1 this;simp only [Bool.and_eq_true,beq_iff_eq] at h2;exact⟨e,he,h2.1,h2.2⟩
 refine iL (W:=W) (F:=F) (n:=n) (L0:=pre l.toArray.size n) (Q:=fun a' S=>∀w',Below W.heap.size W w'→ic F S a' w'→Region.wanted o (yielded l.toArray a'.tmps)=true∧∀K:Act→World→Prop,(∀a'' w'',wpAny P .any l.toArray Q m ((pre l.toArray.size n).setIfInBounds n true) a'' w''→K a'' w'')→o.wp P a' w' K Q) hoA (fun _ _ w' hC hA h=>h w' hC hA) n _ _ (fun _=>False) _ (Below.refl _ _).drew (fun t ht=>ht.elim) ?_;have hB2:=hB.2;have:=nW (P:=P) (W:=W) (F:=F) (md:= .any) (n:=n) (m:=m) hsz hoA hB.1 hlast htail (l.take n) 0 a (fun _=>False) (fun j oj _ hj=>by
  exfalso;simp only [pre,List.range_zero,List.foldl_nil,Array.getD_eq_getD_getElem?,Array.getElem?_replicate] at hj;split at hj <;> simp at hj) (by omega) (fun j hj=>by
  rw [Nat.zero_add,List.getElem?_take,if_pos (by omega)];simp) (by rw [hlen,show n+1+m=l.toArray.size by omega];exact hB2) h
 rw [hlen] at this;have e1:pre l.toArray.size 0=Array.replicate (m+1+n) false:=by rw [←e0];rfl
 rw [e1] at this;exact this
end
end Go.Proofs.YtaiaakklokahjaaGreatDoor.Mix
