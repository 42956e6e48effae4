/- Texts of one chain, joined. -/
import Derived.Test.YtljkgcfnoegibaaGreatDoorWcAA
import Derived.Test.YtljkgcfnoegibaaGreatDoorWcAB
import Derived.Test.YtljkgcfnoegibaaGreatDoorWcAC
import Derived.Laws.BitsLemmas
import Derived.Laws.BitsAllLaws
import Derived.RowKit
import Derived.Test.YtljkgcfnoegibaaGreatDoorProg
import Derived.WalkKit
import Derived.WalkSpells
import Derived.WalkSmall
import Derived.WalkLawsBesides
import Derived.KernelRfl
import Derived.Below
import Derived.Deep.QuietTactic
import Derived.BigQuiet
import Derived.RegionTactic
import Derived.BigRegion
import Derived.Laws.AppendOwnNone
import Derived.Deep.RegionHeld3
import Derived.Deep.AppendLies
import Derived.Laws.RangeAny
import Derived.Lib.OthersKept
import Derived.Deep.RegionWith
import Derived.Deep.Cut
set_option maxHeartbeats 1000000
namespace Go.Proofs.YtljkgcfnoegibaaGreatDoor.L3
open Go
open Go Go.RowKit
def pw (k:Nat):Int:=((2 ^ k:Nat):Int)
def bit (m k:Nat):Bool:=m.testBit k
def letter (m k:Nat):UInt8:=if bit m k then 112 else 105
def letters (m n:Nat):List UInt8:=(List.range n).map (letter m)
def isL (c:UInt8):Bool:=c == 105 || c == 112
def allL (l:List UInt8):Bool:=l.all isL
def mask (l:List UInt8):Nat→Nat
 |0=>0
 |k+1=>mask l k+if l[k]? =some 112 then 2 ^ k else 0
def may (s m:Int):Bool:=decide (0≤s∧s≤16∧0≤m∧m < pw s.toNat)
theorem pw_nat (k:Nat):pw k=((2 ^ k:Nat):Int):=rfl
theorem mask_lt (l:List UInt8):∀k,mask l k < 2 ^ k
 |0=>by simp [mask]
 |k+1=>by
  have:=mask_lt l k
  rw [mask,Nat.pow_succ];split <;> omega
theorem or_pow {m k:Nat} (h:m < 2 ^ k):m ||| 2 ^ k=m+2 ^ k:=by
 rw [Nat.or_comm,nat_join k (2 ^ k) m (Nat.mod_self _) h,Nat.add_comm]
theorem wraps_i64:∀n:Int,0≤n→n < 2 ^ 17→IntKind.i64.wrap n=n:=by
 intro n h0 h1
 have:(2:Int) ^ 17=131072:=by decide
 simp [IntKind.wrap,IntKind.bits,IntKind.signed]
 omega
theorem or_bits {m k:Nat} (hk:k < 16) (h:m < 2 ^ k):bits .or .i64 (m:Int) (pw k)=((m+2 ^ k:Nat):Int):=by
 have h16:2 ^ k≤2 ^ 16:=Nat.pow_le_pow_right (by decide) (by omega)
 have:(2:Nat) ^ 16 < 2 ^ 17:=by decide
 rw [pw_nat,(bits_nat .i64 17 (by decide) wraps_i64 m (2 ^ k) (by omega) (by omega)).2,or_pow h]
theorem hide {p:Prop} (h:p):Hid p:=h
theorem below_box (w:World) (o:Obj):Below w.heap.size w (w.alloc o):=(Below.refl _ _).alloc (Nat.le_refl _) _
theorem below_put2 {w w1:World} (h:Below w.heap.size w w1) (u v:Value):Below w.heap.size w ((w1.setCell ⟨w.heap.size,0,none⟩ u).setCell ⟨w.heap.size,1,none⟩ v):=(h.setCell (by simp) _).setCell (by simp) _
def Pair (w:World) (g:Nat) (a b:Value):Prop:=
 w.cell? ⟨g,0,none⟩=some a∧w.cell? ⟨g,1,none⟩=some b∧w.frozen? ⟨g,0,none⟩=false∧w.frozen? ⟨g,1,none⟩=false∧g < w.heap.size
theorem Pair.new (w:World) (t:TypeId) {a b:Value}:Pair (w.alloc (.cells #[a,b] t)) w.heap.size a b:=by
 refine⟨?_,?_,?_,?_,by simp⟩ <;> simp [go_sem]
theorem Pair.below {w w1:World} {g:Nat} {a b:Value} (h:Pair w g a b) (hb:Below w.heap.size w w1):Pair w1 g a b:=by
 obtain⟨c0,c1,f0,f1,z⟩:=h
 exact⟨(hb.cell z).trans c0,(hb.cell z).trans c1,(hb.frozen z).trans f0,(hb.frozen z).trans f1,Nat.lt_of_lt_of_le z hb.size⟩
theorem Pair.alloc {w:World} {g:Nat} {a b:Value} (h:Pair w g a b) (o:Obj):Pair (w.alloc o) g a b:=h.below (below_box w o)
def Tab (w:World):Prop:=1 < w.heap.size∧∀k,k < 16→w.cell? ⟨1,k,none⟩=some (.int .i64 (pw k))
theorem Tab.below {w w':World} (h:Tab w) (b:Below w.heap.size w w'):Tab w':=
 ⟨Nat.lt_of_lt_of_le h.1 b.size,fun k hk=>(b.cell h.1).trans (h.2 k hk)⟩
theorem Pair.put1 {w:World} {g:Nat} {a b:Value} (h:Pair w g a b) (u:Value):Pair (w.setCell ⟨g,1,none⟩ u).drew g a u:=by
 obtain⟨c0,c1,f0,f1,z⟩:=h
 refine⟨?_,?_,?_,?_,?_⟩
 ·show(w.setCell ⟨g,1,none⟩ u).cell? ⟨g,0,none⟩=_
  rw [World.cell?_setCell_other _ _ _ _ (by simp)];exact c0
 ·exact World.cell?_setCell_same _ _ _ c1
 ·show(w.setCell ⟨g,1,none⟩ u).frozen? ⟨g,0,none⟩=_
  rw [World.frozen?_setCell];exact f0
 ·show(w.setCell ⟨g,1,none⟩ u).frozen? ⟨g,1,none⟩=_
  rw [World.frozen?_setCell];exact f1
 ·show g < (w.setCell ⟨g,1,none⟩ u).heap.size
  simpa using z
theorem Pair.other {w:World} {g h:Nat} {a b:Value} (p:Pair w g a b) (hg:g≠h) (j:Nat) (u:Value):Pair (w.setCell ⟨h,j,none⟩ u).drew g a b:=by
 obtain⟨c0,c1,f0,f1,z⟩:=p
 refine⟨?_,?_,?_,?_,?_⟩
 ·show(w.setCell ⟨h,j,none⟩ u).cell? ⟨g,0,none⟩=_
  rw [World.cell?_setCell_other _ _ _ _ (fun e=>hg (congrArg Addr.block e).symm)];exact c0
 ·show(w.setCell ⟨h,j,none⟩ u).cell? ⟨g,1,none⟩=_
  rw [World.cell?_setCell_other _ _ _ _ (fun e=>hg (congrArg Addr.block e).symm)];exact c1
 ·show(w.setCell ⟨h,j,none⟩ u).frozen? ⟨g,0,none⟩=_
  rw [World.frozen?_setCell];exact f0
 ·show(w.setCell ⟨h,j,none⟩ u).frozen? ⟨g,1,none⟩=_
  rw [World.frozen?_setCell];exact f1
 ·show g < (w.setCell ⟨h,j,none⟩ u).heap.size
  simpa using z
theorem size_len (s:ByteArray):s.data.toList.length=s.size:=by simp
theorem empty_true (s:ByteArray) (h:s.size=0):s.toList.isEmpty=true:=by
 have:s.data.toList= []:=List.length_eq_zero_iff.1 (by rw [size_len];exact h)
 rw [ByteArray.toList_eq,this];rfl
theorem empty_false (s:ByteArray) (h:0 < s.size):s.toList.isEmpty=false:=by
 rw [ByteArray.toList_eq]
 cases e:s.data.toList with
 |nil=>have:=size_len s;rw [e] at this;simp at this;omega
 |cons=>rfl
theorem point_true (s:ByteArray) (h:s.data.toList= [46]):(s.toList == [46])=true:=by
 rw [ByteArray.toList_eq,h];rfl
theorem point_false (s:ByteArray) (h:s.data.toList≠ [46]):(s.toList == [46])=false:=by
 rw [ByteArray.toList_eq];simpa using h
theorem at_list (s:ByteArray) (k:Nat) (h:k < s.size):s.data.toList[k]? =some s[k]:=by
 rw [List.getElem?_eq_getElem (by simpa using h)];rfl
theorem toNat_eq_iff (c:UInt8) (k:Nat) (hk:k < 256):c.toNat=k↔c=UInt8.ofNat k:=by
 constructor
 ·intro h;apply UInt8.toNat_inj.1;rw [h];simp [UInt8.toNat_ofNat'];omega
 ·rintro rfl;simp [UInt8.toNat_ofNat'];omega
theorem mask_i (s:ByteArray) (k:Nat) (h:k < s.size) (hc:¬(s[k].toNat:Int)=112):mask s.data.toList (k+1)=mask s.data.toList k:=by
 rw [mask,at_list s k h,if_neg,Nat.add_zero]
 intro e
 have:s[k]=112:=Option.some.inj e
 exact hc (by rw [this];rfl)
theorem mask_p (s:ByteArray) (k:Nat) (h:k < s.size) (hc:(s[k].toNat:Int)=112):mask s.data.toList (k+1)=mask s.data.toList k+2 ^ k:=by
 rw [mask,at_list s k h,if_pos]
 rw [(toNat_eq_iff s[k] 112 (by decide)).1 (by omega)];rfl
def Upto (s:ByteArray) (k:Nat):Prop:=∀j,j < k→∀h:j < s.size,isL s[j]=true
theorem upto_zero (s:ByteArray):Upto s 0:=fun j h=>by omega
theorem upto_succ {s:ByteArray} {k:Nat} (h:Upto s k) (hk:k < s.size) (hc:(s[k].toNat:Int)=105∨(s[k].toNat:Int)=112):Upto s (k+1):=by
 intro j hj hs
 by_cases e:j < k
 ·exact h j e hs
 ·have:j=k:=by omega
  subst this
  rcases hc with hc | hc
  ·rw [(toNat_eq_iff s[j] 105 (by decide)).1 (by omega)];rfl
  ·rw [(toNat_eq_iff s[j] 112 (by decide)).1 (by omega)];rfl
theorem upto_all {s:ByteArray} (h:Upto s s.size):allL s.data.toList=true:=by
 unfold allL
 rw [List.all_eq_true]
 intro c hc
 obtain⟨j,hj,rfl⟩:=List.mem_iff_getElem.1 hc
 have hj':j < s.size:=by simpa using hj
 exact h j hj' hj'
theorem all_no {s:ByteArray} {k:Nat} (hk:k < s.size) (h1:¬(s[k].toNat:Int)=105) (h2:¬(s[k].toNat:Int)=112):allL s.data.toList=false:=by
 rw [Bool.eq_false_iff]
 intro h
 have:=List.all_eq_true.1 h s[k] (List.mem_of_getElem? (at_list s k hk))
 unfold isL at this
 simp only [Bool.or_eq_true,beq_iff_eq] at this
 rcases this with e | e
 ·exact h1 (by rw [e];rfl)
 ·exact h2 (by rw [e];rfl)
def readL (l:List UInt8):Value:=
 if allL l then .tuple #[.agg #[.int .i64 l.length,.int .i64 (mask l l.length)],.int .i64 0] else .tuple #[.agg #[.int .i64 0,.int .i64 0],.int .i64 16]
theorem readL_yes {s:ByteArray} (h:Upto s s.size):readL s.data.toList= .tuple #[.agg #[.int .i64 s.size,.int .i64 (mask s.data.toList s.size)],.int .i64 0]:=by
 unfold readL;rw [upto_all h,size_len];rfl
theorem readL_no {s:ByteArray} {k:Nat} (hk:k < s.size) (h1:¬(s[k].toNat:Int)=105) (h2:¬(s[k].toNat:Int)=112):readL s.data.toList= .tuple #[.agg #[.int .i64 0,.int .i64 0],.int .i64 16]:=by
 unfold readL;rw [all_no hk h1 h2];rfl
theorem pair_start (w:World) (s:ByteArray):Pair ((w.alloc (.cells #[.int .i64 0,.int .i64 0] 119)).alloc (.cells #[.int .i64 s.size,.int .i64 0] 119)) (w.heap.size+1) (.int .i64 s.size) (.int .i64 (mask s.data.toList 0)):=by
 have h:=Pair.new (w.alloc (.cells #[.int .i64 0,.int .i64 0] 119)) 119 (a:= .int .i64 s.size) (b:= .int .i64 0)
 rw [show(w.alloc (.cells #[.int .i64 0,.int .i64 0] 119)).heap.size=w.heap.size+1 from by simp] at h
 exact h
theorem parse_point (s:ByteArray) (w:World) (h:s.data.toList= [46]):
  Calls Tryz.prog 141 #[.string s] w fun e w'=>e= .returned (.tuple #[.agg #[.int .i64 0,.int .i64 0],.int .i64 0])∧Below w.heap.size w w':=by
 have hp:=point_true s h
 clear h
 go_enter Tryz.func141,Tryz.ntmps141
 go_wp2_with fail
 exact bodyPost_ret (v:= .tuple #[.agg #[.int .i64 0,.int .i64 0],.int .i64 0]) (by simp [results,Tryz.results141,go_sem]) rfl ⟨rfl,below_box _ _⟩
theorem parse_empty (s:ByteArray) (w:World) (h:s.size=0):
  Calls Tryz.prog 141 #[.string s] w fun e w'=>e= .returned (.tuple #[.agg #[.int .i64 0,.int .i64 0],.int .i64 16])∧Below w.heap.size w w':=by
 have hp:=point_false s (fun e=>by have:=size_len s;rw [e] at this;simp at this;omega)
 have he:=empty_true s h
 clear h
 go_enter Tryz.func141,Tryz.ntmps141
 go_wp2_with fail
 exact bodyPost_ret (v:= .tuple #[.agg #[.int .i64 0,.int .i64 0],.int .i64 16]) (by simp [results,Tryz.results141,go_sem]) rfl ⟨rfl,below_box _ _⟩
theorem parse_long (s:ByteArray) (w:World) (h:16 < s.size):
  Calls Tryz.prog 141 #[.string s] w fun e w'=>e= .returned (.tuple #[.agg #[.int .i64 0,.int .i64 0],.int .i64 16])∧Below w.heap.size w w':=by
 have hp:=point_false s (fun e=>by have:=size_len s;rw [e] at this;simp at this;omega)
 have he:=empty_false s (by omega)
 go_enter Tryz.func141,Tryz.ntmps141
 go_wp2_with fail
 exact bodyPost_ret (v:= .tuple #[.agg #[.int .i64 0,.int .i64 0],.int .i64 16]) (by simp [results,Tryz.results141,go_sem]) rfl ⟨rfl,below_box _ _⟩
theorem parse_letters (s:ByteArray) (w:World) (h0:0 < s.size) (h1:s.size≤16) (hs:s.data.toList≠ [46]) (ht:Tab w):
  Calls Tryz.prog 141 #[.string s] w fun e w'=>e= .returned (readL s.data.toList)∧Below w.heap.size w w':=by
 have hp:=point_false s hs
 have he:=empty_false s h0
 have HT:=hide ht
 clear hs ht
 go_enter Tryz.func141,Tryz.ntmps141
 go_wp2_with fail
 go_loopw [22] (fun i wr=>∃k:Nat,k≤s.size∧i= .int .i64 k∧Upto s k∧Pair wr w.heap.size (.int .i64 0) (.int .i64 0)∧Pair wr (w.heap.size+1) (.int .i64 s.size) (.int .i64 (mask s.data.toList k))∧Below w.heap.size w wr) (fun i _=>s.size - (intOf i).toNat)
 case atStart=>
  exact⟨0,Nat.zero_le _,rfl,upto_zero s,(Pair.new w 119).alloc _,pair_start w s,(below_box _ _).alloc (by simp) _⟩
 case round=>
  obtain⟨k,hk,rfl,HU,HR,HX,HB⟩:=hrel
  have HU:=hide HU
  have HR:=hide HR
  have HX:=hide HX
  have HB:=hide HB
  by_cases hlt:k < s.size
  ·have hlt':(k:Int) < s.size:=by omega
   by_cases hc:(s[k].toNat:Int)=105
   ·have HM:=hide (mask_i s k hlt (by omega))
    go_wp2_with fail
    go_roundw
    case rel=>exact⟨k+1,by omega,by go_num,upto_succ HU.out hlt (.inl hc),HR.out,by rw [HM.out];exact HX.out,HB.out⟩
    case measure=>simp [intOf];omega
   ·by_cases hc2:(s[k].toNat:Int)=112
    ·have HM:=hide (mask_p s k hlt hc2)
     have hk16:(k:Int) < 16:=by omega
     obtain⟨x0,x1,y0,y1,z1⟩:=HX.out
     have tb:=(HT.out.below HB.out).2 k (by omega)
     have HO:=hide (or_bits (k:=k) (by omega) (mask_lt s.data.toList k))
     go_wp2_with fail
     go_region
     go_wp2_with fail
     go_roundw
     case rel=>exact⟨k+1,by omega,by go_num,upto_succ HU.out hlt (.inr hc2),HR.out.other (by omega) _ _,by rw [HM.out,←HO.out];exact HX.out.put1 _,(HB.out.setCell (by simp) _).drew⟩
     case measure=>simp [intOf];omega
    ·have HM:=hide (readL_no hlt hc hc2)
     obtain⟨c0,c1,f0,f1,z1⟩:=HR.out
     go_wp2_with fail
     exact bodyPost_ret (v:= .tuple #[.agg #[.int .i64 0,.int .i64 0],.int .i64 16]) (by simp [results,Tryz.results141,go_sem,c0,c1]) rfl ⟨by rw [HM.out],below_put2 HB.out _ _⟩
  ·have:k=s.size:=by omega
   subst this
   have HM:=hide (readL_yes HU.out)
   obtain⟨c0,c1,f0,f1,z1⟩:=HR.out
   obtain⟨x0,x1,y0,y1,z1⟩:=HX.out
   go_wp2_with fail
   exact bodyPost_ret (v:= .tuple #[.agg #[.int .i64 s.size,.int .i64 (mask s.data.toList s.size)],.int .i64 0]) (by simp [results,Tryz.results141,go_sem,c0,c1]) rfl ⟨by rw [HM.out],below_put2 HB.out _ _⟩
def readS (s:ByteArray):Value:=
 if s.data.toList= [46] then .tuple #[.agg #[.int .i64 0,.int .i64 0],.int .i64 0]
 else if s.size=0∨16 < s.size then .tuple #[.agg #[.int .i64 0,.int .i64 0],.int .i64 16]
 else readL s.data.toList
theorem parse_all (s:ByteArray) (w:World) (ht:Tab w):
  Calls Tryz.prog 141 #[.string s] w fun e w'=>e= .returned (readS s)∧Below w.heap.size w w':=by
 unfold readS
 by_cases hp:s.data.toList= [46]
 ·rw [if_pos hp];exact parse_point s w hp
 rw [if_neg hp]
 by_cases h0:s.size=0
 ·rw [if_pos (.inl h0)];exact parse_empty s w h0
 by_cases h1:16 < s.size
 ·rw [if_pos (.inr h1)];exact parse_long s w h1
 rw [if_neg (by omega)];exact parse_letters s w (by omega) (by omega) hp ht
theorem pw_succ (k:Nat):pw (k+1)=pw k * 2:=by
 unfold pw;rw [Nat.pow_succ];simp
theorem pw_pos (k:Nat):1≤pw k:=by
 have:0 < 2 ^ k:=Nat.two_pow_pos k
 unfold pw;omega
theorem pw_mono {i j:Nat} (h:i≤j):pw i≤pw j:=by
 have:2 ^ i≤2 ^ j:=Nat.pow_le_pow_right (by decide) h
 unfold pw;omega
theorem pw_le {k:Nat} (h:k≤16):pw k≤65536:=pw_mono (j:=16) h
theorem int_val {k:IntKind} {a b:Int} (h:a=b):Value.int k a= .int k b:=congrArg (Value.int k) h
theorem power_any (n:Nat) (w:World) (hn:n≤16):
  Calls Tryz.prog 105 #[.int .i64 n] w fun e w'=>e= .returned (.int .i64 (pw n))∧w'=w:=by
 go_enter Tryz.func105,Tryz.ntmps105
 go_wp2
 go_loop [3,4] (fun o i=>∃k:Nat,k≤n∧i= .int .i64 k∧o= .int .i64 (pw k)) (fun _ i=>n - (intOf i).toNat)
 case atStart=>exact⟨0,Nat.zero_le _,rfl,rfl⟩
 case round=>
  obtain⟨k,hk,rfl,rfl⟩:=hrel
  have h1:=pw_pos k
  have h2:=pw_le (k:=k) (by omega)
  by_cases hlt:k < n
  ·go_wp2
   go_round
   case rel=>exact⟨k+1,by omega,by go_num,int_val (pw_succ k).symm⟩
   case measure=>simp [intOf];omega
  ·go_wp2
   go_ret
   have:k=n:=by omega
   subst this
   exact⟨rfl,rfl⟩
theorem mask_le (s:ByteArray) (k:Nat) (h:k < 16):mask s.data.toList k≤65535:=by
 have:=mask_lt s.data.toList k
 have h2:2 ^ k≤2 ^ 16:=Nat.pow_le_pow_right (by decide) (by omega)
 have:(2:Nat) ^ 16=65536:=by decide
 omega
theorem refParse_point (s:ByteArray) (w:World) (h:s.data.toList= [46]):
  Calls Tryz.prog 75 #[.string s] w fun e w'=>e= .returned (.tuple #[.agg #[.int .i64 0,.int .i64 0],.int .i64 0])∧Below w.heap.size w w':=by
 have hp:=point_true s h
 clear h
 go_enter Tryz.func75,Tryz.ntmps75
 go_wp2_with fail
 exact bodyPost_ret (v:= .tuple #[.agg #[.int .i64 0,.int .i64 0],.int .i64 0]) (by simp [results,Tryz.results75,go_sem]) rfl ⟨rfl,below_box _ _⟩
theorem refParse_empty (s:ByteArray) (w:World) (h:s.size=0):
  Calls Tryz.prog 75 #[.string s] w fun e w'=>e= .returned (.tuple #[.agg #[.int .i64 0,.int .i64 0],.int .i64 16])∧Below w.heap.size w w':=by
 have hp:=point_false s (fun e=>by have:=size_len s;rw [e] at this;simp at this;omega)
 have he:=empty_true s h
 clear h
 go_enter Tryz.func75,Tryz.ntmps75
 go_wp2_with fail
 exact bodyPost_ret (v:= .tuple #[.agg #[.int .i64 0,.int .i64 0],.int .i64 16]) (by simp [results,Tryz.results75,go_sem]) rfl ⟨rfl,below_box _ _⟩
theorem refParse_long (s:ByteArray) (w:World) (h:16 < s.size):
  Calls Tryz.prog 75 #[.string s] w fun e w'=>e= .returned (.tuple #[.agg #[.int .i64 0,.int .i64 0],.int .i64 16])∧Below w.heap.size w w':=by
 have hp:=point_false s (fun e=>by have:=size_len s;rw [e] at this;simp at this;omega)
 have he:=empty_false s (by omega)
 go_enter Tryz.func75,Tryz.ntmps75
 go_wp2_with fail
 exact bodyPost_ret (v:= .tuple #[.agg #[.int .i64 0,.int .i64 0],.int .i64 16]) (by simp [results,Tryz.results75,go_sem]) rfl ⟨rfl,below_box _ _⟩
theorem refParse_letters (s:ByteArray) (w:World) (h0:0 < s.size) (h1:s.size≤16) (hs:s.data.toList≠ [46]):
  Calls Tryz.prog 75 #[.string s] w fun e w'=>e= .returned (readL s.data.toList)∧Below w.heap.size w w':=by
 have hp:=point_false s hs
 have he:=empty_false s h0
 clear hs
 go_enter Tryz.func75,Tryz.ntmps75
 go_wp2_with fail
 go_loop [4,5] (fun m i=>∃k:Nat,k≤s.size∧i= .int .i64 k∧m= .int .i64 (mask s.data.toList k)∧Upto s k) (fun _ i=>s.size - (intOf i).toNat)
 case atStart=>exact⟨0,Nat.zero_le _,rfl,rfl,upto_zero s⟩
 case round=>
  obtain⟨k,hk,rfl,rfl,HU⟩:=hrel
  have HU:=hide HU
  by_cases hlt:k < s.size
  ·have hlt':(k:Int) < s.size:=by omega
   by_cases hc:(s[k].toNat:Int)=105
   ·have HM:=hide (mask_i s k hlt (by omega))
    go_wp2_with fail
    go_round
    case rel=>exact⟨k+1,by omega,by go_num,by rw [HM.out],upto_succ HU.out hlt (.inl hc)⟩
    case measure=>simp [intOf];omega
   ·by_cases hc2:(s[k].toNat:Int)=112
    ·have HM:=hide (mask_p s k hlt hc2)
     have hb1:=mask_le s k (by omega)
     have hb2:=pw_le (k:=k) (by omega)
     have hb3:=pw_pos k
     go_wp2_with fail
     refine(power_any k _ (by omega)).mono ?_;rintro e w1 ⟨rfl,rfl⟩
     go_wp2_with fail
     go_round
     case rel=>exact⟨k+1,by omega,by go_num,int_val (by rw [HM.out];unfold pw;omega),upto_succ HU.out hlt (.inr hc2)⟩
     case measure=>simp [intOf];omega
    ·have HM:=hide (readL_no hlt hc hc2)
     have n1:((s[k].toNat:Int) != 105)=true:=by simpa using hc
     have n2:((s[k].toNat:Int) != 112)=true:=by simpa using hc2
     go_wp2_with fail
     exact bodyPost_ret (v:= .tuple #[.agg #[.int .i64 0,.int .i64 0],.int .i64 16]) (by simp [results,Tryz.results75,go_sem]) rfl ⟨by rw [HM.out],below_box _ _⟩
  ·have:k=s.size:=by omega
   subst this
   have HM:=hide (readL_yes HU.out)
   go_wp2_with fail
   exact bodyPost_ret (v:= .tuple #[.agg #[.int .i64 s.size,.int .i64 (mask s.data.toList s.size)],.int .i64 0]) (by simp [results,Tryz.results75,go_sem]) rfl ⟨by rw [HM.out],below_box _ _⟩
theorem refParse_all (s:ByteArray) (w:World):
  Calls Tryz.prog 75 #[.string s] w fun e w'=>e= .returned (readS s)∧Below w.heap.size w w':=by
 unfold readS
 by_cases hp:s.data.toList= [46]
 ·rw [if_pos hp];exact refParse_point s w hp
 rw [if_neg hp]
 by_cases h0:s.size=0
 ·rw [if_pos (.inl h0)];exact refParse_empty s w h0
 by_cases h1:16 < s.size
 ·rw [if_pos (.inr h1)];exact refParse_long s w h1
 rw [if_neg (by omega)];exact refParse_letters s w (by omega) (by omega) hp
end Go.Proofs.YtljkgcfnoegibaaGreatDoor.L3
namespace Go.Proofs.YtljkgcfnoegibaaGreatDoor
open Go Go.RowKit
def Tb (w:World):Prop:=True∧L3.Tab w∧L5.Tab w
theorem Tb.below {w w':World} (h:Tb w) (k:Below w.heap.size w w'):Tb w':=⟨trivial,h.2.1.below k,h.2.2.below k⟩
def Sl (w:World) (ao:Option Addr) (l:List Int):Prop:=l= []∨∃b o,ao=some ⟨b,o,none⟩∧b < w.heap.size∧∀i n,l[i]? =some n→w.cell? ⟨b,o+i,none⟩=some (.int .i64 n)
theorem Sl.below {w w':World} {ao:Option Addr} {l:List Int} (h:Sl w ao l) (hb:Below w.heap.size w w'):Sl w' ao l:=by
 rcases h with h | ⟨b,o,e,hl,hc⟩
 ·exact .inl h
 ·exact .inr ⟨b,o,e,Nat.lt_of_lt_of_le hl hb.size,fun i n hi=>(hb.cell (p:=⟨b,o+i,none⟩) hl).trans (hc i n hi)⟩
def dig (n:Int):List UInt8:=Lib.itoa n
def valW (n:Int):List UInt8:=37 :: dig n
def labW (n:Int):List UInt8:=98 :: dig n
def I64 (n:Int):Prop:= -9223372036854775808≤n∧n≤9223372036854775807
theorem cat_bs (x y:List UInt8):bs x ++ bs y=bs (x ++ y):=by
 apply ByteArray.ext
 simp [bs]
end Go.Proofs.YtljkgcfnoegibaaGreatDoor
namespace Go.Proofs.YtljkgcfnoegibaaGreatDoor.L2
open Go.RowKit
def smaB (c:Int):Bool:=decide (97≤c) && decide (c≤122)
def digB (c:Int):Bool:=decide (48≤c) && decide (c≤57)
def greB (c:Int):Bool:=decide (65≤c) && decide (c≤90)
def eolB (c:Int):Bool:=decide (c=10) || decide (c=13)
def blaB (c:Int):Bool:=decide (c=32) || decide (c=9) || eolB c
def aloB (c:Int):Bool:=decide (c=40) || decide (c=41) || decide (c=123) || decide (c=125) || decide (c=61) || decide (c=58)
def togB (c:Int):Bool:=decide (c=46) || decide (c=37) || decide (c=64) || decide (c=45) || decide (c=95) || smaB c || greB c || digB c
def shutW (ws:List (Nat × Nat)) (b:Option Nat) (p:Nat):List (Nat × Nat):=match b with
 |none=>ws
 |some q=>ws ++ [(q,p)]
def scan:List UInt8→Nat→List (Nat × Nat)→Option Nat→Bool→Nat ⊕ List (Nat × Nat)
 |[],p,ws,b,_=> .inr (shutW ws b p)
 |c :: l,p,ws,b,true=>scan l (p+1) ws b (!eolB c.toNat)
 |c :: l,p,ws,b,false=>
  if togB c.toNat then scan l (p+1) ws (some (b.getD p)) false
  else if aloB c.toNat then scan l (p+1) (shutW ws b p ++ [(p,p+1)]) none false
  else if(c.toNat:Int)=35 then scan l (p+1) (shutW ws b p) none true
  else if blaB c.toNat then scan l (p+1) (shutW ws b p) none false
  else .inl p
theorem scan_note (c:UInt8) (l:List UInt8) (p:Nat) (ws:List (Nat × Nat)) (b:Option Nat):scan (c :: l) p ws b true=scan l (p+1) ws b (!eolB c.toNat):=by rw [scan]
theorem scan_tog {c:UInt8} (l:List UInt8) (p:Nat) (ws:List (Nat × Nat)) (b:Option Nat) (h:togB c.toNat=true):scan (c :: l) p ws b false=scan l (p+1) ws (some (b.getD p)) false:=by rw [scan,if_pos h]
theorem scan_alo {c:UInt8} (l:List UInt8) (p:Nat) (ws:List (Nat × Nat)) (b:Option Nat) (h:togB c.toNat=false) (h2:aloB c.toNat=true):scan (c :: l) p ws b false=scan l (p+1) (shutW ws b p ++ [(p,p+1)]) none false:=by
 rw [scan,if_neg (by simp [h]),if_pos h2]
theorem scan_hash {c:UInt8} (l:List UInt8) (p:Nat) (ws:List (Nat × Nat)) (b:Option Nat) (h:togB c.toNat=false) (h2:aloB c.toNat=false) (h3:(c.toNat:Int)=35):scan (c :: l) p ws b false=scan l (p+1) (shutW ws b p) none true:=by
 rw [scan,if_neg (by simp [h]),if_neg (by simp [h2]),if_pos h3]
theorem scan_bla {c:UInt8} (l:List UInt8) (p:Nat) (ws:List (Nat × Nat)) (b:Option Nat) (h:togB c.toNat=false) (h2:aloB c.toNat=false) (h3:¬(c.toNat:Int)=35) (h4:blaB c.toNat=true):scan (c :: l) p ws b false=scan l (p+1) (shutW ws b p) none false:=by
 rw [scan,if_neg (by simp [h]),if_neg (by simp [h2]),if_neg h3,if_pos h4]
theorem scan_err {c:UInt8} (l:List UInt8) (p:Nat) (ws:List (Nat × Nat)) (b:Option Nat) (h:togB c.toNat=false) (h2:aloB c.toNat=false) (h3:¬(c.toNat:Int)=35) (h4:blaB c.toNat=false):scan (c :: l) p ws b false= .inl p:=by
 rw [scan,if_neg (by simp [h]),if_neg (by simp [h2]),if_neg h3,if_neg (by simp [h4])]
theorem high_kinds {c:Int} (h:128≤c):togB c=false∧aloB c=false∧¬c=35∧blaB c=false∧eolB c=false∧smaB c=false∧digB c=false∧¬c=95:=by
 simp only [togB,aloB,blaB,eolB,smaB,digB,greB,Bool.or_eq_false_iff,Bool.and_eq_false_iff,decide_eq_false_iff_not]
 omega
theorem drop_cons (s:ByteArray) (p:Nat) (h:p < s.size):s.data.toList.drop p=s[p] :: s.data.toList.drop (p+1):=by
 rw [List.drop_eq_getElem_cons (by simpa using h)];rfl
theorem blen (s:ByteArray):s.data.toList.length=s.size:=by rw [Array.length_toList];rfl
def place:Nat→List (List UInt8)→List (Nat × Nat)
 |_,[]=> []
 |p,x :: r=>(p,p+x.length) :: place (p+x.length+1) r
def words (s:ByteArray):Nat ⊕ List (Nat × Nat):=scan s.data.toList 0 [] none false
def nameFrom:List UInt8→Nat→Bool
 |[],_=>true
 |c :: l,p=>(smaB c.toNat || (decide (0 < p) && (digB c.toNat || decide ((c.toNat:Int)=95)))) && nameFrom l (p+1)
def nameB (l:List UInt8):Bool:=decide (l.length≤24) && nameFrom l 0 && !l.isEmpty
theorem ret_bool {a b:Bool} (h:a=b):Ending.returned (.bool a)= .returned (.bool b):=by rw [h]
theorem small_any (c:Int) (w:World):Calls Tryz.prog 110 #[.int .i32 c] w fun e w'=>e= .returned (.bool (smaB c))∧w'=w:=by
 by_cases h1:97≤c <;> by_cases h2:c≤122
 all_goals
  go_enter Tryz.func110,Tryz.ntmps110
  go_wp2
  go_ret
  exact⟨ret_bool (by simp [smaB,h1,h2]),rfl⟩
theorem digit_any (c:Int) (w:World):Calls Tryz.prog 111 #[.int .i32 c] w fun e w'=>e= .returned (.bool (digB c))∧w'=w:=by
 by_cases h1:48≤c <;> by_cases h2:c≤57
 all_goals
  go_enter Tryz.func111,Tryz.ntmps111
  go_wp2
  go_ret
  exact⟨ret_bool (by simp [digB,h1,h2]),rfl⟩
theorem hide {p:Prop} (h:p):Hid p:=h
theorem unhide {p:Prop} (h:Hid p):p:=h
theorem nameFrom_end (s:ByteArray) (p q:Nat) (h:¬p < s.size):nameFrom (s.data.toList.drop p) q=true:=by
 rw [List.drop_of_length_le (by rw [blen];omega)];rfl
theorem nameFrom_step (s:ByteArray) (p:Nat) (h:p < s.size):nameFrom (s.data.toList.drop p) p=((smaB (s[p]'h).toNat || (decide (0 < p) && (digB (s[p]'h).toNat || decide (((s[p]'h).toNat:Int)=95)))) && nameFrom (s.data.toList.drop (p+1)) (p+1)):=by
 rw [drop_cons s p h];rfl
theorem name_long {s:ByteArray} (h:24 < s.size):nameB s.data.toList=false:=by
 have:¬s.data.toList.length≤24:=by rw [blen];omega
 simp only [nameB,this,decide_false,Bool.false_and]
theorem name_fit {s:ByteArray} (h:¬24 < s.size):nameB s.data.toList=(nameFrom s.data.toList 0 && !s.data.toList.isEmpty):=by
 have:s.data.toList.length≤24:=by rw [blen];omega
 simp only [nameB,this,decide_true,Bool.true_and]
theorem name_any (s:ByteArray) (w:World) (hs:s.size≤maxLen):
  Calls Tryz.prog 87 #[.string s] w fun e w'=>e= .returned (.bool (nameB s.data.toList))∧Below w.heap.size w w':=by
 unfold maxLen at hs
 by_cases hl:24 < s.size
 ·go_enter Tryz.func87,Tryz.ntmps87
  go_wp2
  go_ret
  exact⟨ret_bool (name_long hl).symm,Below.refl _ _⟩
 ·have hz:∀ty,(Instr.next (.pointer (some ⟨w.heap.size,0,none⟩)) true ty).run Tryz.prog (w.iter s s.size)=_:=fun ty=>run_next_end (P:=Tryz.prog) w s s.size ty (Nat.lt_irrefl _)
  have HF:=hide (name_fit hl)
  go_enter Tryz.func87,Tryz.ntmps87
  go_wp2
  go_loopw [] (fun wr=>∃pos:Nat,wr=w.iter s pos∧pos≤s.size∧Hid (nameFrom (s.data.toList.drop pos) pos=nameFrom s.data.toList 0)) (fun wr=>s.size - wr.iterPos w.heap.size)
  case atStart=>exact⟨0,rfl,Nat.zero_le _,rfl⟩
  case round=>
   obtain⟨pos,rfl,hp,HN⟩:=hrel
   have hbel:Below w.heap.size w (w.iter s pos):=(Below.refl _ _).alloc (Nat.le_refl _) _
   by_cases hlt:pos < s.size
   ·by_cases ha:(s[pos]'hlt).toNat < 128
    ·have hnx:=fun ty=>run_next_ascii (P:=Tryz.prog) w s pos ty hlt ha
     have HS:=hide (nameFrom_step s pos hlt)
     cases hsm:smaB (s[pos]'hlt).toNat with
     |true=>
      go_wp2_with (first | (go_at_call 110;refine(small_any _ _).mono ?_;rintro e w' ⟨rfl,rfl⟩) | (go_at_call 111;refine(digit_any _ _).mono ?_;rintro e w' ⟨rfl,rfl⟩))
      go_roundw
      case rel=>exact⟨pos+1,rfl,by omega,hide (by rw [←unhide HN,unhide HS,hsm];simp)⟩
      case measure=>simp;omega
     |false=>
      by_cases h0:0 < pos
      ·cases hdg:digB (s[pos]'hlt).toNat with
       |true=>
        go_wp2_with (first | (go_at_call 110;refine(small_any _ _).mono ?_;rintro e w' ⟨rfl,rfl⟩) | (go_at_call 111;refine(digit_any _ _).mono ?_;rintro e w' ⟨rfl,rfl⟩))
        go_roundw
        case rel=>exact⟨pos+1,rfl,by omega,hide (by rw [←unhide HN,unhide HS,hsm,hdg];simp [h0])⟩
        case measure=>simp;omega
       |false=>
        by_cases h95:((s[pos]'hlt).toNat:Int)=95
        ·have h95b:(((s[pos]'hlt).toNat:Int) == 95)=true:=by rw [h95];rfl
         have H95:=hide h95
         clear h95
         go_wp2_with (first | (go_at_call 110;refine(small_any _ _).mono ?_;rintro e w' ⟨rfl,rfl⟩) | (go_at_call 111;refine(digit_any _ _).mono ?_;rintro e w' ⟨rfl,rfl⟩))
         go_roundw
         case rel=>exact⟨pos+1,rfl,by omega,hide (by rw [←unhide HN,unhide HS,hsm,hdg,unhide H95];simp [h0])⟩
         case measure=>simp;omega
        ·go_wp2_with (first | (go_at_call 110;refine(small_any _ _).mono ?_;rintro e w' ⟨rfl,rfl⟩) | (go_at_call 111;refine(digit_any _ _).mono ?_;rintro e w' ⟨rfl,rfl⟩))
         go_ret
         exact⟨ret_bool (by rw [unhide HF,←unhide HN,unhide HS,hsm,hdg];simp [h95]),(Below.refl _ _).alloc (Nat.le_refl _) _⟩
      ·go_wp2_with (first | (go_at_call 110;refine(small_any _ _).mono ?_;rintro e w' ⟨rfl,rfl⟩) | (go_at_call 111;refine(digit_any _ _).mono ?_;rintro e w' ⟨rfl,rfl⟩))
       go_ret
       exact⟨ret_bool (by rw [unhide HF,←unhide HN,unhide HS,hsm];simp [h0]),(Below.refl _ _).alloc (Nat.le_refl _) _⟩
    ·have hnx:=fun ty=>run_next_any (P:=Tryz.prog) w s pos ty hlt
     have hh:=(decode_high s pos hlt (by omega)).1
     have hk:=high_kinds (c:=((Utf8.decode s pos).1:Int)) (by omega)
     have hk2:=high_kinds (c:=((s[pos]'hlt).toNat:Int)) (by omega)
     obtain⟨_,_,_,_,_,k1,k2,k3⟩:=hk
     obtain⟨_,_,_,_,_,j1,j2,j3⟩:=hk2
     have HS:=hide (nameFrom_step s pos hlt)
     by_cases h0:0 < pos
     all_goals
      go_wp2_with (first | (go_at_call 110;refine(small_any _ _).mono ?_;rintro e w' ⟨rfl,rfl⟩) | (go_at_call 111;refine(digit_any _ _).mono ?_;rintro e w' ⟨rfl,rfl⟩))
      go_ret
      exact⟨ret_bool (by rw [unhide HF,←unhide HN,unhide HS,j1,j2];simp [j3]),(Below.refl _ _).alloc (Nat.le_refl _) _⟩
   ·obtain rfl:pos=s.size:=by omega
    have HE:=hide (nameFrom_end s s.size s.size (Nat.lt_irrefl _))
    go_wp2
    go_ret
    exact⟨ret_bool (by rw [unhide HF,←unhide HN,unhide HE,ByteArray.toList_eq];simp),hbel⟩
theorem name_none {s:ByteArray} (h:s.size < 1):nameB s.data.toList=false:=by
 have:s.data.toList= []:=List.length_eq_zero_iff.1 (by rw [blen];omega)
 rw [this];rfl
theorem name_some {s:ByteArray} (h:¬s.size < 1) (h2:¬24 < s.size):nameB s.data.toList=nameFrom s.data.toList 0:=by
 rw [name_fit h2]
 have:s.data.toList.isEmpty=false:=by
  cases e:s.data.toList with
  |nil=>have:=blen s;rw [e] at this;simp at this;omega
  |cons=>rfl
 rw [this,Bool.not_false,Bool.and_true]
theorem rname_any (s:ByteArray) (w:World) (hs:s.size≤maxLen):
  Calls Tryz.prog 71 #[.string s] w fun e w'=>e= .returned (.bool (nameB s.data.toList))∧w'=w:=by
 unfold maxLen at hs
 by_cases hl:s.size < 1
 ·go_enter Tryz.func71,Tryz.ntmps71
  go_wp2
  go_ret
  exact⟨ret_bool (name_none hl).symm,rfl⟩
 ·by_cases hl2:24 < s.size
  ·go_enter Tryz.func71,Tryz.ntmps71
   go_wp2
   go_ret
   exact⟨ret_bool (name_long hl2).symm,rfl⟩
  ·have HF:=hide (name_some hl hl2)
   go_enter Tryz.func71,Tryz.ntmps71
   go_wp2
   go_loop [3] (fun i=>∃pos:Nat,i= .int .i64 pos∧pos≤s.size∧Hid (nameFrom (s.data.toList.drop pos) pos=nameFrom s.data.toList 0)) (fun i=>s.size - (intOf i).toNat)
   case atStart=>exact⟨0,rfl,Nat.zero_le _,rfl⟩
   case round=>
    obtain⟨pos,rfl,hp,HN⟩:=hrel
    by_cases hlt:pos < s.size
    ·have HS:=hide (nameFrom_step s pos hlt)
     have hc:((s[pos]'hlt).toNat:Int)≤255:=by have:=(s[pos]'hlt).toNat_lt;omega
     by_cases a0:pos=0 <;> by_cases a1:97≤((s[pos]'hlt).toNat:Int) <;> by_cases a2:((s[pos]'hlt).toNat:Int)≤122 <;> by_cases a3:48≤((s[pos]'hlt).toNat:Int) <;> by_cases a4:((s[pos]'hlt).toNat:Int)≤57
     all_goals try (exfalso;omega)
     all_goals
      have HK:Hid (nameFrom s.data.toList 0=(_ && _)):=hide ((unhide HN).symm.trans (unhide HS))
      have HA:=hide a0
      clear HN HS a0
      go_wp2
     all_goals first
      |(go_round
        case rel=>exact⟨pos+1,by go_num,by omega,hide (by rw [unhide HK];grind [smaB,digB])⟩
        case measure=>simp [intOf];omega)
      |(go_ret
        exact⟨ret_bool (by rw [unhide HF,unhide HK];grind [smaB,digB]),rfl⟩)
    ·go_wp2
     go_ret
     obtain rfl:pos=s.size:=by omega
     exact⟨ret_bool (by rw [unhide HF,←unhide HN,nameFrom_end s s.size s.size (Nat.lt_irrefl _)]),rfl⟩
def cellsT:List (ByteArray × Int)→List Value
 |[]=> []
 |t :: r=> .string t.1 :: .int .i64 t.2 :: cellsT r
def tok (s:ByteArray) (x:Nat × Nat):ByteArray × Int:=(s.extract x.1 x.2,(x.1:Int))
theorem cellsT_append (a b:List (ByteArray × Int)):cellsT (a ++ b)=cellsT a ++ cellsT b:=by
 induction a with
 |nil=>rfl
 |cons t r ih=>simp [cellsT,ih]
theorem cellsT_snoc (s:ByteArray) (ws:List (Nat × Nat)) (a b:Nat):cellsT ((ws ++ [(a,b)]).map (tok s))=cellsT (ws.map (tok s)) ++ [.string (s.extract a b),.int .i64 a]:=by
 rw [List.map_append,cellsT_append];rfl
theorem below_grown {w w':World} (h:Below w.heap.size w w'):w.grownBy w' none:=⟨h.1,h.2,h.3,h.4,fun k hk _=>h.5 k hk⟩
theorem Tryz.info95:(Tryz.prog.info? 95).map (fun i=>(i.zero,i.size,i.bytes))=some (some (.agg #[.string ⟨#[]⟩,.int .i64 0]),2,24):=by kernel_rfl
theorem cells_two {w1:World} {a b:Value} {t:TypeId}:∀j u,[a,b][j]? =some u→(w1.alloc (.cells #[a,b] t)).cell? ((⟨w1.heap.size,0,none⟩:Addr).add j)=some u:=by
 intro j u hj
 match j,hj with
 |0,hj=>simp at hj;subst hj;simp [Addr.add]
 |1,hj=>simp at hj;subst hj;simp [Addr.add]
theorem one_two {s:ByteArray} {a:Int}:∀u∈ [Value.string s,Value.int .i64 a],u.oneCell'=true:=by
 intro u hu
 simp only [List.mem_cons,List.not_mem_nil,or_false] at hu
 rcases hu with rfl | rfl <;> rfl
end Go.Proofs.YtljkgcfnoegibaaGreatDoor.L2
namespace Go.Proofs.YtljkgcfnoegibaaGreatDoor
open Go Go.RowKit
def jn (sep:List UInt8):List (List UInt8)→List UInt8
 |[]=> []
 |x :: r=>x ++ r.flatMap fun y=>sep ++ y
open G (Tok Er Ins Fun)
def opdW (x:Ins):List (List UInt8):=
 if x.1=1∨x.1=23∨x.1=29 then [dig x.2.2.1]
 else if x.1=10 then [x.2.2.2.2.2.2.1]
 else if x.1=11∨x.1=12∨x.1=15∨x.1=24∨x.1=13∨x.1=14 then(x.2.2.2.2.1.take 1).map valW ++ [dig x.2.2.1] ++ (x.2.2.2.2.1.drop 1).map valW
 else if x.1=20 then(x.2.2.2.2.2.1.zip x.2.2.2.2.1).flatMap fun q=> [labW q.1,valW q.2]
 else if x.1=21 then(if x.2.2.1≠0 then [64 :: dig x.2.2.1] else []) ++ [x.2.2.2.2.2.2.1] ++ x.2.2.2.2.1.map valW
 else x.2.2.2.2.1.map valW ++ x.2.2.2.2.2.1.map labW
def insW (x:Ins):List (List UInt8):=(if L5.imakes x.1 x.2.2.2.1≠0 then [valW x.2.1,[61]] else []) ++ [(L5.iword x.1 x.2.2.2.1).data.toList] ++ opdW x
def insT (x:Ins):List UInt8:=jn [32] (insW x)
def InsV (w:World) (x:Ins) (v:Value):Prop:=∃ao to ca ct,v= .agg #[.int .i64 x.1,.int .i64 x.2.1,.int .i64 x.2.2.1,.int .i64 x.2.2.2.1,.slice ao x.2.2.2.2.1.length ca,.slice to x.2.2.2.2.2.1.length ct,.string (bs x.2.2.2.2.2.2.1),.int .i64 x.2.2.2.2.2.2.2]∧
 Sl w ao x.2.2.2.2.1∧Sl w to x.2.2.2.2.2.1∧x.2.2.2.2.1.length≤ca∧ca≤maxLen∧x.2.2.2.2.2.1.length≤ct∧ct≤maxLen
theorem box8 {w:World} {c:Nat} {a0 a1 a2 a3 a4 a5 a6 a7:Value} (h:w.heap[c]? =some (.cells #[a0,a1,a2,a3,a4,a5,a6,a7] 47 (0,0))):w.cell? ⟨c,0,none⟩=some a0∧w.cell? ⟨c,1,none⟩=some a1∧w.cell? ⟨c,2,none⟩=some a2∧w.cell? ⟨c,3,none⟩=some a3∧w.cell? ⟨c,4,none⟩=some a4∧w.cell? ⟨c,5,none⟩=some a5∧w.cell? ⟨c,6,none⟩=some a6∧w.cell? ⟨c,7,none⟩=some a7:=by
 simp [World.cell?,h]
theorem cell9 {w:World} {c:Nat} {a:Value} {t:TypeId} (h:w.heap[c]? =some (.cells #[a] t (0,0))):w.cell? ⟨c,0,none⟩=some a:=by
 simp [World.cell?,h]
def begins (c:UInt8) (l:List UInt8):Bool:=l.head? == some c
theorem ret_bool {a b:Bool} (h:a=b):Ending.returned (.bool a)= .returned (.bool b):=by rw [h]
theorem ext_list (s:ByteArray) (a b:Nat):(s.extract a b).data.toList=(s.data.toList.drop a).take (b - a):=by
 simp [ByteArray.data_extract,Array.toList_extract]
open G (Tok Er Ins Fun peek0 peek1 atOf)
def thrown (c p:Int):Ending:= .panicked [{v:= .iface 29 (.agg #[.int .i64 c,.int .i64 p]),recovered:=false}]
end Go.Proofs.YtljkgcfnoegibaaGreatDoor
