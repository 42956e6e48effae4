/- Texts of one chain, joined. -/
import Derived.Laws.BitsLemmas
import Derived.Laws.BitsAllLaws
import Derived.RowKit
import Derived.Test.YtljkgcfnoegibaaGreatDoorProg
import Derived.WalkKit
import Derived.WalkSpells
import Derived.WalkSmall
import Derived.WalkLawsBesides
import Derived.KernelRfl
import Derived.Below
import Derived.Deep.QuietTactic
import Derived.BigQuiet
import Derived.RegionTactic
import Derived.BigRegion
import Derived.Laws.RangeAny
import Derived.Lib.OthersKept
set_option maxHeartbeats 1000000
namespace Go.Proofs.YtljkgcfnoegibaaGreatDoor.L2
open Go.RowKit
def ry (c:Int):Bool:=decide (97≤c) && decide (c≤122)
def rE (c:Int):Bool:=decide (48≤c) && decide (c≤57)
def Ll (c:Int):Bool:=decide (65≤c) && decide (c≤90)
def FD (c:Int):Bool:=decide (c=10) || decide (c=13)
def nW (c:Int):Bool:=decide (c=32) || decide (c=9) || FD c
def jO (c:Int):Bool:=decide (c=40) || decide (c=41) || decide (c=123) || decide (c=125) || decide (c=61) || decide (c=58)
def gJ (c:Int):Bool:=decide (c=46) || decide (c=37) || decide (c=64) || decide (c=45) || decide (c=95) || ry c || Ll c || rE c
def shutW (ws:List (Nat × Nat)) (b:Option Nat) (p:Nat):List (Nat × Nat):=match b with
 |none=>ws
 |some q=>ws ++ [(q,p)]
def scan:List UInt8→Nat→List (Nat × Nat)→Option Nat→Bool→Nat ⊕ List (Nat × Nat)
 |[],p,ws,b,_=> .inr (shutW ws b p)
 |c :: l,p,ws,b,true=>scan l (p+1) ws b (!FD c.toNat)
 |c :: l,p,ws,b,false=>
  if gJ c.toNat then scan l (p+1) ws (some (b.getD p)) false
  else if jO c.toNat then scan l (p+1) (shutW ws b p ++ [(p,p+1)]) none false
  else if(c.toNat:Int)=35 then scan l (p+1) (shutW ws b p) none true
  else if nW c.toNat then scan l (p+1) (shutW ws b p) none false
  else .inl p
theorem sU (c:UInt8) (l:List UInt8) (p:Nat) (ws:List (Nat × Nat)) (b:Option Nat):scan (c :: l) p ws b true=scan l (p+1) ws b (!FD c.toNat):=by rw [scan]
theorem pI {c:UInt8} (l:List UInt8) (p:Nat) (ws:List (Nat × Nat)) (b:Option Nat) (h:gJ c.toNat=true):scan (c :: l) p ws b false=scan l (p+1) ws (some (b.getD p)) false:=by rw [scan,if_pos h]
theorem kP {c:UInt8} (l:List UInt8) (p:Nat) (ws:List (Nat × Nat)) (b:Option Nat) (h:gJ c.toNat=false) (h2:jO c.toNat=true):scan (c :: l) p ws b false=scan l (p+1) (shutW ws b p ++ [(p,p+1)]) none false:=by
 rw [scan,if_neg (by simp [h]),if_pos h2]
theorem lO {c:UInt8} (l:List UInt8) (p:Nat) (ws:List (Nat × Nat)) (b:Option Nat) (h:gJ c.toNat=false) (h2:jO c.toNat=false) (h3:(c.toNat:Int)=35):scan (c :: l) p ws b false=scan l (p+1) (shutW ws b p) none true:=by
 rw [scan,if_neg (by simp [h]),if_neg (by simp [h2]),if_pos h3]
theorem kN {c:UInt8} (l:List UInt8) (p:Nat) (ws:List (Nat × Nat)) (b:Option Nat) (h:gJ c.toNat=false) (h2:jO c.toNat=false) (h3:¬(c.toNat:Int)=35) (h4:nW c.toNat=true):scan (c :: l) p ws b false=scan l (p+1) (shutW ws b p) none false:=by
 rw [scan,if_neg (by simp [h]),if_neg (by simp [h2]),if_neg h3,if_pos h4]
theorem kL {c:UInt8} (l:List UInt8) (p:Nat) (ws:List (Nat × Nat)) (b:Option Nat) (h:gJ c.toNat=false) (h2:jO c.toNat=false) (h3:¬(c.toNat:Int)=35) (h4:nW c.toNat=false):scan (c :: l) p ws b false= .inl p:=by
 rw [scan,if_neg (by simp [h]),if_neg (by simp [h2]),if_neg h3,if_neg (by simp [h4])]
theorem qx {c:Int} (h:128≤c):gJ c=false∧jO c=false∧¬c=35∧nW c=false∧FD c=false∧ry c=false∧rE c=false∧¬c=95:=by
 simp only [gJ,jO,nW,FD,ry,rE,Ll,Bool.or_eq_false_iff,Bool.and_eq_false_iff,decide_eq_false_iff_not];omega
theorem drop_cons (s:ByteArray) (p:Nat) (h:p < s.size):s.data.toList.drop p=s[p] :: s.data.toList.drop (p+1):=by
 rw [List.drop_eq_getElem_cons (by simpa using h)];rfl
theorem CG (s:ByteArray):s.data.toList.length=s.size:=by rw [Array.length_toList];rfl
def place:Nat→List (List UInt8)→List (Nat × Nat)
 |_,[]=> []
 |p,x :: r=>(p,p+x.length) :: place (p+x.length+1) r
def words (s:ByteArray):Nat ⊕ List (Nat × Nat):=scan s.data.toList 0 [] none false
def eg:List UInt8→Nat→Bool
 |[],_=>true
 |c :: l,p=>(ry c.toNat || (decide (0 < p) && (rE c.toNat || decide ((c.toNat:Int)=95)))) && eg l (p+1)
def fk (l:List UInt8):Bool:=decide (l.length≤24) && eg l 0 && !l.isEmpty
theorem aw {a b:Bool} (h:a=b):Ending.returned (.bool a)= .returned (.bool b):=by rw [h]
theorem gZ (c:Int) (w:World):Calls Tryz.prog 110 #[.int .i32 c] w fun e w'=>e= .returned (.bool (ry c))∧w'=w:=by
 by_cases h1:97≤c <;> by_cases h2:c≤122
 all_goals
  go_enter Tryz.func110,Tryz.ntmps110
  go_wp2
  go_ret;exact⟨aw (by simp [ry,h1,h2]),rfl⟩
theorem ic (c:Int) (w:World):Calls Tryz.prog 111 #[.int .i32 c] w fun e w'=>e= .returned (.bool (rE c))∧w'=w:=by
 by_cases h1:48≤c <;> by_cases h2:c≤57
 all_goals
  go_enter Tryz.func111,Tryz.ntmps111
  go_wp2
  go_ret;exact⟨aw (by simp [rE,h1,h2]),rfl⟩
theorem ae {p:Prop} (h:p):Hid p:=h
theorem ay {p:Prop} (h:Hid p):p:=h
theorem mS (s:ByteArray) (p q:Nat) (h:¬p < s.size):eg (s.data.toList.drop p) q=true:=by
 rw [List.drop_of_length_le (by rw [CG];omega)];rfl
theorem iO (s:ByteArray) (p:Nat) (h:p < s.size):eg (s.data.toList.drop p) p=((ry (s[p]'h).toNat || (decide (0 < p) && (rE (s[p]'h).toNat || decide (((s[p]'h).toNat:Int)=95)))) && eg (s.data.toList.drop (p+1)) (p+1)):=by
 rw [drop_cons s p h];rfl
theorem sj {s:ByteArray} (h:24 < s.size):fk s.data.toList=false:=by
 have:¬s.data.toList.length≤24:=by rw [CG];omega
 simp only [fk,this,decide_false,Bool.false_and]
theorem wL {s:ByteArray} (h:¬24 < s.size):fk s.data.toList=(eg s.data.toList 0 && !s.data.toList.isEmpty):=by
 have:s.data.toList.length≤24:=by rw [CG];omega
 simp only [fk,this,decide_true,Bool.true_and]
theorem vj (s:ByteArray) (w:World) (hs:s.size≤maxLen):
  Calls Tryz.prog 87 #[.string s] w fun e w'=>e= .returned (.bool (fk s.data.toList))∧Below w.heap.size w w':=by
 unfold maxLen at hs;by_cases hl:24 < s.size
 ·go_enter Tryz.func87,Tryz.ntmps87
  go_wp2
  go_ret;exact⟨aw (sj hl).symm,Below.refl _ _⟩
 ·have hz:∀ty,(Instr.next (.pointer (some ⟨w.heap.size,0,none⟩)) true ty).run Tryz.prog (w.iter s s.size)=_:=fun ty=>run_next_end (P:=Tryz.prog) w s s.size ty (Nat.lt_irrefl _);have HF:=ae (wL hl);go_enter Tryz.func87,Tryz.ntmps87
  go_wp2
  go_loopw [] (fun wr=>∃pos:Nat,wr=w.iter s pos∧pos≤s.size∧Hid (eg (s.data.toList.drop pos) pos=eg s.data.toList 0)) (fun wr=>s.size - wr.iterPos w.heap.size)
  case atStart=>exact⟨0,rfl,Nat.zero_le _,rfl⟩
  case round=>
   obtain⟨pos,rfl,hp,HN⟩:=hrel;have hbel:Below w.heap.size w (w.iter s pos):=(Below.refl _ _).alloc (Nat.le_refl _) _;by_cases hlt:pos < s.size
   ·by_cases ha:(s[pos]'hlt).toNat < 128
    ·have hnx:=fun ty=>run_next_ascii (P:=Tryz.prog) w s pos ty hlt ha;have HS:=ae (iO s pos hlt)
     cases hsm:ry (s[pos]'hlt).toNat with
     |true=>
      go_wp2_with (first | (go_at_call 110;refine(gZ _ _).mono ?_;rintro e w' ⟨rfl,rfl⟩) | (go_at_call 111;refine(ic _ _).mono ?_;rintro e w' ⟨rfl,rfl⟩))
      go_roundw
      case rel=>exact⟨pos+1,rfl,by omega,ae (by rw [←ay HN,ay HS,hsm];simp)⟩
      case measure=>simp;omega
     |false=>
      by_cases h0:0 < pos
      ·cases hdg:rE (s[pos]'hlt).toNat with
       |true=>
        go_wp2_with (first | (go_at_call 110;refine(gZ _ _).mono ?_;rintro e w' ⟨rfl,rfl⟩) | (go_at_call 111;refine(ic _ _).mono ?_;rintro e w' ⟨rfl,rfl⟩))
        go_roundw
        case rel=>exact⟨pos+1,rfl,by omega,ae (by rw [←ay HN,ay HS,hsm,hdg];simp [h0])⟩
        case measure=>simp;omega
       |false=>
        by_cases h95:((s[pos]'hlt).toNat:Int)=95
        ·have h95b:(((s[pos]'hlt).toNat:Int) == 95)=true:=(by rw [h95];rfl);have H95:=ae h95;clear h95;go_wp2_with (first | (go_at_call 110;refine(gZ _ _).mono ?_;rintro e w' ⟨rfl,rfl⟩) | (go_at_call 111;refine(ic _ _).mono ?_;rintro e w' ⟨rfl,rfl⟩))
         go_roundw
         case rel=>exact⟨pos+1,rfl,by omega,ae (by rw [←ay HN,ay HS,hsm,hdg,ay H95];simp [h0])⟩
         case measure=>simp;omega
        ·go_wp2_with (first | (go_at_call 110;refine(gZ _ _).mono ?_;rintro e w' ⟨rfl,rfl⟩) | (go_at_call 111;refine(ic _ _).mono ?_;rintro e w' ⟨rfl,rfl⟩))
         go_ret;exact⟨aw (by rw [ay HF,←ay HN,ay HS,hsm,hdg];simp [h95]),(Below.refl _ _).alloc (Nat.le_refl _) _⟩
      ·go_wp2_with (first | (go_at_call 110;refine(gZ _ _).mono ?_;rintro e w' ⟨rfl,rfl⟩) | (go_at_call 111;refine(ic _ _).mono ?_;rintro e w' ⟨rfl,rfl⟩))
       go_ret;exact⟨aw (by rw [ay HF,←ay HN,ay HS,hsm];simp [h0]),(Below.refl _ _).alloc (Nat.le_refl _) _⟩
    ·have hnx:=fun ty=>run_next_any (P:=Tryz.prog) w s pos ty hlt;have hh:=(decode_high s pos hlt (by omega)).1;have hk:=qx (c:=((Utf8.decode s pos).1:Int)) (by omega);have hk2:=qx (c:=((s[pos]'hlt).toNat:Int)) (by omega);obtain⟨_,_,_,_,_,k1,k2,k3⟩:=hk;obtain⟨_,_,_,_,_,j1,j2,j3⟩:=hk2;have HS:=ae (iO s pos hlt);by_cases h0:0 < pos
     all_goals
      go_wp2_with (first | (go_at_call 110;refine(gZ _ _).mono ?_;rintro e w' ⟨rfl,rfl⟩) | (go_at_call 111;refine(ic _ _).mono ?_;rintro e w' ⟨rfl,rfl⟩))
      go_ret;exact⟨aw (by rw [ay HF,←ay HN,ay HS,j1,j2];simp [j3]),(Below.refl _ _).alloc (Nat.le_refl _) _⟩
   ·obtain rfl:pos=s.size:=(by omega);have HE:=ae (mS s s.size s.size (Nat.lt_irrefl _));go_wp2
    go_ret;exact⟨aw (by rw [ay HF,←ay HN,ay HE,ByteArray.toList_eq];simp),hbel⟩
theorem BE {s:ByteArray} (h:s.size < 1):fk s.data.toList=false:=by
 have:s.data.toList= []:=List.length_eq_zero_iff.1 (by rw [CG];omega);rw [this];rfl
theorem De {s:ByteArray} (h:¬s.size < 1) (h2:¬24 < s.size):fk s.data.toList=eg s.data.toList 0:=by
 rw [wL h2];have:s.data.toList.isEmpty=false:=by
  cases e:s.data.toList with
  |nil=>have:=CG s;rw [e] at this;simp at this;omega
  |cons=>rfl
 rw [this,Bool.not_false,Bool.and_true]
theorem lD (s:ByteArray) (w:World) (hs:s.size≤maxLen):
  Calls Tryz.prog 71 #[.string s] w fun e w'=>e= .returned (.bool (fk s.data.toList))∧w'=w:=by
 unfold maxLen at hs;by_cases hl:s.size < 1
 ·go_enter Tryz.func71,Tryz.ntmps71
  go_wp2
  go_ret;exact⟨aw (BE hl).symm,rfl⟩
 ·by_cases hl2:24 < s.size
  ·go_enter Tryz.func71,Tryz.ntmps71
   go_wp2
   go_ret;exact⟨aw (sj hl2).symm,rfl⟩
  ·have HF:=ae (De hl hl2);go_enter Tryz.func71,Tryz.ntmps71
   go_wp2
   go_loop [3] (fun i=>∃pos:Nat,i= .int .i64 pos∧pos≤s.size∧Hid (eg (s.data.toList.drop pos) pos=eg s.data.toList 0)) (fun i=>s.size - (intOf i).toNat)
   case atStart=>exact⟨0,rfl,Nat.zero_le _,rfl⟩
   case round=>
    obtain⟨pos,rfl,hp,HN⟩:=hrel;by_cases hlt:pos < s.size
    ·have HS:=ae (iO s pos hlt);have hc:((s[pos]'hlt).toNat:Int)≤255:=(by have:=(s[pos]'hlt).toNat_lt;omega);by_cases a0:pos=0 <;> by_cases a1:97≤((s[pos]'hlt).toNat:Int) <;> by_cases a2:((s[pos]'hlt).toNat:Int)≤122 <;> by_cases a3:48≤((s[pos]'hlt).toNat:Int) <;> by_cases a4:((s[pos]'hlt).toNat:Int)≤57
     all_goals try (exfalso;omega)
     all_goals
      have HK:Hid (eg s.data.toList 0=(_ && _)):=ae ((ay HN).symm.trans (ay HS));have HA:=ae a0;clear HN HS a0;go_wp2
     all_goals first
      |(go_round
        case rel=>exact⟨pos+1,by go_num,by omega,ae (by rw [ay HK];grind [ry,rE])⟩
        case measure=>simp [intOf];omega)
      |(go_ret
        exact⟨aw (by rw [ay HF,ay HK];grind [ry,rE]),rfl⟩)
    ·go_wp2
     go_ret;obtain rfl:pos=s.size:=(by omega);exact⟨aw (by rw [ay HF,←ay HN,mS s s.size s.size (Nat.lt_irrefl _)]),rfl⟩
def cellsT:List (ByteArray × Int)→List Value
 |[]=> []
 |t :: r=> .string t.1 :: .int .i64 t.2 :: cellsT r
def tok (s:ByteArray) (x:Nat × Nat):ByteArray × Int:=(s.extract x.1 x.2,(x.1:Int))
theorem rq (a b:List (ByteArray × Int)):cellsT (a ++ b)=cellsT a ++ cellsT b:=by
 induction a with
 |nil=>rfl
 |cons t r ih=>simp [cellsT,ih]
theorem xj (s:ByteArray) (ws:List (Nat × Nat)) (a b:Nat):cellsT ((ws ++ [(a,b)]).map (tok s))=cellsT (ws.map (tok s)) ++ [.string (s.extract a b),.int .i64 a]:=by
 rw [List.map_append,rq];rfl
theorem bY {w w':World} (h:Below w.heap.size w w'):w.grownBy w' none:=⟨h.1,h.2,h.3,h.4,fun k hk _=>h.5 k hk⟩
theorem Tryz.FL:(Tryz.prog.info? 95).map (fun i=>(i.zero,i.size,i.bytes))=some (some (.agg #[.string ⟨#[]⟩,.int .i64 0]),2,24):=by kernel_rfl
theorem gV {w1:World} {a b:Value} {t:TypeId}:∀j u,[a,b][j]? =some u→(w1.alloc (.cells #[a,b] t)).cell? ((⟨w1.heap.size,0,none⟩:Addr).add j)=some u:=by
 intro j u hj;match j,hj with
 |0,hj=>simp at hj;subst hj;simp [Addr.add]
 |1,hj=>simp at hj;subst hj;simp [Addr.add]
theorem lL {s:ByteArray} {a:Int}:∀u∈ [Value.string s,Value.int .i64 a],u.oneCell'=true:=by
 intro u hu;simp only [List.mem_cons,List.not_mem_nil,or_false] at hu;rcases hu with rfl | rfl <;> rfl
def okW:Nat→List (Nat × Nat)→Nat→Prop
 |lo,[],hi=>lo≤hi
 |lo,x :: r,hi=>lo≤x.1∧x.1 < x.2∧okW x.2 r hi
theorem xE (ws:List (Nat × Nat)):∀(lo a e hi:Nat),okW lo ws a→a < e→e≤hi→okW lo (ws ++ [(a,e)]) hi:=by
 induction ws with
 |nil=>intro lo a e hi h h2 h3;exact⟨h,h2,h3⟩
 |cons x r ih=>intro lo a e hi h h2 h3;exact⟨h.1,h.2.1,ih _ _ _ _ h.2.2 h2 h3⟩
theorem pD (ws:List (Nat × Nat)):∀(lo hi hi2:Nat),okW lo ws hi→hi≤hi2→okW lo ws hi2:=by
 induction ws with
 |nil=>intro lo hi hi2 h h2;exact Nat.le_trans h h2
 |cons x r ih=>intro lo hi hi2 h h2;exact⟨h.1,h.2.1,ih _ _ _ h.2.2 h2⟩
theorem xu (ws:List (Nat × Nat)) (b:Option Nat) (p:Nat) (h:okW 0 ws (b.getD p)) (hb:∀q,b=some q→q < p):okW 0 (shutW ws b p) p:=by
 cases b with
 |none=>exact h
 |some q=>exact xE ws 0 q p p h (hb q rfl) (Nat.le_refl _)
theorem vL (l:List UInt8):∀(p:Nat) (ws:List (Nat × Nat)) (b:Option Nat) (n:Bool),okW 0 ws (b.getD p)→(∀q,b=some q→q < p)→
  (∀x,scan l p ws b n= .inl x→p≤x∧x < p+l.length)∧(∀ws',scan l p ws b n= .inr ws'→okW 0 ws' (p+l.length)):=by
 induction l with
 |nil=>
  intro p ws b n h hb;refine⟨fun x hx=>(by rw [scan] at hx;cases hx),fun ws' hx=> ?_⟩;rw [scan] at hx;rw [←Sum.inr.inj hx];exact xu ws b p h hb
 |cons c l ih=>
  intro p ws b n h hb;have step:∀ws2 b2 n2,scan (c :: l) p ws b n=scan l (p+1) ws2 b2 n2→okW 0 ws2 (b2.getD (p+1))→(∀q,b2=some q→q < p+1)→
    (∀x,scan (c :: l) p ws b n= .inl x→p≤x∧x < p+(c :: l).length)∧(∀ws',scan (c :: l) p ws b n= .inr ws'→okW 0 ws' (p+(c :: l).length)):=by
   intro ws2 b2 n2 e h2 hb2;rw [e,List.length_cons];obtain⟨i1,i2⟩:=ih (p+1) ws2 b2 n2 h2 hb2;refine⟨fun x hx=> ?_,fun ws' hx=> ?_⟩
   ·have:=i1 x hx;omega
   ·have:=i2 ws' hx;rw [show p+(l.length+1)=p+1+l.length by omega];exact this
  have hs:=xu ws b p h hb
  cases n with
  |true=>
   refine step ws b _ (sU c l p ws b) ?_ (fun q hq=>by have:=hb q hq;omega)
   cases b with
   |none=>exact pD ws 0 p (p+1) h (by omega)
   |some q=>exact h
  |false=>
   cases ht:gJ c.toNat with
   |true=>
    refine step ws (some (b.getD p)) false (pI l p ws b ht) h (fun q hq=> ?_);have e:=Option.some.inj hq
    cases b with
    |none=>simp at e;omega
    |some r=>simp at e;have:=hb r rfl;omega
   |false=>
    cases h2:jO c.toNat with
    |true=>exact step _ none false (kP l p ws b ht h2) (xE _ 0 p (p+1) (p+1) hs (by omega) (Nat.le_refl _)) (fun q hq=>by cases hq)
    |false=>
     by_cases h3:(c.toNat:Int)=35
     ·exact step _ none true (lO l p ws b ht h2 h3) (pD _ 0 p (p+1) hs (by omega)) (fun q hq=>by cases hq)
     ·cases h4:nW c.toNat with
      |true=>exact step _ none false (kN l p ws b ht h2 h3 h4) (pD _ 0 p (p+1) hs (by omega)) (fun q hq=>by cases hq)
      |false=>
       rw [kL l p ws b ht h2 h3 h4];exact⟨fun x hx=>by have:=Sum.inl.inj hx;simp only [List.length_cons];omega,fun ws' hx=>by cases hx⟩
def joinL:List (List UInt8)→List UInt8
 |[]=> []
 |x :: r=>x ++ r.flatMap fun y=>32 :: y
def FT (x:List UInt8):Prop:=(∃c:UInt8,x= [c]∧gJ c.toNat=false∧jO c.toNat=true)∨(x≠ []∧∀c∈x,gJ (UInt8.toNat c)=true)
def cut (L:List UInt8) (x:Nat × Nat):List UInt8:=(L.drop x.1).take (x.2 - x.1)
def uX (L:List UInt8) (x:Nat × Nat):Prop:=(x.2=x.1+1∧∃c,L[x.1]? =some c∧gJ c.toNat=false∧jO c.toNat=true)∨(x.1 < x.2∧∀j,x.1≤j→j < x.2→∃c,L[j]? =some c∧gJ c.toNat=true)
theorem Gq {L:List UInt8} {x:Nat × Nat} (h:uX L x):FT (cut L x):=by
 rcases h with ⟨e,c,hc,h1,h2⟩ | ⟨hlt,h⟩
 ·refine .inl ⟨c,?_,h1,h2⟩;obtain⟨hl,rfl⟩:=List.getElem?_eq_some_iff.1 hc;rw [cut,e,Nat.add_sub_cancel_left,List.drop_eq_getElem_cons hl];rfl
 ·refine .inr ⟨?_,fun c hc=> ?_⟩
  ·obtain⟨c,hc,_⟩:=h x.1 (Nat.le_refl _) hlt;obtain⟨hl,rfl⟩:=List.getElem?_eq_some_iff.1 hc;intro e;have:=congrArg List.length e;simp [cut] at this;omega
  ·obtain⟨j,hj,rfl⟩:=List.getElem_of_mem hc;have hj2:j < x.2 - x.1:=(by simp [cut] at hj;omega);obtain⟨c,hc2,h3⟩:=h (x.1+j) (by omega) (by omega);obtain⟨hl,rfl⟩:=List.getElem?_eq_some_iff.1 hc2;simp only [cut,List.getElem_take,List.getElem_drop];exact h3
theorem sn {L:List UInt8} {ws:List (Nat × Nat)} {b:Option Nat} {p:Nat} (h:∀x∈ws,uX L x) (hb:∀q,b=some q→q < p∧∀j,q≤j→j < p→∃c,L[j]? =some c∧gJ c.toNat=true):∀x∈shutW ws b p,uX L x:=by
 cases b with
 |none=>exact h
 |some q=>
  intro x hx;simp only [shutW,List.mem_append,List.mem_singleton] at hx;rcases hx with hx | rfl
  ·exact h x hx
  ·exact .inr (hb q rfl)
theorem Df (L:List UInt8) (l:List UInt8):∀(p:Nat) (ws:List (Nat × Nat)) (b:Option Nat) (n:Bool),L.drop p=l→(∀x∈ws,uX L x)→
  (∀q,b=some q→q < p∧∀j,q≤j→j < p→∃c,L[j]? =some c∧gJ c.toNat=true)→(n=true→b=none)→∀ws',scan l p ws b n= .inr ws'→∀x∈ws',uX L x:=by
 induction l with
 |nil=>
  intro p ws b n _ h hb _ ws' hx;rw [scan] at hx;rw [←Sum.inr.inj hx];exact sn h hb
 |cons c l ih=>
  intro p ws b n hd h hb hn ws' hx;have hd2:L.drop (p+1)=l:=by rw [←List.drop_drop,hd];rfl
  have hc:L[p]? =some c:=by
   have:=congrArg (fun k=>k[0]?) hd;simpa using this
  have hs:=sn h hb;have nob:∀q,(none:Option Nat)=some q→q < p+1∧∀j,q≤j→j < p+1→∃c,L[j]? =some c∧gJ c.toNat=true:=fun q hq=>by cases hq
  cases n with
  |true=>
   have hb0:=hn rfl;subst hb0;rw [sU] at hx;exact ih (p+1) ws none _ hd2 h nob (fun _=>rfl) ws' hx
  |false=>
   cases ht:gJ c.toNat with
   |true=>
    rw [pI l p ws b ht] at hx;refine ih (p+1) ws _ false hd2 h (fun q hq=> ?_) (fun k=>by cases k) ws' hx;have e:=Option.some.inj hq
    cases b with
    |none=>
     simp only [Option.getD_none] at e;subst e;refine⟨by omega,fun j h1 h2=> ?_⟩;have:j=p:=(by omega);subst this;exact⟨c,hc,ht⟩
    |some r=>
     simp only [Option.getD_some] at e;subst e;obtain⟨g1,g2⟩:=hb r rfl;refine⟨by omega,fun j h1 h2=> ?_⟩;by_cases hj:j < p
     ·exact g2 j h1 hj
     ·have:j=p:=(by omega);subst this;exact⟨c,hc,ht⟩
   |false=>
    cases h2:jO c.toNat with
    |true=>
     rw [kP l p ws b ht h2] at hx;refine ih (p+1) _ none false hd2 (fun x hx2=> ?_) nob (fun _=>rfl) ws' hx;simp only [List.mem_append,List.mem_singleton] at hx2;rcases hx2 with hx2 | rfl
     ·exact hs x hx2
     ·exact .inl ⟨rfl,c,hc,ht,h2⟩
    |false=>
     by_cases h3:(c.toNat:Int)=35
     ·rw [lO l p ws b ht h2 h3] at hx;exact ih (p+1) _ none true hd2 hs nob (fun _=>rfl) ws' hx
     ·cases h4:nW c.toNat with
      |true=>
       rw [kN l p ws b ht h2 h3 h4] at hx;exact ih (p+1) _ none false hd2 hs nob (fun _=>rfl) ws' hx
      |false=>
       rw [kL l p ws b ht h2 h3 h4] at hx
       cases hx
theorem Fh {s:ByteArray} {ws:List (Nat × Nat)} (h:words s= .inr ws):okW 0 ws s.size∧∀x∈ws,FT (cut s.data.toList x):=by
 refine⟨?_,fun x hx=>Gq (Df s.data.toList _ 0 [] none false rfl (fun _ k=>by cases k) (fun _ k=>by cases k) (fun _=>rfl) ws h x hx)⟩;have:=(vL s.data.toList 0 [] none false (Nat.le_refl 0) (fun _ k=>by cases k)).2 ws h;rw [CG,Nat.zero_add] at this;exact this
theorem Fs (L:List UInt8) (ws:List (Nat × Nat)):∀lo hi,okW lo ws hi→(joinL (ws.map (cut L))).length+lo≤hi+ws.length∧ws.length+lo≤hi:=by
 have tail:∀(ws:List (Nat × Nat)) lo hi,okW lo ws hi→((ws.map (cut L)).flatMap fun y=>32 :: y).length+lo≤hi+ws.length∧ws.length+lo≤hi:=by
  intro ws;induction ws with
  |nil=>intro lo hi h;simp;exact h
  |cons x r ih=>
   intro lo hi h;have h1:=h.1;have h2:=h.2.1;obtain⟨i1,i2⟩:=ih _ _ h.2.2;have hc:(cut L x).length≤x.2 - x.1:=(by simp [cut];omega);simp only [List.map_cons,List.flatMap_cons,List.length_append,List.length_cons];omega
 intro lo hi h
 cases ws with
 |nil=>simp [joinL];exact h
 |cons x r=>
  have h1:=h.1;have h2:=h.2.1;obtain⟨i1,i2⟩:=tail r _ _ h.2.2;have hc:(cut L x).length≤x.2 - x.1:=by simp [cut];omega
  simp only [List.map_cons,joinL,List.length_append,List.length_cons];omega
end Go.Proofs.YtljkgcfnoegibaaGreatDoor.L2
namespace Go.Proofs.YtljkgcfnoegibaaGreatDoor.L3
open Go
open Go Go.RowKit
def pw (k:Nat):Int:=((2 ^ k:Nat):Int)
def bit (m k:Nat):Bool:=m.testBit k
def letter (m k:Nat):UInt8:=if bit m k then 112 else 105
def letters (m n:Nat):List UInt8:=(List.range n).map (letter m)
def isL (c:UInt8):Bool:=c == 105 || c == 112
def Hq (l:List UInt8):Bool:=l.all isL
def mask (l:List UInt8):Nat→Nat
 |0=>0
 |k+1=>mask l k+if l[k]? =some 112 then 2 ^ k else 0
def may (s m:Int):Bool:=decide (0≤s∧s≤16∧0≤m∧m < pw s.toNat)
theorem JJ (k:Nat):pw k=((2 ^ k:Nat):Int):=rfl
theorem uk (l:List UInt8):∀k,mask l k < 2 ^ k
 |0=>by simp [mask]
 |k+1=>by
  have:=uk l k;rw [mask,Nat.pow_succ];split <;> omega
theorem Jt {m k:Nat} (h:m < 2 ^ k):m ||| 2 ^ k=m+2 ^ k:=by
 rw [Nat.or_comm,nat_join k (2 ^ k) m (Nat.mod_self _) h,Nat.add_comm]
theorem Cm:∀n:Int,0≤n→n < 2 ^ 17→IntKind.i64.wrap n=n:=by
 intro n h0 h1;have:(2:Int) ^ 17=131072:=by decide
 simp [IntKind.wrap,IntKind.bits,IntKind.signed];omega
theorem Ha {m k:Nat} (hk:k < 16) (h:m < 2 ^ k):bits .or .i64 (m:Int) (pw k)=((m+2 ^ k:Nat):Int):=by
 have h16:2 ^ k≤2 ^ 16:=Nat.pow_le_pow_right (by decide) (by omega);have:(2:Nat) ^ 16 < 2 ^ 17:=by decide
 rw [JJ,(bits_nat .i64 17 (by decide) Cm m (2 ^ k) (by omega) (by omega)).2,Jt h]
theorem ae {p:Prop} (h:p):Hid p:=h
theorem ah (w:World) (o:Obj):Below w.heap.size w (w.alloc o):=(Below.refl _ _).alloc (Nat.le_refl _) _
theorem ph {w w1:World} (h:Below w.heap.size w w1) (u v:Value):Below w.heap.size w ((w1.setCell ⟨w.heap.size,0,none⟩ u).setCell ⟨w.heap.size,1,none⟩ v):=(h.setCell (by simp) _).setCell (by simp) _
def je (w:World) (g:Nat) (a b:Value):Prop:=
 w.cell? ⟨g,0,none⟩=some a∧w.cell? ⟨g,1,none⟩=some b∧w.frozen? ⟨g,0,none⟩=false∧w.frozen? ⟨g,1,none⟩=false∧g < w.heap.size
theorem je.new (w:World) (t:TypeId) {a b:Value}:je (w.alloc (.cells #[a,b] t)) w.heap.size a b:=by
 refine⟨?_,?_,?_,?_,by simp⟩ <;> simp [go_sem]
theorem je.below {w w1:World} {g:Nat} {a b:Value} (h:je w g a b) (hb:Below w.heap.size w w1):je w1 g a b:=by
 obtain⟨c0,c1,f0,f1,z⟩:=h;exact⟨(hb.cell z).trans c0,(hb.cell z).trans c1,(hb.frozen z).trans f0,(hb.frozen z).trans f1,Nat.lt_of_lt_of_le z hb.size⟩
theorem je.alloc {w:World} {g:Nat} {a b:Value} (h:je w g a b) (o:Obj):je (w.alloc o) g a b:=h.below (ah w o)
def Tab (w:World):Prop:=1 < w.heap.size∧∀k,k < 16→w.cell? ⟨1,k,none⟩=some (.int .i64 (pw k))
theorem Tab.below {w w':World} (h:Tab w) (b:Below w.heap.size w w'):Tab w':=
 ⟨Nat.lt_of_lt_of_le h.1 b.size,fun k hk=>(b.cell h.1).trans (h.2 k hk)⟩
theorem je.Mh {w:World} {g:Nat} {a b:Value} (h:je w g a b) (u:Value):je (w.setCell ⟨g,1,none⟩ u).drew g a u:=by
 obtain⟨c0,c1,f0,f1,z⟩:=h;refine⟨?_,?_,?_,?_,?_⟩
 ·show(w.setCell ⟨g,1,none⟩ u).cell? ⟨g,0,none⟩=_;rw [World.cell?_setCell_other _ _ _ _ (by simp)];exact c0
 ·exact World.cell?_setCell_same _ _ _ c1
 ·show(w.setCell ⟨g,1,none⟩ u).frozen? ⟨g,0,none⟩=_;rw [World.frozen?_setCell];exact f0
 ·show(w.setCell ⟨g,1,none⟩ u).frozen? ⟨g,1,none⟩=_;rw [World.frozen?_setCell];exact f1
 ·show g < (w.setCell ⟨g,1,none⟩ u).heap.size;simpa using z
theorem je.other {w:World} {g h:Nat} {a b:Value} (p:je w g a b) (hg:g≠h) (j:Nat) (u:Value):je (w.setCell ⟨h,j,none⟩ u).drew g a b:=by
 obtain⟨c0,c1,f0,f1,z⟩:=p;refine⟨?_,?_,?_,?_,?_⟩
 ·show(w.setCell ⟨h,j,none⟩ u).cell? ⟨g,0,none⟩=_;rw [World.cell?_setCell_other _ _ _ _ (fun e=>hg (congrArg Addr.block e).symm)];exact c0
 ·show(w.setCell ⟨h,j,none⟩ u).cell? ⟨g,1,none⟩=_;rw [World.cell?_setCell_other _ _ _ _ (fun e=>hg (congrArg Addr.block e).symm)];exact c1
 ·show(w.setCell ⟨h,j,none⟩ u).frozen? ⟨g,0,none⟩=_;rw [World.frozen?_setCell];exact f0
 ·show(w.setCell ⟨h,j,none⟩ u).frozen? ⟨g,1,none⟩=_;rw [World.frozen?_setCell];exact f1
 ·show g < (w.setCell ⟨h,j,none⟩ u).heap.size;simpa using z
theorem bG (s:ByteArray):s.data.toList.length=s.size:=by simp
theorem dX (s:ByteArray) (h:s.size=0):s.toList.isEmpty=true:=by
 have:s.data.toList= []:=List.length_eq_zero_iff.1 (by rw [bG];exact h);rw [ByteArray.toList_eq,this];rfl
theorem cQ (s:ByteArray) (h:0 < s.size):s.toList.isEmpty=false:=by
 rw [ByteArray.toList_eq]
 cases e:s.data.toList with
 |nil=>have:=bG s;rw [e] at this;simp at this;omega
 |cons=>rfl
theorem qP (s:ByteArray) (h:s.data.toList= [46]):(s.toList == [46])=true:=by
 rw [ByteArray.toList_eq,h];rfl
theorem fD (s:ByteArray) (h:s.data.toList≠ [46]):(s.toList == [46])=false:=by
 rw [ByteArray.toList_eq];simpa using h
theorem uh (s:ByteArray) (k:Nat) (h:k < s.size):s.data.toList[k]? =some s[k]:=by
 rw [List.getElem?_eq_getElem (by simpa using h)];rfl
theorem eI (c:UInt8) (k:Nat) (hk:k < 256):c.toNat=k↔c=UInt8.ofNat k:=by
 constructor
 ·intro h;apply UInt8.toNat_inj.1;rw [h];simp [UInt8.toNat_ofNat'];omega
 ·rintro rfl;simp [UInt8.toNat_ofNat'];omega
theorem DO (s:ByteArray) (k:Nat) (h:k < s.size) (hc:¬(s[k].toNat:Int)=112):mask s.data.toList (k+1)=mask s.data.toList k:=by
 rw [mask,uh s k h,if_neg,Nat.add_zero];intro e;have:s[k]=112:=Option.some.inj e;exact hc (by rw [this];rfl)
theorem DY (s:ByteArray) (k:Nat) (h:k < s.size) (hc:(s[k].toNat:Int)=112):mask s.data.toList (k+1)=mask s.data.toList k+2 ^ k:=by
 rw [mask,uh s k h,if_pos];rw [(eI s[k] 112 (by decide)).1 (by omega)];rfl
def yD (s:ByteArray) (k:Nat):Prop:=∀j,j < k→∀h:j < s.size,isL s[j]=true
theorem su (s:ByteArray):yD s 0:=fun j h=>by omega
theorem lu {s:ByteArray} {k:Nat} (h:yD s k) (hk:k < s.size) (hc:(s[k].toNat:Int)=105∨(s[k].toNat:Int)=112):yD s (k+1):=by
 intro j hj hs;by_cases e:j < k
 ·exact h j e hs
 ·have:j=k:=by omega
  subst this;rcases hc with hc | hc
  ·rw [(eI s[j] 105 (by decide)).1 (by omega)];rfl
  ·rw [(eI s[j] 112 (by decide)).1 (by omega)];rfl
theorem Fg {s:ByteArray} (h:yD s s.size):Hq s.data.toList=true:=by
 unfold Hq;rw [List.all_eq_true];intro c hc;obtain⟨j,hj,rfl⟩:=List.mem_iff_getElem.1 hc;have hj':j < s.size:=by simpa using hj
 exact h j hj' hj'
theorem J6 {s:ByteArray} {k:Nat} (hk:k < s.size) (h1:¬(s[k].toNat:Int)=105) (h2:¬(s[k].toNat:Int)=112):Hq s.data.toList=false:=by
 rw [Bool.eq_false_iff];intro h;have:=List.all_eq_true.1 h s[k] (List.mem_of_getElem? (uh s k hk));unfold isL at this;simp only [Bool.or_eq_true,beq_iff_eq] at this;rcases this with e | e
 ·exact h1 (by rw [e];rfl)
 ·exact h2 (by rw [e];rfl)
def mJ (l:List UInt8):Value:=
 if Hq l then .tuple #[.agg #[.int .i64 l.length,.int .i64 (mask l l.length)],.int .i64 0] else .tuple #[.agg #[.int .i64 0,.int .i64 0],.int .i64 16]
theorem sS {s:ByteArray} (h:yD s s.size):mJ s.data.toList= .tuple #[.agg #[.int .i64 s.size,.int .i64 (mask s.data.toList s.size)],.int .i64 0]:=by
 unfold mJ;rw [Fg h,bG];rfl
theorem vi {s:ByteArray} {k:Nat} (hk:k < s.size) (h1:¬(s[k].toNat:Int)=105) (h2:¬(s[k].toNat:Int)=112):mJ s.data.toList= .tuple #[.agg #[.int .i64 0,.int .i64 0],.int .i64 16]:=by
 unfold mJ;rw [J6 hk h1 h2];rfl
theorem yx (w:World) (s:ByteArray):je ((w.alloc (.cells #[.int .i64 0,.int .i64 0] 119)).alloc (.cells #[.int .i64 s.size,.int .i64 0] 119)) (w.heap.size+1) (.int .i64 s.size) (.int .i64 (mask s.data.toList 0)):=by
 have h:=je.new (w.alloc (.cells #[.int .i64 0,.int .i64 0] 119)) 119 (a:= .int .i64 s.size) (b:= .int .i64 0);rw [show(w.alloc (.cells #[.int .i64 0,.int .i64 0] 119)).heap.size=w.heap.size+1 from by simp] at h;exact h
theorem xe (s:ByteArray) (w:World) (h:s.data.toList= [46]):
  Calls Tryz.prog 141 #[.string s] w fun e w'=>e= .returned (.tuple #[.agg #[.int .i64 0,.int .i64 0],.int .i64 0])∧Below w.heap.size w w':=by
 have hp:=qP s h;clear h;go_enter Tryz.func141,Tryz.ntmps141
 go_wp2_with fail
 exact bodyPost_ret (v:= .tuple #[.agg #[.int .i64 0,.int .i64 0],.int .i64 0]) (by simp [results,Tryz.results141,go_sem]) rfl ⟨rfl,ah _ _⟩
theorem xF (s:ByteArray) (w:World) (h:s.size=0):
  Calls Tryz.prog 141 #[.string s] w fun e w'=>e= .returned (.tuple #[.agg #[.int .i64 0,.int .i64 0],.int .i64 16])∧Below w.heap.size w w':=by
 have hp:=fD s (fun e=>by have:=bG s;rw [e] at this;simp at this;omega);have he:=dX s h;clear h;go_enter Tryz.func141,Tryz.ntmps141
 go_wp2_with fail
 exact bodyPost_ret (v:= .tuple #[.agg #[.int .i64 0,.int .i64 0],.int .i64 16]) (by simp [results,Tryz.results141,go_sem]) rfl ⟨rfl,ah _ _⟩
theorem yE (s:ByteArray) (w:World) (h:16 < s.size):
  Calls Tryz.prog 141 #[.string s] w fun e w'=>e= .returned (.tuple #[.agg #[.int .i64 0,.int .i64 0],.int .i64 16])∧Below w.heap.size w w':=by
 have hp:=fD s (fun e=>by have:=bG s;rw [e] at this;simp at this;omega);have he:=cQ s (by omega);go_enter Tryz.func141,Tryz.ntmps141
 go_wp2_with fail
 exact bodyPost_ret (v:= .tuple #[.agg #[.int .i64 0,.int .i64 0],.int .i64 16]) (by simp [results,Tryz.results141,go_sem]) rfl ⟨rfl,ah _ _⟩
theorem rf (s:ByteArray) (w:World) (h0:0 < s.size) (h1:s.size≤16) (hs:s.data.toList≠ [46]) (ht:Tab w):
  Calls Tryz.prog 141 #[.string s] w fun e w'=>e= .returned (mJ s.data.toList)∧Below w.heap.size w w':=by
 have hp:=fD s hs;have he:=cQ s h0;have HT:=ae ht;clear hs ht;go_enter Tryz.func141,Tryz.ntmps141
 go_wp2_with fail
 go_loopw [22] (fun i wr=>∃k:Nat,k≤s.size∧i= .int .i64 k∧yD s k∧je wr w.heap.size (.int .i64 0) (.int .i64 0)∧je wr (w.heap.size+1) (.int .i64 s.size) (.int .i64 (mask s.data.toList k))∧Below w.heap.size w wr) (fun i _=>s.size - (intOf i).toNat)
 case atStart=>
  exact⟨0,Nat.zero_le _,rfl,su s,(je.new w 119).alloc _,yx w s,(ah _ _).alloc (by simp) _⟩
 case round=>
  obtain⟨k,hk,rfl,HU,HR,HX,HB⟩:=hrel;have HU:=ae HU;have HR:=ae HR;have HX:=ae HX;have HB:=ae HB;by_cases hlt:k < s.size
  ·have hlt':(k:Int) < s.size:=(by omega);by_cases hc:(s[k].toNat:Int)=105
   ·have HM:=ae (DO s k hlt (by omega));go_wp2_with fail
    go_roundw
    case rel=>exact⟨k+1,by omega,by go_num,lu HU.out hlt (.inl hc),HR.out,by rw [HM.out];exact HX.out,HB.out⟩
    case measure=>simp [intOf];omega
   ·by_cases hc2:(s[k].toNat:Int)=112
    ·have HM:=ae (DY s k hlt hc2);have hk16:(k:Int) < 16:=(by omega);obtain⟨x0,x1,y0,y1,z1⟩:=HX.out;have tb:=(HT.out.below HB.out).2 k (by omega);have HO:=ae (Ha (k:=k) (by omega) (uk s.data.toList k));go_wp2_with fail
     go_region
     go_wp2_with fail
     go_roundw
     case rel=>exact⟨k+1,by omega,by go_num,lu HU.out hlt (.inr hc2),HR.out.other (by omega) _ _,by rw [HM.out,←HO.out];exact HX.out.Mh _,(HB.out.setCell (by simp) _).drew⟩
     case measure=>simp [intOf];omega
    ·have HM:=ae (vi hlt hc hc2);obtain⟨c0,c1,f0,f1,z1⟩:=HR.out;go_wp2_with fail
     exact bodyPost_ret (v:= .tuple #[.agg #[.int .i64 0,.int .i64 0],.int .i64 16]) (by simp [results,Tryz.results141,go_sem,c0,c1]) rfl ⟨by rw [HM.out],ph HB.out _ _⟩
  ·have:k=s.size:=(by omega);subst this;have HM:=ae (sS HU.out);obtain⟨c0,c1,f0,f1,z1⟩:=HR.out;obtain⟨x0,x1,y0,y1,z1⟩:=HX.out;go_wp2_with fail
   exact bodyPost_ret (v:= .tuple #[.agg #[.int .i64 s.size,.int .i64 (mask s.data.toList s.size)],.int .i64 0]) (by simp [results,Tryz.results141,go_sem,c0,c1]) rfl ⟨by rw [HM.out],ph HB.out _ _⟩
def kQ (s:ByteArray):Value:=
 if s.data.toList= [46] then .tuple #[.agg #[.int .i64 0,.int .i64 0],.int .i64 0]
 else if s.size=0∨16 < s.size then .tuple #[.agg #[.int .i64 0,.int .i64 0],.int .i64 16]
 else mJ s.data.toList
theorem Br (s:ByteArray) (w:World) (ht:Tab w):
  Calls Tryz.prog 141 #[.string s] w fun e w'=>e= .returned (kQ s)∧Below w.heap.size w w':=by
 unfold kQ;by_cases hp:s.data.toList= [46]
 ·rw [if_pos hp];exact xe s w hp
 rw [if_neg hp];by_cases h0:s.size=0
 ·rw [if_pos (.inl h0)];exact xF s w h0
 by_cases h1:16 < s.size
 ·rw [if_pos (.inr h1)];exact yE s w h1
 rw [if_neg (by omega)];exact rf s w (by omega) (by omega) hp ht
theorem Gd (k:Nat):pw (k+1)=pw k * 2:=by
 unfold pw;rw [Nat.pow_succ];simp
theorem DQ (k:Nat):1≤pw k:=by
 have:0 < 2 ^ k:=Nat.two_pow_pos k;unfold pw;omega
theorem Gf {i j:Nat} (h:i≤j):pw i≤pw j:=by
 have:2 ^ i≤2 ^ j:=Nat.pow_le_pow_right (by decide) h;unfold pw;omega
theorem Iz {k:Nat} (h:k≤16):pw k≤65536:=Gf (j:=16) h
theorem A6 {k:IntKind} {a b:Int} (h:a=b):Value.int k a= .int k b:=congrArg (Value.int k) h
theorem Bd (n:Nat) (w:World) (hn:n≤16):
  Calls Tryz.prog 105 #[.int .i64 n] w fun e w'=>e= .returned (.int .i64 (pw n))∧w'=w:=by
 go_enter Tryz.func105,Tryz.ntmps105
 go_wp2
 go_loop [3,4] (fun o i=>∃k:Nat,k≤n∧i= .int .i64 k∧o= .int .i64 (pw k)) (fun _ i=>n - (intOf i).toNat)
 case atStart=>exact⟨0,Nat.zero_le _,rfl,rfl⟩
 case round=>
  obtain⟨k,hk,rfl,rfl⟩:=hrel;have h1:=DQ k;have h2:=Iz (k:=k) (by omega);by_cases hlt:k < n
  ·go_wp2
   go_round
   case rel=>exact⟨k+1,by omega,by go_num,A6 (Gd k).symm⟩
   case measure=>simp [intOf];omega
  ·go_wp2
   go_ret;have:k=n:=(by omega);subst this;exact⟨rfl,rfl⟩
theorem Ge (s:ByteArray) (k:Nat) (h:k < 16):mask s.data.toList k≤65535:=by
 have:=uk s.data.toList k;have h2:2 ^ k≤2 ^ 16:=Nat.pow_le_pow_right (by decide) (by omega);have:(2:Nat) ^ 16=65536:=by decide
 omega
theorem qE (s:ByteArray) (w:World) (h:s.data.toList= [46]):
  Calls Tryz.prog 75 #[.string s] w fun e w'=>e= .returned (.tuple #[.agg #[.int .i64 0,.int .i64 0],.int .i64 0])∧Below w.heap.size w w':=by
 have hp:=qP s h;clear h;go_enter Tryz.func75,Tryz.ntmps75
 go_wp2_with fail
 exact bodyPost_ret (v:= .tuple #[.agg #[.int .i64 0,.int .i64 0],.int .i64 0]) (by simp [results,Tryz.results75,go_sem]) rfl ⟨rfl,ah _ _⟩
theorem ir (s:ByteArray) (w:World) (h:s.size=0):
  Calls Tryz.prog 75 #[.string s] w fun e w'=>e= .returned (.tuple #[.agg #[.int .i64 0,.int .i64 0],.int .i64 16])∧Below w.heap.size w w':=by
 have hp:=fD s (fun e=>by have:=bG s;rw [e] at this;simp at this;omega);have he:=dX s h;clear h;go_enter Tryz.func75,Tryz.ntmps75
 go_wp2_with fail
 exact bodyPost_ret (v:= .tuple #[.agg #[.int .i64 0,.int .i64 0],.int .i64 16]) (by simp [results,Tryz.results75,go_sem]) rfl ⟨rfl,ah _ _⟩
theorem rA (s:ByteArray) (w:World) (h:16 < s.size):
  Calls Tryz.prog 75 #[.string s] w fun e w'=>e= .returned (.tuple #[.agg #[.int .i64 0,.int .i64 0],.int .i64 16])∧Below w.heap.size w w':=by
 have hp:=fD s (fun e=>by have:=bG s;rw [e] at this;simp at this;omega);have he:=cQ s (by omega);go_enter Tryz.func75,Tryz.ntmps75
 go_wp2_with fail
 exact bodyPost_ret (v:= .tuple #[.agg #[.int .i64 0,.int .i64 0],.int .i64 16]) (by simp [results,Tryz.results75,go_sem]) rfl ⟨rfl,ah _ _⟩
theorem nT (s:ByteArray) (w:World) (h0:0 < s.size) (h1:s.size≤16) (hs:s.data.toList≠ [46]):
  Calls Tryz.prog 75 #[.string s] w fun e w'=>e= .returned (mJ s.data.toList)∧Below w.heap.size w w':=by
 have hp:=fD s hs;have he:=cQ s h0;clear hs;go_enter Tryz.func75,Tryz.ntmps75
 go_wp2_with fail
 go_loop [4,5] (fun m i=>∃k:Nat,k≤s.size∧i= .int .i64 k∧m= .int .i64 (mask s.data.toList k)∧yD s k) (fun _ i=>s.size - (intOf i).toNat)
 case atStart=>exact⟨0,Nat.zero_le _,rfl,rfl,su s⟩
 case round=>
  obtain⟨k,hk,rfl,rfl,HU⟩:=hrel;have HU:=ae HU;by_cases hlt:k < s.size
  ·have hlt':(k:Int) < s.size:=(by omega);by_cases hc:(s[k].toNat:Int)=105
   ·have HM:=ae (DO s k hlt (by omega));go_wp2_with fail
    go_round
    case rel=>exact⟨k+1,by omega,by go_num,by rw [HM.out],lu HU.out hlt (.inl hc)⟩
    case measure=>simp [intOf];omega
   ·by_cases hc2:(s[k].toNat:Int)=112
    ·have HM:=ae (DY s k hlt hc2);have hb1:=Ge s k (by omega);have hb2:=Iz (k:=k) (by omega);have hb3:=DQ k;go_wp2_with fail
     refine(Bd k _ (by omega)).mono ?_;rintro e w1 ⟨rfl,rfl⟩;go_wp2_with fail
     go_round
     case rel=>exact⟨k+1,by omega,by go_num,A6 (by rw [HM.out];unfold pw;omega),lu HU.out hlt (.inr hc2)⟩
     case measure=>simp [intOf];omega
    ·have HM:=ae (vi hlt hc hc2);have n1:((s[k].toNat:Int) != 105)=true:=(by simpa using hc);have n2:((s[k].toNat:Int) != 112)=true:=(by simpa using hc2);go_wp2_with fail
     exact bodyPost_ret (v:= .tuple #[.agg #[.int .i64 0,.int .i64 0],.int .i64 16]) (by simp [results,Tryz.results75,go_sem]) rfl ⟨by rw [HM.out],ah _ _⟩
  ·have:k=s.size:=(by omega);subst this;have HM:=ae (sS HU.out);go_wp2_with fail
   exact bodyPost_ret (v:= .tuple #[.agg #[.int .i64 s.size,.int .i64 (mask s.data.toList s.size)],.int .i64 0]) (by simp [results,Tryz.results75,go_sem]) rfl ⟨by rw [HM.out],ah _ _⟩
theorem jY (s:ByteArray) (w:World):
  Calls Tryz.prog 75 #[.string s] w fun e w'=>e= .returned (kQ s)∧Below w.heap.size w w':=by
 unfold kQ;by_cases hp:s.data.toList= [46]
 ·rw [if_pos hp];exact qE s w hp
 rw [if_neg hp];by_cases h0:s.size=0
 ·rw [if_pos (.inl h0)];exact ir s w h0
 by_cases h1:16 < s.size
 ·rw [if_pos (.inr h1)];exact rA s w h1
 rw [if_neg (by omega)];exact nT s w (by omega) (by omega) hp
end Go.Proofs.YtljkgcfnoegibaaGreatDoor.L3
