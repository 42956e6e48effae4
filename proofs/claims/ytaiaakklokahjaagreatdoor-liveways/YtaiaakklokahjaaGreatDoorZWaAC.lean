/- Texts of one chain, joined. -/
import Derived.Laws.RangeAny
import Derived.Test.YtaiaakklokahjaaGreatDoorProg
import Derived.WalkKit
import Derived.WalkSpells
import Derived.WalkSmall
import Derived.WalkLawsBesides
import Derived.Lib.OthersKept
import Derived.Deep.Quiet
import Derived.Below
set_option maxHeartbeats 1000000
namespace Go.Proofs.YtaiaakklokahjaaGreatDoor.L2
open Go.RowKit
def EC (c:Int):Bool:=decide (97≤c) && decide (c≤122)
def EZ (c:Int):Bool:=decide (48≤c) && decide (c≤57)
def LQ (c:Int):Bool:=decide (65≤c) && decide (c≤90)
def J9 (c:Int):Bool:=decide (c=10) || decide (c=13)
def pe (c:Int):Bool:=decide (c=32) || decide (c=9) || J9 c
def jR (c:Int):Bool:=decide (c=40) || decide (c=41) || decide (c=123) || decide (c=125) || decide (c=61) || decide (c=58)
def gu (c:Int):Bool:=decide (c=46) || decide (c=37) || decide (c=64) || decide (c=45) || decide (c=95) || EC c || LQ c || EZ c
def ku (ws:List (Nat × Nat)) (b:Option Nat) (p:Nat):List (Nat × Nat):=match b with
 |none=>ws
 |some q=>ws ++ [(q,p)]
def scan:List UInt8→Nat→List (Nat × Nat)→Option Nat→Bool→Nat ⊕ List (Nat × Nat)
 |[],p,ws,b,_=> .inr (ku ws b p)
 |c :: l,p,ws,b,true=>scan l (p+1) ws b (!J9 c.toNat)
 |c :: l,p,ws,b,false=>
  if gu c.toNat then scan l (p+1) ws (some (b.getD p)) false
  else if jR c.toNat then scan l (p+1) (ku ws b p ++ [(p,p+1)]) none false
  else if(c.toNat:Int)=35 then scan l (p+1) (ku ws b p) none true
  else if pe c.toNat then scan l (p+1) (ku ws b p) none false
  else .inl p
theorem qA (c:UInt8) (l:List UInt8) (p:Nat) (ws:List (Nat × Nat)) (b:Option Nat):scan (c :: l) p ws b true=scan l (p+1) ws b (!J9 c.toNat):=by rw [scan]
theorem oy {c:UInt8} (l:List UInt8) (p:Nat) (ws:List (Nat × Nat)) (b:Option Nat) (h:gu c.toNat=true):scan (c :: l) p ws b false=scan l (p+1) ws (some (b.getD p)) false:=by rw [scan,if_pos h]
theorem jz {c:UInt8} (l:List UInt8) (p:Nat) (ws:List (Nat × Nat)) (b:Option Nat) (h:gu c.toNat=false) (h2:jR c.toNat=true):scan (c :: l) p ws b false=scan l (p+1) (ku ws b p ++ [(p,p+1)]) none false:=by
 rw [scan,if_neg (by simp [h]),if_pos h2]
theorem jT {c:UInt8} (l:List UInt8) (p:Nat) (ws:List (Nat × Nat)) (b:Option Nat) (h:gu c.toNat=false) (h2:jR c.toNat=false) (h3:(c.toNat:Int)=35):scan (c :: l) p ws b false=scan l (p+1) (ku ws b p) none true:=by
 rw [scan,if_neg (by simp [h]),if_neg (by simp [h2]),if_pos h3]
theorem jl {c:UInt8} (l:List UInt8) (p:Nat) (ws:List (Nat × Nat)) (b:Option Nat) (h:gu c.toNat=false) (h2:jR c.toNat=false) (h3:¬(c.toNat:Int)=35) (h4:pe c.toNat=true):scan (c :: l) p ws b false=scan l (p+1) (ku ws b p) none false:=by
 rw [scan,if_neg (by simp [h]),if_neg (by simp [h2]),if_neg h3,if_pos h4]
theorem jH {c:UInt8} (l:List UInt8) (p:Nat) (ws:List (Nat × Nat)) (b:Option Nat) (h:gu c.toNat=false) (h2:jR c.toNat=false) (h3:¬(c.toNat:Int)=35) (h4:pe c.toNat=false):scan (c :: l) p ws b false= .inl p:=by
 rw [scan,if_neg (by simp [h]),if_neg (by simp [h2]),if_neg h3,if_neg (by simp [h4])]
theorem drop_cons (s:ByteArray) (p:Nat) (h:p < s.size):s.data.toList.drop p=s[p] :: s.data.toList.drop (p+1):=by
 rw [List.drop_eq_getElem_cons (by simpa using h)];rfl
theorem BA (s:ByteArray):s.data.toList.length=s.size:=by rw [Array.length_toList];rfl
def place:Nat→List (List UInt8)→List (Nat × Nat)
 |_,[]=> []
 |p,x :: r=>(p,p+x.length) :: place (p+x.length+1) r
def words (s:ByteArray):Nat ⊕ List (Nat × Nat):=scan s.data.toList 0 [] none false
def ee:List UInt8→Nat→Bool
 |[],_=>true
 |c :: l,p=>(EC c.toNat || (decide (0 < p) && (EZ c.toNat || decide ((c.toNat:Int)=95)))) && ee l (p+1)
def gn (l:List UInt8):Bool:=decide (l.length≤24) && ee l 0 && !l.isEmpty
theorem aw {a b:Bool} (h:a=b):Ending.returned (.bool a)= .returned (.bool b):=by rw [h]
theorem aa {p:Prop} (h:p):Hid p:=h
theorem aA {p:Prop} (h:Hid p):p:=h
theorem sE (s:ByteArray) (p q:Nat) (h:¬p < s.size):ee (s.data.toList.drop p) q=true:=by
 rw [List.drop_of_length_le (by rw [BA];omega)];rfl
theorem pK (s:ByteArray) (p:Nat) (h:p < s.size):ee (s.data.toList.drop p) p=((EC (s[p]'h).toNat || (decide (0 < p) && (EZ (s[p]'h).toNat || decide (((s[p]'h).toNat:Int)=95)))) && ee (s.data.toList.drop (p+1)) (p+1)):=by
 rw [drop_cons s p h];rfl
theorem zD {s:ByteArray} (h:24 < s.size):gn s.data.toList=false:=by
 have:¬s.data.toList.length≤24:=by rw [BA];omega
 simp only [gn,this,decide_false,Bool.false_and]
theorem Eb {s:ByteArray} (h:¬24 < s.size):gn s.data.toList=(ee s.data.toList 0 && !s.data.toList.isEmpty):=by
 have:s.data.toList.length≤24:=by rw [BA];omega
 simp only [gn,this,decide_true,Bool.true_and]
theorem Bl {s:ByteArray} (h:s.size < 1):gn s.data.toList=false:=by
 have:s.data.toList= []:=List.length_eq_zero_iff.1 (by rw [BA];omega);rw [this];rfl
theorem A6 {s:ByteArray} (h:¬s.size < 1) (h2:¬24 < s.size):gn s.data.toList=ee s.data.toList 0:=by
 rw [Eb h2];have:s.data.toList.isEmpty=false:=by
  cases e:s.data.toList with
  |nil=>have:=BA s;rw [e] at this;simp at this;omega
  |cons=>rfl
 rw [this,Bool.not_false,Bool.and_true]
theorem mu (s:ByteArray) (w:World) (hs:s.size≤maxLen):
  Calls Tryz.prog 127 #[.string s] w fun e w'=>e= .returned (.bool (gn s.data.toList))∧w'=w:=by
 unfold maxLen at hs;by_cases hl:s.size < 1
 ·go_enter Tryz.func127,Tryz.ntmps127
  go_wp2
  go_ret;exact⟨aw (Bl hl).symm,rfl⟩
 ·by_cases hl2:24 < s.size
  ·go_enter Tryz.func127,Tryz.ntmps127
   go_wp2
   go_ret;exact⟨aw (zD hl2).symm,rfl⟩
  ·have HF:=aa (A6 hl hl2);go_enter Tryz.func127,Tryz.ntmps127
   go_wp2
   go_loop [3] (fun i=>∃pos:Nat,i= .int .i64 pos∧pos≤s.size∧Hid (ee (s.data.toList.drop pos) pos=ee s.data.toList 0)) (fun i=>s.size - (intOf i).toNat)
   case atStart=>exact⟨0,rfl,Nat.zero_le _,rfl⟩
   case round=>
    obtain⟨pos,rfl,hp,HN⟩:=hrel;by_cases hlt:pos < s.size
    ·have HS:=aa (pK s pos hlt);have hc:((s[pos]'hlt).toNat:Int)≤255:=(by have:=(s[pos]'hlt).toNat_lt;omega);by_cases a0:pos=0 <;> by_cases a1:97≤((s[pos]'hlt).toNat:Int) <;> by_cases a2:((s[pos]'hlt).toNat:Int)≤122 <;> by_cases a3:48≤((s[pos]'hlt).toNat:Int) <;> by_cases a4:((s[pos]'hlt).toNat:Int)≤57
     all_goals try (exfalso;omega)
     all_goals
      have HK:Hid (ee s.data.toList 0=(_ && _)):=aa ((aA HN).symm.trans (aA HS));have HA:=aa a0;clear HN HS a0;go_wp2
     all_goals first
      |(go_round
        case rel=>exact⟨pos+1,by go_num,by omega,aa (by rw [aA HK];grind [EC,EZ])⟩
        case measure=>simp [intOf];omega)
      |(go_ret
        exact⟨aw (by rw [aA HF,aA HK];grind [EC,EZ]),rfl⟩)
    ·go_wp2
     go_ret;obtain rfl:pos=s.size:=(by omega);exact⟨aw (by rw [aA HF,←aA HN,sE s s.size s.size (Nat.lt_irrefl _)]),rfl⟩
def gF:List (ByteArray × Int)→List Value
 |[]=> []
 |t :: r=> .string t.1 :: .int .i64 t.2 :: gF r
def tok (s:ByteArray) (x:Nat × Nat):ByteArray × Int:=(s.extract x.1 x.2,(x.1:Int))
theorem p9 (a b:List (ByteArray × Int)):gF (a ++ b)=gF a ++ gF b:=by
 induction a with
 |nil=>rfl
 |cons t r ih=>simp [gF,ih]
theorem tG (s:ByteArray) (ws:List (Nat × Nat)) (a b:Nat):gF ((ws ++ [(a,b)]).map (tok s))=gF (ws.map (tok s)) ++ [.string (s.extract a b),.int .i64 a]:=by
 rw [List.map_append,p9];rfl
theorem uq {w w':World} (h:Below w.heap.size w w'):w.grownBy w' none:=⟨h.1,h.2,h.3,h.4,fun k hk _=>h.5 k hk⟩
theorem Tryz.Gc:(Tryz.prog.info? 173).map (fun i=>(i.zero,i.size,i.bytes))=some (some (.agg #[.string ⟨#[]⟩,.int .i64 0]),2,24):=by kernel_rfl
theorem mZ {w1:World} {a b:Value} {t:TypeId}:∀j u,[a,b][j]? =some u→(w1.alloc (.cells #[a,b] t)).cell? ((⟨w1.heap.size,0,none⟩:Addr).add j)=some u:=by
 intro j u hj;match j,hj with
 |0,hj=>simp at hj;subst hj;simp [Addr.add]
 |1,hj=>simp at hj;subst hj;simp [Addr.add]
theorem rW {s:ByteArray} {a:Int}:∀u∈ [Value.string s,Value.int .i64 a],u.oneCell'=true:=by
 intro u hu;simp only [List.mem_cons,List.not_mem_nil,or_false] at hu;rcases hu with rfl | rfl <;> rfl
def okW:Nat→List (Nat × Nat)→Nat→Prop
 |lo,[],hi=>lo≤hi
 |lo,x :: r,hi=>lo≤x.1∧x.1 < x.2∧okW x.2 r hi
theorem ue (ws:List (Nat × Nat)):∀(lo a e hi:Nat),okW lo ws a→a < e→e≤hi→okW lo (ws ++ [(a,e)]) hi:=by
 induction ws with
 |nil=>intro lo a e hi h h2 h3;exact⟨h,h2,h3⟩
 |cons x r ih=>intro lo a e hi h h2 h3;exact⟨h.1,h.2.1,ih _ _ _ _ h.2.2 h2 h3⟩
theorem pj (ws:List (Nat × Nat)):∀(lo hi hi2:Nat),okW lo ws hi→hi≤hi2→okW lo ws hi2:=by
 induction ws with
 |nil=>intro lo hi hi2 h h2;exact Nat.le_trans h h2
 |cons x r ih=>intro lo hi hi2 h h2;exact⟨h.1,h.2.1,ih _ _ _ h.2.2 h2⟩
theorem vi (ws:List (Nat × Nat)) (b:Option Nat) (p:Nat) (h:okW 0 ws (b.getD p)) (hb:∀q,b=some q→q < p):okW 0 (ku ws b p) p:=by
 cases b with
 |none=>exact h
 |some q=>exact ue ws 0 q p p h (hb q rfl) (Nat.le_refl _)
theorem th (l:List UInt8):∀(p:Nat) (ws:List (Nat × Nat)) (b:Option Nat) (n:Bool),okW 0 ws (b.getD p)→(∀q,b=some q→q < p)→
  (∀x,scan l p ws b n= .inl x→p≤x∧x < p+l.length)∧(∀ws',scan l p ws b n= .inr ws'→okW 0 ws' (p+l.length)):=by
 induction l with
 |nil=>
  intro p ws b n h hb;refine⟨fun x hx=>(by rw [scan] at hx;cases hx),fun ws' hx=> ?_⟩;rw [scan] at hx;rw [←Sum.inr.inj hx];exact vi ws b p h hb
 |cons c l ih=>
  intro p ws b n h hb;have step:∀ws2 b2 n2,scan (c :: l) p ws b n=scan l (p+1) ws2 b2 n2→okW 0 ws2 (b2.getD (p+1))→(∀q,b2=some q→q < p+1)→
    (∀x,scan (c :: l) p ws b n= .inl x→p≤x∧x < p+(c :: l).length)∧(∀ws',scan (c :: l) p ws b n= .inr ws'→okW 0 ws' (p+(c :: l).length)):=by
   intro ws2 b2 n2 e h2 hb2;rw [e,List.length_cons];obtain⟨i1,i2⟩:=ih (p+1) ws2 b2 n2 h2 hb2;refine⟨fun x hx=> ?_,fun ws' hx=> ?_⟩
   ·have:=i1 x hx;omega
   ·have:=i2 ws' hx;rw [show p+(l.length+1)=p+1+l.length by omega];exact this
  have hs:=vi ws b p h hb
  cases n with
  |true=>
   refine step ws b _ (qA c l p ws b) ?_ (fun q hq=>by have:=hb q hq;omega)
   cases b with
   |none=>exact pj ws 0 p (p+1) h (by omega)
   |some q=>exact h
  |false=>
   cases ht:gu c.toNat with
   |true=>
    refine step ws (some (b.getD p)) false (oy l p ws b ht) h (fun q hq=> ?_);have e:=Option.some.inj hq
    cases b with
    |none=>simp at e;omega
    |some r=>simp at e;have:=hb r rfl;omega
   |false=>
    cases h2:jR c.toNat with
    |true=>exact step _ none false (jz l p ws b ht h2) (ue _ 0 p (p+1) (p+1) hs (by omega) (Nat.le_refl _)) (fun q hq=>by cases hq)
    |false=>
     by_cases h3:(c.toNat:Int)=35
     ·exact step _ none true (jT l p ws b ht h2 h3) (pj _ 0 p (p+1) hs (by omega)) (fun q hq=>by cases hq)
     ·cases h4:pe c.toNat with
      |true=>exact step _ none false (jl l p ws b ht h2 h3 h4) (pj _ 0 p (p+1) hs (by omega)) (fun q hq=>by cases hq)
      |false=>
       rw [jH l p ws b ht h2 h3 h4];exact⟨fun x hx=>by have:=Sum.inl.inj hx;simp only [List.length_cons];omega,fun ws' hx=>by cases hx⟩
def CY:List (List UInt8)→List UInt8
 |[]=> []
 |x :: r=>x ++ r.flatMap fun y=>32 :: y
def ET (x:List UInt8):Prop:=(∃c:UInt8,x= [c]∧gu c.toNat=false∧jR c.toNat=true)∨(x≠ []∧∀c∈x,gu (UInt8.toNat c)=true)
def cut (L:List UInt8) (x:Nat × Nat):List UInt8:=(L.drop x.1).take (x.2 - x.1)
def tf (L:List UInt8) (x:Nat × Nat):Prop:=(x.2=x.1+1∧∃c,L[x.1]? =some c∧gu c.toNat=false∧jR c.toNat=true)∨(x.1 < x.2∧∀j,x.1≤j→j < x.2→∃c,L[j]? =some c∧gu c.toNat=true)
theorem FN {L:List UInt8} {x:Nat × Nat} (h:tf L x):ET (cut L x):=by
 rcases h with ⟨e,c,hc,h1,h2⟩ | ⟨hlt,h⟩
 ·refine .inl ⟨c,?_,h1,h2⟩;obtain⟨hl,rfl⟩:=List.getElem?_eq_some_iff.1 hc;rw [cut,e,Nat.add_sub_cancel_left,List.drop_eq_getElem_cons hl];rfl
 ·refine .inr ⟨?_,fun c hc=> ?_⟩
  ·obtain⟨c,hc,_⟩:=h x.1 (Nat.le_refl _) hlt;obtain⟨hl,rfl⟩:=List.getElem?_eq_some_iff.1 hc;intro e;have:=congrArg List.length e;simp [cut] at this;omega
  ·obtain⟨j,hj,rfl⟩:=List.getElem_of_mem hc;have hj2:j < x.2 - x.1:=(by simp [cut] at hj;omega);obtain⟨c,hc2,h3⟩:=h (x.1+j) (by omega) (by omega);obtain⟨hl,rfl⟩:=List.getElem?_eq_some_iff.1 hc2;simp only [cut,List.getElem_take,List.getElem_drop];exact h3
theorem qV {L:List UInt8} {ws:List (Nat × Nat)} {b:Option Nat} {p:Nat} (h:∀x∈ws,tf L x) (hb:∀q,b=some q→q < p∧∀j,q≤j→j < p→∃c,L[j]? =some c∧gu c.toNat=true):∀x∈ku ws b p,tf L x:=by
 cases b with
 |none=>exact h
 |some q=>
  intro x hx;simp only [ku,List.mem_append,List.mem_singleton] at hx;rcases hx with hx | rfl
  ·exact h x hx
  ·exact .inr (hb q rfl)
theorem zn (L:List UInt8) (l:List UInt8):∀(p:Nat) (ws:List (Nat × Nat)) (b:Option Nat) (n:Bool),L.drop p=l→(∀x∈ws,tf L x)→
  (∀q,b=some q→q < p∧∀j,q≤j→j < p→∃c,L[j]? =some c∧gu c.toNat=true)→(n=true→b=none)→∀ws',scan l p ws b n= .inr ws'→∀x∈ws',tf L x:=by
 induction l with
 |nil=>
  intro p ws b n _ h hb _ ws' hx;rw [scan] at hx;rw [←Sum.inr.inj hx];exact qV h hb
 |cons c l ih=>
  intro p ws b n hd h hb hn ws' hx;have hd2:L.drop (p+1)=l:=by rw [←List.drop_drop,hd];rfl
  have hc:L[p]? =some c:=by
   have:=congrArg (fun k=>k[0]?) hd;simpa using this
  have hs:=qV h hb;have nob:∀q,(none:Option Nat)=some q→q < p+1∧∀j,q≤j→j < p+1→∃c,L[j]? =some c∧gu c.toNat=true:=fun q hq=>by cases hq
  cases n with
  |true=>
   have hb0:=hn rfl;subst hb0;rw [qA] at hx;exact ih (p+1) ws none _ hd2 h nob (fun _=>rfl) ws' hx
  |false=>
   cases ht:gu c.toNat with
   |true=>
    rw [oy l p ws b ht] at hx;refine ih (p+1) ws _ false hd2 h (fun q hq=> ?_) (fun k=>by cases k) ws' hx;have e:=Option.some.inj hq
    cases b with
    |none=>
     simp only [Option.getD_none] at e;subst e;refine⟨by omega,fun j h1 h2=> ?_⟩;have:j=p:=(by omega);subst this;exact⟨c,hc,ht⟩
    |some r=>
     simp only [Option.getD_some] at e;subst e;obtain⟨g1,g2⟩:=hb r rfl;refine⟨by omega,fun j h1 h2=> ?_⟩;by_cases hj:j < p
     ·exact g2 j h1 hj
     ·have:j=p:=(by omega);subst this;exact⟨c,hc,ht⟩
   |false=>
    cases h2:jR c.toNat with
    |true=>
     rw [jz l p ws b ht h2] at hx;refine ih (p+1) _ none false hd2 (fun x hx2=> ?_) nob (fun _=>rfl) ws' hx;simp only [List.mem_append,List.mem_singleton] at hx2;rcases hx2 with hx2 | rfl
     ·exact hs x hx2
     ·exact .inl ⟨rfl,c,hc,ht,h2⟩
    |false=>
     by_cases h3:(c.toNat:Int)=35
     ·rw [jT l p ws b ht h2 h3] at hx;exact ih (p+1) _ none true hd2 hs nob (fun _=>rfl) ws' hx
     ·cases h4:pe c.toNat with
      |true=>
       rw [jl l p ws b ht h2 h3 h4] at hx;exact ih (p+1) _ none false hd2 hs nob (fun _=>rfl) ws' hx
      |false=>
       rw [jH l p ws b ht h2 h3 h4] at hx
       cases hx
theorem DC {s:ByteArray} {ws:List (Nat × Nat)} (h:words s= .inr ws):okW 0 ws s.size∧∀x∈ws,ET (cut s.data.toList x):=by
 refine⟨?_,fun x hx=>FN (zn s.data.toList _ 0 [] none false rfl (fun _ k=>by cases k) (fun _ k=>by cases k) (fun _=>rfl) ws h x hx)⟩;have:=(th s.data.toList 0 [] none false (Nat.le_refl 0) (fun _ k=>by cases k)).2 ws h;rw [BA,Nat.zero_add] at this;exact this
theorem CZ (L:List UInt8) (ws:List (Nat × Nat)):∀lo hi,okW lo ws hi→(CY (ws.map (cut L))).length+lo≤hi+ws.length∧ws.length+lo≤hi:=by
 have tail:∀(ws:List (Nat × Nat)) lo hi,okW lo ws hi→((ws.map (cut L)).flatMap fun y=>32 :: y).length+lo≤hi+ws.length∧ws.length+lo≤hi:=by
  intro ws;induction ws with
  |nil=>intro lo hi h;simp;exact h
  |cons x r ih=>
   intro lo hi h;have h1:=h.1;have h2:=h.2.1;obtain⟨i1,i2⟩:=ih _ _ h.2.2;have hc:(cut L x).length≤x.2 - x.1:=(by simp [cut];omega);simp only [List.map_cons,List.flatMap_cons,List.length_append,List.length_cons];omega
 intro lo hi h
 cases ws with
 |nil=>simp [CY];exact h
 |cons x r=>
  have h1:=h.1;have h2:=h.2.1;obtain⟨i1,i2⟩:=tail r _ _ h.2.2;have hc:(cut L x).length≤x.2 - x.1:=by simp [cut];omega
  simp only [List.map_cons,CY,List.length_append,List.length_cons];omega
end Go.Proofs.YtaiaakklokahjaaGreatDoor.L2
namespace Go.Proofs.YtaiaakklokahjaaGreatDoor
theorem sU1 {α:Type} (l:List α) (i:Nat) (a:α):l.toArray.setIfInBounds i a=(l.set i a).toArray:=List.setIfInBounds_toArray ..
theorem sU2 {α:Type} (a:α) (l:List α) (n:Nat) (b:α):(a :: l).set (n+1) b=a :: l.set n b:=List.set_cons_succ ..
theorem sU3 {α:Type} (a:α) (l:List α) (b:α):(a :: l).set 0 b=b :: l:=List.set_cons_zero ..
end Go.Proofs.YtaiaakklokahjaaGreatDoor
namespace Go.Proofs.YtaiaakklokahjaaGreatDoor.Mix
open Go Go.RowKit
def Up:Type:={p:Value→World→Prop // ∀v w w',Below w.heap.size w w'→p v w→p v w'}
def Up.eq (c:Value):Up:=⟨fun v _=>v=c,fun _ _ _ _ h=>h⟩
def Up.any:Up:=⟨fun _ _=>True,fun _ _ _ _ h=>h⟩
theorem grow_step {a b c:World} (h:Below a.heap.size a b) (k:Below b.heap.size b c):Below a.heap.size a c:=h.trans (k.mono h.size)
section
variable (P:Program) (ops:Array Oper) (W:World) (F:Tmp→Up)
def Fd (dst:Option Tmp) (v:Value) (w:World):Prop:=∀d,dst=some d→(F d).1 v w
def Valid (dst:Option Tmp) (v:Value):Prop:=∃w,Below W.heap.size W w∧Fd F dst v w
def add (dst:Option Tmp) (S:Tmp→Prop):Tmp→Prop:=fun t=>dst=some t∨S t
def del (dst:Option Tmp) (S:Tmp→Prop):Tmp→Prop:=fun t=>dst≠some t∧S t
def Ip (S:Tmp→Prop) (ts:List Tmp) (a:Act) (w:World):Prop:=∀t∈ts,S t→∀v,a.tmps[t]? =some v→(F t).1 v w
def ic (S:Tmp→Prop) (a:Act) (w:World):Prop:=∀t,S t→∀v,a.tmps[t]? =some v→(F t).1 v w
def nN (o:Oper) (w:World):Result Next→Prop
 |.ok (.value v) w'=>Below w.heap.size w w'∧Fd F o.dst v w'
 |.ok .skip w'=>Below w.heap.size w w'∧Fd F o.dst undef w'
 |.ok (.enter f args) w'=>Calls P f args w' fun e w''=>∃v,e= .returned v∧Below w.heap.size w w''∧Fd F o.dst v w''
 |.ok (.row row args) w'=>Rows P row args w' fun v w''=>Below w.heap.size w w''∧Fd F o.dst v w''
 |_=>False
def tD (o:Oper) (a:Act) (S:Tmp→Prop):Prop:=∀w,Below W.heap.size W w→Ip F S (o.looksAt ops) a w→nN P F o w ((execOp a.eval o).run P w)
def body (o:Oper) (K:Act→(Tmp→Prop)→Prop) (a:Act) (S:Tmp→Prop):Prop:=
 if Region.wanted o (yielded ops a.tmps)then tD P ops W F o a S∧∀v,Valid W F o.dst v→K (a.put o.dst v) (add o.dst S)else K (a.put o.dst undef) (del o.dst S)
def mOp (i:Nat) (K:Act→(Tmp→Prop)→Prop) (a:Act) (S:Tmp→Prop):Prop:=match ops[i]? with
 |none=>K a S
 |some o=>body P ops W F o K a S
def je (Q:Act→(Tmp→Prop)→Prop):List Oper→Act→(Tmp→Prop)→Prop
 |[],a,S=>Q a S
 |o :: rest,a,S=>(Region.wanted o (yielded ops a.tmps)=true→∃v,Valid W F o.dst v)∧body P ops W F o (je Q rest) a S
def ni (md:Region.Mode) (Q:Act→(Tmp→Prop)→Prop):Nat→Array Bool→Act→(Tmp→Prop)→Prop
 |0,listed,a,S=>Region.ready md ops listed= []∧Q a S
 |fuel+1,listed,a,S=>
  (Region.ready md ops listed= []→Q a S)∧
  ∀i∈Region.ready md ops listed,mOp P ops W F i (ni md Q fuel (listed.setIfInBounds i true)) a S
end
section
variable {P:Program} {ops:Array Oper} {W:World} {F:Tmp→Up} {md:Region.Mode}
theorem jY {a:Act} {dst:Option Tmp} {v:Value} {t:Tmp} (h:dst≠some t):(a.put dst v).tmps[t]? =a.tmps[t]? :=by
 cases dst with
 |none=>rfl
 |some d=>
  have:d≠t:=fun e=>h (by rw [e]);simp [Act.put,this]
theorem D5 {a:Act} {v u:Value} {t:Tmp} (h:(a.put (some t) v).tmps[t]? =some u):u=v:=by
 simp only [Act.put,Array.getElem?_setIfInBounds,if_true] at h;split at h
 ·injection h with h;exact h.symm
 ·cases h
theorem ic.add {S:Tmp→Prop} {a:Act} {w w':World} {dst:Option Tmp} {v:Value} (h:ic F S a w) (b:Below w.heap.size w w') (hf:Fd F dst v w'):ic F (add dst S) (a.put dst v) w':=by
 intro t ht u hu;by_cases e:dst=some t
 ·subst e;rw [D5 hu];exact hf t rfl
 ·rw [jY e] at hu;rcases ht with ht | ht
  ·exact absurd ht e
  ·exact(F t).2 _ _ _ b (h t ht u hu)
theorem ic.del {S:Tmp→Prop} {a:Act} {w:World} {dst:Option Tmp} {v:Value} (h:ic F S a w):ic F (del dst S) (a.put dst v) w:=by
 intro t ht u hu;rw [jY ht.1] at hu;exact h t ht.2 u hu
theorem dS {o:Oper} {K K':Act→(Tmp→Prop)→Prop} {a:Act} {S:Tmp→Prop} (h:∀a S,K a S→K' a S) (hh:body P ops W F o K a S):body P ops W F o K' a S:=by
 unfold body at *;split
 ·rename_i hw;rw [if_pos hw] at hh;exact⟨hh.1,fun v hv=>h _ _ (hh.2 v hv)⟩
 ·rename_i hw;rw [if_neg hw] at hh;exact h _ _ hh
theorem kE {o:Oper} {a:Act} {S:Tmp→Prop} {K:Act→(Tmp→Prop)→Prop} {K':Act→World→Prop} {Q':Exit→Act→World→Prop} {w:World} (hC:Below W.heap.size W w) (hA:ic F S a w)
  (h:∀a' S' w',Below W.heap.size W w'→ic F S' a' w'→K a' S'→K' a' w') (hm:tD P ops W F o a S) (hn:∀v,Valid W F o.dst v→K (a.put o.dst v) (add o.dst S)):o.wp P a w K' Q':=by
 have h3:=hm w hC (fun t _ hs v hv=>hA t hs v hv);have fin:∀v w',Below w.heap.size w w'→Fd F o.dst v w'→K' (a.put o.dst v) w':=fun v w' hb hf=>
  h _ _ _ (grow_step hC hb) (hA.add hb hf) (hn v ⟨w',grow_step hC hb,hf⟩)
 unfold Oper.wp;generalize (execOp a.eval o).run P w=r at *
 cases r with
 |ok n w'=>
  cases n <;> simp only [nN] at h3 <;> simp only [Oper.upon]
  case value v=>exact fin _ _ h3.1 h3.2
  case skip=>exact fin _ _ h3.1 h3.2
  case enter f args=>exact h3.mono fun e w'' ⟨v,he,hb,hf⟩=>by subst he;exact fin _ _ hb hf
  case row row args=>exact h3.mono fun v w'' ⟨hb,hf⟩=>fin _ _ hb hf
 |halt x w'=>simp only [nN] at h3
theorem fJ {Q:Act→(Tmp→Prop)→Prop} {Q':Exit→Act→World→Prop} (hQ:∀a S w,Below W.heap.size W w→ic F S a w→Q a S→Q' .normal a w):∀(fuel:Nat) (listed:Array Bool) (a:Act) (S:Tmp→Prop) (w:World),Below W.heap.size W w→ic F S a w→
  ni P ops W F md Q fuel listed a S→wpAny P md ops Q' fuel listed a w
 |0,_,_,_,_,hC,hA,h=>⟨h.1,hQ _ _ _ hC hA h.2⟩
 |fuel+1,listed,a,S,w,hC,hA,h=>⟨fun h0=>hQ _ _ _ hC hA (h.1 h0),fun i hi=>by
   have hh:=h.2 i hi;unfold mOp at hh;unfold wpOp;split
   ·rename_i ho;simp only [ho] at hh;exact fJ hQ fuel _ _ _ _ hC hA hh
   ·rename_i o ho;simp only [ho] at hh;unfold body at hh;split
    ·rename_i hw;rw [if_pos hw] at hh;exact .inl (kE hC hA (fun a' S' w' c k q=>fJ hQ fuel _ _ _ _ c k q) hh.1 hh.2)
    ·rename_i hw;rw [if_neg hw] at hh;exact fJ hQ fuel _ _ _ _ hC hA.del hh⟩
theorem lN {o:Oper} (hs:∀cs b,o.op≠ .select cs b) {a:Act} {dst:Option Tmp} {v:Value} {S S':Tmp→Prop} (hd:∀d,dst=some d→d ∉ o.looksAt ops) (hS:∀t,dst≠some t→(S' t↔S t)):tD P ops W F o (a.put dst v) S'↔tD P ops W F o a S:=by
 have e:=execOp_put (ops:=ops) o hs a dst v hd;have ne:∀t,t∈o.looksAt ops→dst≠some t:=fun t ht e=>hd t e ht;unfold tD;rw [e];constructor
 ·intro h w hC hK;refine h w hC fun t ht hs v hv=> ?_;rw [jY (ne t ht)] at hv;exact hK t ht ((hS t (ne t ht)).1 hs) v hv
 ·intro h w hC hK;refine h w hC fun t ht hs v hv=> ?_;exact hK t ht ((hS t (ne t ht)).2 hs) v (by rw [jY (ne t ht)];exact hv)
theorem yw {dst:Option Tmp} {S:Tmp→Prop}:∀t,dst≠some t→(add dst S t↔S t):=fun _ h=>⟨fun k=>k.resolve_left h,.inr⟩
theorem yL {dst:Option Tmp} {S:Tmp→Prop}:∀t,dst≠some t→(del dst S t↔S t):=fun _ h=>⟨fun k=>k.2,fun k=>⟨h,k⟩⟩
theorem add_add (x y:Option Tmp) (S:Tmp→Prop):add x (add y S)=add y (add x S):=by
 funext t;unfold add;exact propext or_left_comm
theorem FG (x y:Option Tmp) (S:Tmp→Prop):del x (del y S)=del y (del x S):=by
 funext t;unfold del;exact propext and_left_comm
theorem yU {x y:Option Tmp} (h:∀d,x=some d→y≠some d) (S:Tmp→Prop):add x (del y S)=del y (add x S):=by
 funext t;unfold add del;refine propext ⟨?_,?_⟩
 ·rintro (e | ⟨h1,h2⟩)
  ·exact⟨h t e,.inl e⟩
  ·exact⟨h1,.inr h2⟩
 ·rintro ⟨h1,e | h2⟩
  ·exact .inl e
  ·exact .inr ⟨h1,h2⟩
theorem mM {oi oj:Oper} (hap:oi.apart ops oj=true) (hsi:∀cs b,oi.op≠ .select cs b) (hsj:∀cs b,oj.op≠ .select cs b) {K:Act→(Tmp→Prop)→Prop} {a:Act} {S:Tmp→Prop}
  (hex:Region.wanted oi (yielded ops a.tmps)=true→∃v,Valid W F oi.dst v) (h:body P ops W F oi (fun a' S'=>body P ops W F oj K a' S') a S):body P ops W F oj (fun a' S'=>body P ops W F oi K a' S') a S:=by
 obtain⟨h1,h2,h3⟩:=Oper.apart_spec hap;have h2':∀d,oj.dst=some d→oi.dst≠some d:=fun d e e2=>h2 d e2 e;unfold body at *;by_cases wi:Region.wanted oi (yielded ops a.tmps)=true
 ·rw [if_pos wi] at h;obtain⟨m1,n1⟩:=h;obtain⟨v0,hv0⟩:=hex wi;by_cases wj:Region.wanted oj (yielded ops a.tmps)=true
  ·rw [if_pos wj];refine⟨?_,fun u hu=> ?_⟩
   ·have:=n1 v0 hv0;dsimp only at this
    rw [wanted_put oj a oi.dst v0 h1,if_pos wj] at this;exact(lN hsj h1 yw).1 this.1
   ·dsimp only
    rw [wanted_put oi a oj.dst u h3,if_pos wi];refine⟨(lN hsi h3 yw).2 m1,fun v hv=> ?_⟩;have:=n1 v hv;dsimp only at this
    rw [wanted_put oj a oi.dst v h1,if_pos wj] at this;have:=this.2 u hu;rw [Act.put_comm a v u h2,add_add] at this;exact this
  ·rw [if_neg wj];dsimp only
   rw [wanted_put oi a oj.dst undef h3,if_pos wi];refine⟨(lN hsi h3 yL).2 m1,fun v hv=> ?_⟩;have:=n1 v hv;dsimp only at this
   rw [wanted_put oj a oi.dst v h1,if_neg wj,Act.put_comm a v undef h2,←yU h2] at this;exact this
 ·rw [if_neg wi] at h;rw [wanted_put oj a oi.dst undef h1] at h;by_cases wj:Region.wanted oj (yielded ops a.tmps)=true
  ·rw [if_pos wj] at h ⊢;refine⟨(lN hsj h1 yL).1 h.1,fun u hu=> ?_⟩;dsimp only
   rw [wanted_put oi a oj.dst u h3,if_neg wi];have:=h.2 u hu;rw [Act.put_comm a undef u h2,yU h2'] at this;exact this
  ·rw [if_neg wj] at h ⊢;dsimp only
   rw [wanted_put oi a oj.dst undef h3,if_neg wi];rw [Act.put_comm a undef undef h2,FG] at h;exact h
theorem jA {o:Oper} {K:Act→(Tmp→Prop)→Prop} {a:Act} {S:Tmp→Prop} {A:Act→Prop} (hu:∀u,A (a.put o.dst u)) (hh:body P ops W F o K a S):body P ops W F o (fun a' S'=>A a'∧K a' S') a S:=by
 unfold body at *;split
 ·rename_i hw;rw [if_pos hw] at hh;exact⟨hh.1,fun v hv=>⟨hu v,hh.2 v hv⟩⟩
 ·rename_i hw;rw [if_neg hw] at hh;exact⟨hu _,hh⟩
theorem rV {Q:Act→(Tmp→Prop)→Prop} {i:Nat} {oi:Oper} (hi:ops[i]? =some oi) (hsel:∀(j:Nat) (o:Oper) cs b,ops[j]? =some o→o.op≠ .select cs b):
  ∀(fuel:Nat) (listed:Array Bool) (a:Act) (S:Tmp→Prop),
   (∀j oj,ops[j]? =some oj→j≠i→listed.getD j true=false→(∀e∈oj.after,Region.binds md e=true→e.on≠i)→oi.apart ops oj=true)→
   i∈Region.ready md ops listed→(Region.wanted oi (yielded ops a.tmps)=true→∃v,Valid W F oi.dst v)→
   body P ops W F oi (ni P ops W F md Q fuel (listed.setIfInBounds i true)) a S→ni P ops W F md Q (fuel+1) listed a S:=by
 intro fuel;induction fuel with
 |zero=>
  intro listed a S _ hr hex H;refine⟨fun h=>(by rw [h] at hr;cases hr),fun j hj=> ?_⟩;by_cases hji:j=i
  ·subst hji;unfold mOp;simp only [hi];exact H
  ·have hno:=ready_mono hj hji;have:Region.ready md ops (listed.setIfInBounds i true)= []:=by
    unfold body at H;split at H
    ·rename_i hw;obtain⟨v,hv⟩:=hex hw;exact(H.2 v hv).1
    ·exact H.1
   rw [this] at hno
   cases hno
 |succ fuel ih=>
  intro listed a S hfree hr hex H;refine⟨fun h=>(by rw [h] at hr;cases hr),fun j hj=> ?_⟩;by_cases hji:j=i
  ·subst hji;unfold mOp;simp only [hi];exact H
  ·obtain⟨hjun,oj,hoj,hall⟩:=mem_ready.1 hj;have hnot:∀e∈oj.after,Region.binds md e=true→e.on≠i:=fun e he hb heq=>by
    have h1:=hall e he hb;have h0:=(mem_ready.1 hr).1;rw [heq] at h1;rcases Nat.lt_or_ge i listed.size with h' | h'
    ·simp [h'] at h0 h1;rw [h0] at h1;cases h1
    ·simp [Array.getElem?_eq_none h'] at h1
   have hap:=hfree j oj hoj hji hjun hnot;obtain⟨_,_,h3⟩:=Oper.apart_spec hap;have H1:body P ops W F oi (fun a' S'=>body P ops W F oj (ni P ops W F md Q fuel ((listed.setIfInBounds i true).setIfInBounds j true)) a' S') a S:=dS (fun a' S' h=>by
    have:=h.2 j (ready_mono hj hji);unfold mOp at this;simp only [hoj] at this;exact this) H
   have H2:=mM hap (fun cs b=>hsel i oi cs b hi) (fun cs b=>hsel j oj cs b hoj) hex H1;have H3:=jA (A:=fun a'=>Region.wanted oi (yielded ops a'.tmps)=true→∃v,Valid W F oi.dst v) (fun u=>by rw [wanted_put oi a oj.dst u h3];exact hex) H2;have hfree':∀k ok,ops[k]? =some ok→k≠i→(listed.setIfInBounds j true).getD k true=false→
     (∀e∈ok.after,Region.binds md e=true→e.on≠i)→oi.apart ops ok=true:=fun k ok hk hki hun hno=>by
    refine hfree k ok hk hki ?_ hno;by_cases hjk:j=k
    ·subst hjk;exact hjun
    ·rw [getD_set_ne true hjk] at hun;exact hun
   unfold mOp;simp only [hoj];refine dS (fun a' S' h=>ih (listed.setIfInBounds j true) a' S' hfree' (ready_mono hr (Ne.symm hji)) h.1 ?_) H3;rw [Array.setIfInBounds_comm _ _ hji];exact h.2
theorem ov {Q:Act→(Tmp→Prop)→Prop} (hs:Region.noSelect ops=true):∀(l:List Oper) (k:Nat) (listed:Array Bool) (a:Act) (S:Tmp→Prop),(∀j,l[j]? =ops[k+j]?)→
  Region.lexFrom md ops l.length k listed=true→je P ops W F Q l a S→ni P ops W F md Q l.length listed a S
 |[],_,_,_,_,_,hB,h=>⟨by simpa [Region.lexFrom] using hB,h⟩
 |o :: l,k,listed,a,S,hl,hB,h=>by
  have h0:ops[k]? =some o:=by simpa using (hl 0).symm
  simp only [List.length_cons,Region.lexFrom,Bool.and_eq_true] at hB;obtain⟨⟨hr,hf⟩,hB'⟩:=hB;refine rV h0 (Region.noSelect_spec hs) l.length listed a S (Region.free_spec h0 hf) (by simpa using hr) h.1 ?_;exact dS (fun a' S' q=>ov hs l (k+1) _ _ _ (fun j=>by have:=hl (j+1);simpa [Nat.add_assoc,Nat.add_comm 1 j] using this) hB' q) h.2
theorem eV {id:Nat} {Q:Exit→Act→World→Prop} {a:Act} {l:List Oper} (F:Tmp→Up) (hm:P.follows .mixedOrders=true) (hB:Region.lexB .any l.toArray=true)
  (h:je P l.toArray W F (fun a' S=>∀w',Below W.heap.size W w'→ic F S a' w'→Q .normal a' w') l a (fun _=>False)):(Code.region id l.toArray true).wp P Q a W:=by
 simp only [Region.lexB,Bool.and_eq_true] at hB;refine wp_region_any hm (fJ (W:=W) (F:=F) (Q:=fun a' S=>∀w',Below W.heap.size W w'→ic F S a' w'→Q .normal a' w') (fun _ _ w' hC hA h=>h w' hC hA) _ _ _ (fun _=>False) _ (Below.refl _ _).drew (fun t ht=>ht.elim) ?_);have:=ov (W:=W) (F:=F) (md:= .any) hB.1 l 0 (Array.replicate l.toArray.size false) a (fun _=>False) (by simp) (by simpa using hB.2) h;simpa using this
theorem iG {Q:Act→(Tmp→Prop)→Prop} {a:Act} {S:Tmp→Prop} (h:Q a S):je P ops W F Q [] a S:=h
theorem ia {Q:Act→(Tmp→Prop)→Prop} {a:Act} {S:Tmp→Prop} {o:Oper} {rest:List Oper} (hw:Region.wanted o (yielded ops a.tmps)=false) (h:je P ops W F Q rest (a.put o.dst undef) (del o.dst S)):je P ops W F Q (o :: rest) a S:=by
 refine⟨fun k=>absurd (hw.symm.trans k) (by decide),?_⟩;unfold body;rw [if_neg (by rw [hw];decide)];exact h
theorem aj {Q:Act→(Tmp→Prop)→Prop} {a:Act} {S:Tmp→Prop} {o:Oper} {rest:List Oper} (hw:Region.wanted o (yielded ops a.tmps)=true) (hex:∃v,Valid W F o.dst v)
  (hm:∀w,Below W.heap.size W w→Ip F S (o.looksAt ops) a w→nN P F o w ((execOp a.eval o).run P w)) (h:∀v,Valid W F o.dst v→je P ops W F Q rest (a.put o.dst v) (add o.dst S)):je P ops W F Q (o :: rest) a S:=by
 refine⟨fun _=>hex,?_⟩;unfold body;rw [if_pos hw];exact⟨hm,h⟩
end
section
variable (P:Program) (ops:Array Oper) (W:World) (F:Tmp→Up)
def nf (md:Region.Mode) (n:Nat) (Q:Act→(Tmp→Prop)→Prop):Nat→Array Bool→Act→(Tmp→Prop)→Prop
 |0,listed,a,S=>((∀j∈Region.ready md ops listed,j=n)∧Region.ready md ops listed≠ []∧Region.ready md ops (listed.setIfInBounds n true)= [])∧Q a S
 |fuel+1,listed,a,S=>Region.ready md ops listed≠ []∧∀i∈Region.ready md ops listed,mOp P ops W F i (nf md n Q fuel (listed.setIfInBounds i true)) a S
end
section
variable {P:Program} {ops:Array Oper} {W:World} {F:Tmp→Up} {md:Region.Mode} {n:Nat}
theorem iQ {Q:Act→(Tmp→Prop)→Prop} {Q':Exit→Act→World→Prop} {o:Oper} (ho:ops[n]? =some o)
  (hQ:∀a S w,Below W.heap.size W w→ic F S a w→Q a S→Region.wanted o (yielded ops a.tmps)=true∧∀K:Act→World→Prop,(∀a' w',Q' .normal a' w'→K a' w')→o.wp P a w K Q'):
  ∀(fuel:Nat) (listed:Array Bool) (a:Act) (S:Tmp→Prop) (w:World),Below W.heap.size W w→ic F S a w→nf P ops W F md n Q fuel listed a S→wpAny P md ops Q' (fuel+1) listed a w
 |0,listed,a,S,w,hC,hA,h=>⟨fun h0=>absurd h0 h.1.2.1,fun i hi=>by
   obtain rfl:=h.1.1 i hi;obtain⟨hw,hk⟩:=hQ a S w hC hA h.2;unfold wpOp;simp only [ho];rw [if_pos hw];exact .inl (hk _ (fun a' w' q=>⟨h.1.2.2,q⟩))⟩
 |fuel+1,listed,a,S,w,hC,hA,h=>⟨fun h0=>absurd h0 h.1,fun i hi=>by
   have hh:=h.2 i hi;unfold mOp at hh;unfold wpOp;split
   ·rename_i ho';simp only [ho'] at hh;exact iQ ho hQ fuel _ _ _ _ hC hA hh
   ·rename_i o' ho';simp only [ho'] at hh;unfold body at hh;split
    ·rename_i hw;rw [if_pos hw] at hh;exact .inl (kE hC hA (fun a' S' w' c k q=>iQ ho hQ fuel _ _ _ _ c k q) hh.1 hh.2)
    ·rename_i hw;rw [if_neg hw] at hh;exact iQ ho hQ fuel _ _ _ _ hC hA.del hh⟩
theorem rL {Q:Act→(Tmp→Prop)→Prop} {i:Nat} {oi on:Oper} (hi:ops[i]? =some oi) (hn:ops[n]? =some on) (hlast:∃e∈on.after,Region.binds md e=true∧e.on=i) (hsel:∀(j:Nat) (o:Oper) cs b,ops[j]? =some o→o.op≠ .select cs b):
  ∀(fuel:Nat) (listed:Array Bool) (a:Act) (S:Tmp→Prop),
   (∀j oj,ops[j]? =some oj→j≠i→listed.getD j true=false→(∀e∈oj.after,Region.binds md e=true→e.on≠i)→oi.apart ops oj=true)→
   i∈Region.ready md ops listed→(Region.wanted oi (yielded ops a.tmps)=true→∃v,Valid W F oi.dst v)→
   body P ops W F oi (nf P ops W F md n Q fuel (listed.setIfInBounds i true)) a S→nf P ops W F md n Q (fuel+1) listed a S:=by
 intro fuel;induction fuel with
 |zero=>
  intro listed a S _ hr hex H;refine⟨fun h=>(by rw [h] at hr;cases hr),fun j hj=> ?_⟩;by_cases hji:j=i
  ·subst hji;unfold mOp;simp only [hi];exact H
  ·have hno:=ready_mono hj hji;have hall:∀j∈Region.ready md ops (listed.setIfInBounds i true),j=n:=by
    unfold body at H;split at H
    ·rename_i hw;obtain⟨v,hv⟩:=hex hw;exact(H.2 v hv).1.1
    ·exact H.1.1
   obtain rfl:=hall j hno;exfalso;obtain⟨hjun,oj,hoj,hal⟩:=mem_ready.1 hj;rw [hn] at hoj;injection hoj with hoj;subst hoj;obtain⟨e,he,hb,heq⟩:=hlast;have h1:=hal e he hb;have h0:=(mem_ready.1 hr).1;rw [heq] at h1;rcases Nat.lt_or_ge i listed.size with h' | h'
   ·simp [h'] at h0 h1;rw [h0] at h1;cases h1
   ·simp [Array.getElem?_eq_none h'] at h1
 |succ fuel ih=>
  intro listed a S hfree hr hex H;refine⟨fun h=>(by rw [h] at hr;cases hr),fun j hj=> ?_⟩;by_cases hji:j=i
  ·subst hji;unfold mOp;simp only [hi];exact H
  ·obtain⟨hjun,oj,hoj,hall⟩:=mem_ready.1 hj;have hnot:∀e∈oj.after,Region.binds md e=true→e.on≠i:=fun e he hb heq=>by
    have h1:=hall e he hb;have h0:=(mem_ready.1 hr).1;rw [heq] at h1;rcases Nat.lt_or_ge i listed.size with h' | h'
    ·simp [h'] at h0 h1;rw [h0] at h1;cases h1
    ·simp [Array.getElem?_eq_none h'] at h1
   have hap:=hfree j oj hoj hji hjun hnot;obtain⟨_,_,h3⟩:=Oper.apart_spec hap;have H1:body P ops W F oi (fun a' S'=>body P ops W F oj (nf P ops W F md n Q fuel ((listed.setIfInBounds i true).setIfInBounds j true)) a' S') a S:=dS (fun a' S' h=>by
    have:=h.2 j (ready_mono hj hji);unfold mOp at this;simp only [hoj] at this;exact this) H
   have H2:=mM hap (fun cs b=>hsel i oi cs b hi) (fun cs b=>hsel j oj cs b hoj) hex H1;have H3:=jA (A:=fun a'=>Region.wanted oi (yielded ops a'.tmps)=true→∃v,Valid W F oi.dst v) (fun u=>by rw [wanted_put oi a oj.dst u h3];exact hex) H2;have hfree':∀k ok,ops[k]? =some ok→k≠i→(listed.setIfInBounds j true).getD k true=false→
     (∀e∈ok.after,Region.binds md e=true→e.on≠i)→oi.apart ops ok=true:=fun k ok hk hki hun hno=>by
    refine hfree k ok hk hki ?_ hno;by_cases hjk:j=k
    ·subst hjk;exact hjun
    ·rw [getD_set_ne true hjk] at hun;exact hun
   unfold mOp;simp only [hoj];refine dS (fun a' S' h=>ih (listed.setIfInBounds j true) a' S' hfree' (ready_mono hr (Ne.symm hji)) h.1 ?_) H3;rw [Array.setIfInBounds_comm _ _ hji];exact h.2
theorem oU {Q:Act→(Tmp→Prop)→Prop} {on:Oper} (hn:ops[n]? =some on) (hs:Region.noSelect ops=true) (hlast:∀i,i < n→∃e∈on.after,Region.binds md e=true∧e.on=i):∀(l:List Oper) (k:Nat) (listed:Array Bool) (a:Act) (S:Tmp→Prop),k+l.length=n→(∀j,j < l.length→l[j]? =ops[k+j]?)→
  Region.lexFrom md ops (l.length+1) k listed=true→je P ops W F Q l a S→nf P ops W F md n Q l.length listed a S
 |[],k,listed,_,_,hk,_,hB,h=>by
  have hkn:k=n:=by simpa using hk
  subst hkn;simp only [List.length_nil,Region.lexFrom,Bool.and_eq_true] at hB;obtain⟨⟨hr,_⟩,he⟩:=hB;have hr':k∈Region.ready md ops listed:=by simpa using hr
  have he':Region.ready md ops (listed.setIfInBounds k true)= []:=by simpa using he
  refine⟨⟨fun j hj=> ?_,fun h0=>(by rw [h0] at hr';cases hr'),he'⟩,h⟩;refine Classical.byContradiction fun hne=> ?_;have:=ready_mono hj hne;rw [he'] at this
  cases this
 |o :: l,k,listed,a,S,hk,hl,hB,h=>by
  have h0:ops[k]? =some o:=by simpa using (hl 0 (by simp)).symm
  simp only [List.length_cons] at hB hk;rw [Region.lexFrom] at hB;simp only [Bool.and_eq_true] at hB;obtain⟨⟨hr,hf⟩,hB'⟩:=hB;refine rL h0 hn (hlast k (by omega)) (Region.noSelect_spec hs) l.length listed a S (Region.free_spec h0 hf) (by simpa using hr) h.1 ?_;exact dS (fun a' S' q=>oU hn hs hlast l (k+1) _ _ _ (by omega) (fun j hj=>by have:=hl (j+1) (by simp;omega);simpa [Nat.add_assoc,Nat.add_comm 1 j] using this) hB' q) h.2
theorem jB {id:Nat} {Q:Exit→Act→World→Prop} {a:Act} {l:List Oper} (F:Tmp→Up) (n:Nat) (o:Oper) (hn:l.length=n+1) (ho:l[n]? =some o) (hm:P.follows .mixedOrders=true) (hB:Region.lexB .any l.toArray=true)
  (hL:(List.range n).all (fun i=>o.after.any fun e=>Region.binds .any e && e.on == i)=true)
  (h:je P l.toArray W F (fun a' S=>∀w',Below W.heap.size W w'→ic F S a' w'→Region.wanted o (yielded l.toArray a'.tmps)=true∧∀K:Act→World→Prop,(∀a'' w'',Q .normal a'' w''→K a'' w'')→o.wp P a' w' K Q) (l.take n) a (fun _=>False)):(Code.region id l.toArray true).wp P Q a W:=by
 simp only [Region.lexB,Bool.and_eq_true] at hB;have hsz:l.toArray.size=n+1:=by simpa using hn
 refine wp_region_any hm ?_;rw [hsz];have hoA:l.toArray[n]? =some o:=by simpa using ho
 refine iQ (W:=W) (F:=F) (n:=n) (Q:=fun a' S=>∀w',Below W.heap.size W w'→ic F S a' w'→Region.wanted o (yielded l.toArray a'.tmps)=true∧∀K:Act→World→Prop,(∀a'' w'',Q .normal a'' w''→K a'' w'')→o.wp P a' w' K Q) hoA (fun _ _ w' hC hA h=>h w' hC hA) n _ _ (fun _=>False) _ (Below.refl _ _).drew (fun t ht=>ht.elim) ?_;have hlen:(l.take n).length=n:=by rw [List.length_take];omega
 have hlast:∀i,i < n→∃e∈o.after,Region.binds .any e=true∧e.on=i:=fun i hi=>by
  have:=List.all_eq_true.1 hL i (by simpa using hi);obtain⟨e,he,h2⟩:=Array.any_eq_true'.1 this;simp only [Bool.and_eq_true,beq_iff_eq] at h2;exact⟨e,he,h2.1,h2.2⟩
 have hB2:=hB.2;rw [hsz] at hB2;have:=oU (P:=P) (W:=W) (F:=F) (md:= .any) (n:=n) hoA hB.1 hlast (l.take n) 0 (Array.replicate (n+1) false) a (fun _=>False) (by omega) (fun j hj=>by
  rw [Nat.zero_add,List.getElem?_take,if_pos (by omega)];simp) (by rw [hlen];exact hB2) h
 rw [hlen] at this;exact this
end
end Go.Proofs.YtaiaakklokahjaaGreatDoor.Mix
