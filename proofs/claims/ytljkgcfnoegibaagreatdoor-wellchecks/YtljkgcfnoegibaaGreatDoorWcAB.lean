/- Texts of one chain, joined. -/
import Derived.Test.YtljkgcfnoegibaaGreatDoorWcAA
import Derived.Lib.ItoaNum
import Derived.Lib.Strings
import Derived.WalkKit
import Derived.WalkSpells
import Derived.WalkSmall
import Derived.WalkLawsBesides
import Derived.Laws.BytesArg
import Derived.Deep.QuietTactic
import Derived.BigQuiet
set_option maxHeartbeats 400000
set_option maxRecDepth 20000
namespace Go.Proofs.YtljkgcfnoegibaaGreatDoor.L1
open Go.Lib (decDigits itoa)
open Go.RowKit
theorem worth_lt:∀(l:List UInt8),l.all isDig=true→worth l < 10 ^ l.length
 |[],_=>by simp [worth]
 |c :: l,h=>by
  simp only [List.all_cons,Bool.and_eq_true] at h
  have h1:=(isDig_iff c).1 h.1
  have ih:=worth_lt l h.2
  have e:worth (c :: l)=(c.toNat - 48) * 10 ^ l.length+worth l:=by
   have:=worth_append [c] l
   rwa [worth_one] at this
  rw [e,List.length_cons,Nat.pow_succ]
  have:(c.toNat - 48) * 10 ^ l.length≤9 * 10 ^ l.length:=Nat.mul_le_mul_right _ (by omega)
  omega
theorem worth_ge (c:UInt8) (l:List UInt8) (h:isDig c=true) (h0:c≠48):10 ^ l.length≤worth (c :: l):=by
 have h1:=(isDig_iff c).1 h
 have e:worth (c :: l)=(c.toNat - 48) * 10 ^ l.length+worth l:=by
  have:=worth_append [c] l
  rwa [worth_one] at this
 have h2:c.toNat≠48:=fun e=>h0 (UInt8.toNat_inj.1 (by rw [e];rfl))
 have:1 * 10 ^ l.length≤(c.toNat - 48) * 10 ^ l.length:=Nat.mul_le_mul_right _ (by omega)
 omega
theorem dec_small {u:Nat} (h:u < 10):decDigits u= [UInt8.ofNat (48+u)]:=by rw [decDigits,dif_pos h]
theorem dec_big {u:Nat} (h:¬u < 10):decDigits u=decDigits (u / 10) ++ [UInt8.ofNat (48+u % 10)]:=by rw [decDigits,dif_neg h]
theorem snoc_cases (l:List UInt8) (h:l≠ []):∃a c,l=a ++ [c]:=⟨l.dropLast,l.getLast h,(List.dropLast_concat_getLast h).symm⟩
theorem dec_worth_aux (n:Nat):∀(l:List UInt8),l.length=n→isNum l=true→decDigits (worth l)=l:=by
 induction n using Nat.strongRecOn with
 |_ n IH=>
  intro l hn h
  have hs:l.isEmpty=false∧l.all isDig=true∧(l.head? ≠some 48∨l.length=1):=by
   simp only [isNum,Bool.and_eq_true,Bool.or_eq_true,bne_iff_ne,beq_iff_eq,Bool.not_eq_true'] at h
   exact⟨h.1.1,h.1.2,h.2⟩
  obtain⟨h1,h2,h3⟩:=hs
  have hne:l≠ []:=by rintro rfl;simp at h1
  obtain⟨a,c,rfl⟩:=snoc_cases l hne
  rw [List.all_append,Bool.and_eq_true] at h2
  have hc:isDig c=true:=by simpa using h2.2
  have hc':=(isDig_iff c).1 hc
  have ec:UInt8.ofNat (48+(c.toNat - 48))=c:=by
   rw [show 48+(c.toNat - 48)=c.toNat by omega];simp
  cases ha:a with
  |nil=>
   rw [List.nil_append,worth_one,dec_small (by omega),ec]
  |cons b r=>
   rw [←ha]
   have hlen:a.length+1=n:=by simpa using hn
   have ha0:a.length≠0:=by rw [ha];simp
   have hhead:a.head? ≠some 48:=by
    rcases h3 with h3 | h3
    ·rw [List.head?_append] at h3
     rw [ha] at h3 ⊢
     simpa using h3
    ·exact absurd h3 (by simp [ha])
   have hb:isDig b=true:=by
    have:=h2.1
    rw [ha] at this
    simp only [List.all_cons,Bool.and_eq_true] at this
    exact this.1
   have hge:=worth_ge b r hb (by rw [ha] at hhead;simpa using hhead)
   rw [←ha] at hge
   have hpos:1≤worth a:=Nat.le_trans (Nat.one_le_pow _ _ (by decide)) hge
   have ih:=IH a.length (by omega) a rfl (by
    simp only [isNum,Bool.and_eq_true,Bool.or_eq_true,bne_iff_ne,beq_iff_eq,Bool.not_eq_true']
    exact⟨⟨by rw [ha];rfl,h2.1⟩,.inl hhead⟩)
   rw [worth_snoc,dec_big (by omega),show(worth a * 10+(c.toNat - 48)) / 10=worth a by omega,ih,
    show(worth a * 10+(c.toNat - 48)) % 10=c.toNat - 48 by omega,ec]
theorem dec_worth (l:List UInt8) (h:isNum l=true):decDigits (worth l)=l:=dec_worth_aux l.length l rfl h
theorem itoa_read (l:List UInt8) (h:(readNum l).2=0):itoa (readNum l).1=l:=by
 unfold readNum at h ⊢
 split at h
 case isFalse=>simp at h
 case isTrue hc=>
  obtain⟨hn,hz⟩:=hc
  rw [if_pos ⟨hn,hz⟩]
  split at h
  case isTrue hl=>
   rw [if_pos hl]
   split at h
   case isFalse=>simp at h
   case isTrue hw=>
    rw [if_pos hw]
    have hr:restOf l=l.tail:=by unfold restOf;rw [if_pos hl]
    have hd:=dec_worth _ hn
    have hpos:0 < worth (restOf l):=by
     rcases Nat.eq_zero_or_pos (worth (restOf l))with e | e
     ·rw [e,dec_small (by decide)] at hd
      exact absurd ⟨hl,hd.symm⟩ hz
     ·exact e
    have hlt:(- (worth (restOf l):Int)) < 0:=by omega
    show itoa (- (worth (restOf l):Int))=l
    rw [itoa,if_pos hlt,show(- (worth (restOf l):Int)).natAbs=worth (restOf l) by omega,hd,hr]
    unfold lowOf at hl
    cases l with
    |nil=>simp at hl
    |cons c r=>simp at hl;subst hl;rfl
  case isFalse hl=>
   rw [if_neg hl]
   split at h
   case isFalse=>simp at h
   case isTrue hw=>
    rw [if_pos hw]
    have hr:restOf l=l:=by unfold restOf;rw [if_neg hl]
    show itoa ((worth (restOf l):Int))=l
    rw [itoa,if_neg (by omega),Int.toNat_natCast,dec_worth _ hn,hr]
theorem worth_first {s t:List UInt8} (hs:s.all isDig=true) (ht:t.all isDig=true) (hl:s.length=t.length) (i:Nat) (hi:i < s.length) (hi':i < t.length)
  (hp:s.take i=t.take i) (hlt:s[i].toNat < t[i].toNat):worth s < worth t:=by
 have es:s=s.take i ++ s[i] :: s.drop (i+1):=by rw [←List.drop_eq_getElem_cons hi,List.take_append_drop]
 have et:t=t.take i ++ t[i] :: t.drop (i+1):=by rw [←List.drop_eq_getElem_cons hi',List.take_append_drop]
 have ks:worth s=(worth (t.take i) * 10+(s[i].toNat - 48)) * 10 ^ (s.length - (i+1))+worth (s.drop (i+1)):=by
  conv=>lhs;rw [es,←List.singleton_append,←List.append_assoc,worth_append,worth_snoc,hp]
  simp
 have kt:worth t=(worth (t.take i) * 10+(t[i].toNat - 48)) * 10 ^ (s.length - (i+1))+worth (t.drop (i+1)):=by
  conv=>lhs;rw [et,←List.singleton_append,←List.append_assoc,worth_append,worth_snoc]
  simp [hl]
 have dgs:∀j (h:j < s.length),48≤s[j].toNat:=fun j h=>((isDig_iff _).1 (List.all_eq_true.1 hs _ (List.getElem_mem h))).1
 have dgt:∀j (h:j < t.length),48≤t[j].toNat:=fun j h=>((isDig_iff _).1 (List.all_eq_true.1 ht _ (List.getElem_mem h))).1
 have hd:worth (s.drop (i+1)) < 10 ^ (s.length - (i+1)):=by
  have:=worth_lt (s.drop (i+1)) (List.all_eq_true.2 fun c hc=>List.all_eq_true.1 hs c (List.mem_of_mem_drop hc))
  simpa using this
 have h1:=dgs i hi
 have h2:=dgt i hi'
 have hm:(worth (t.take i) * 10+(s[i].toNat - 48)+1) * 10 ^ (s.length - (i+1))≤(worth (t.take i) * 10+(t[i].toNat - 48)) * 10 ^ (s.length - (i+1)):=Nat.mul_le_mul_right _ (by omega)
 rw [Nat.add_mul,Nat.one_mul] at hm
 omega
theorem worth_take_le (l:List UInt8) (k:Nat):worth (l.take k)≤worth l:=by
 have:worth l=worth (l.take k) * 10 ^ (l.drop k).length+worth (l.drop k):=by rw [←worth_append,List.take_append_drop]
 have hp:1≤10 ^ (l.drop k).length:=Nat.one_le_pow _ _ (by decide)
 have:=Nat.mul_le_mul_left (worth (l.take k)) hp
 omega
def ddn (u:Nat):List UInt8:=if u=0 then [] else Lib.decDigits u
theorem ddn_step (u:Nat) (h:u≠0):ddn u=ddn (u / 10) ++ [UInt8.ofNat (48+u % 10)]:=by
 unfold ddn
 rw [if_neg h]
 by_cases h1:u < 10
 ·rw [dec_small h1,if_pos (by omega),Nat.mod_eq_of_lt h1];rfl
 ·rw [dec_big h1,if_neg (by omega)]
theorem dec_len:∀(k u:Nat),u < 10 ^ (k+1)→(Lib.decDigits u).length≤k+1
 |0,u,h=>by rw [dec_small (by simpa using h)];simp
 |k+1,u,h=>by
  by_cases h1:u < 10
  ·rw [dec_small h1];simp
  ·rw [dec_big h1,List.length_append]
   have:=dec_len k (u / 10) (by rw [Nat.pow_succ] at h;omega)
   simpa using this
theorem conv_one (W:World) (x:Int):(convert 44 9 (.slice (some ⟨W.heap.size,0,none⟩) 1 1)).run Tryz.prog (W.alloc (.cells #[.int .u8 x] 5))= .ok (.string ⟨#[UInt8.ofNat x.toNat]⟩) (W.alloc (.cells #[.int .u8 x] 5)):=
 run_convert_bytes_arg _ 44 5 Tryz.underlying44 Tryz.underlying5 _ 0 1 1 [x] rfl (fun i hi=>by
  obtain rfl:i=0:=by omega
  simp) 9 Tryz.underlying9
theorem cat_one (x:UInt8) (l:List UInt8):(⟨#[x]⟩:ByteArray) ++ ⟨l.toArray⟩=⟨(x :: l).toArray⟩:=by
 apply ByteArray.ext
 simp
theorem tmod_neg (kk:Int) (h:kk < 0):kk.tmod 10= -((kk.natAbs % 10:Nat):Int)∧kk.tdiv 10= -((kk.natAbs / 10:Nat):Int):=by
 obtain⟨m,rfl⟩:∃m:Nat,kk= -(m:Int):=⟨kk.natAbs,by omega⟩
 rw [Int.neg_tmod,Int.neg_tdiv,Int.natAbs_neg,Int.natAbs_natCast]
 exact⟨by rfl,by rfl⟩
def Left8 (n kk:Int) (l:List UInt8):Prop:=ddn kk.natAbs ++ l=Lib.decDigits n.natAbs∧(kk < 0→n < 0)∧(0 < kk→0 < n)
theorem Left8.len {n kk:Int} {l:List UInt8} (h:Left8 n kk l) (h0: -9223372036854775808≤n) (h1:n≤9223372036854775807):l.length≤20:=by
 have:=congrArg List.length h.1
 rw [List.length_append] at this
 have:=dec_len 19 n.natAbs (by omega)
 omega
theorem Left8.next {n kk:Int} {l:List UInt8} (h:Left8 n kk l) (hk:kk≠0) (kk':Int) (x:UInt8) (e1:kk'.natAbs=kk.natAbs / 10) (e2:x=UInt8.ofNat (48+kk.natAbs % 10)) (s1:kk' < 0→kk < 0) (s2:0 < kk'→0 < kk):Left8 n kk' (x :: l):=
 ⟨by rw [←h.1,ddn_step kk.natAbs (by omega),e1,e2];simp,fun k=>h.2.1 (s1 k),fun k=>h.2.2 (s2 k)⟩
theorem Left8.start (n:Int) (hn:(n == 0)=false):Left8 n n []:=by
 have:n≠0:=by simpa using hn
 exact⟨by unfold ddn;rw [if_neg (by omega),List.append_nil],id,id⟩
theorem Left8.done {n:Int} {l:List UInt8} (h:Left8 n 0 l):l=Lib.decDigits n.natAbs:=by
 have:=h.1
 simpa [ddn] using this
theorem refPrint_any (n:Int) (w:World) (h0: -9223372036854775808≤n) (h1:n≤9223372036854775807) (hn:(n == 0)=false):
  Calls Tryz.prog 85 #[.int .i64 n] w fun e w'=>e= .returned (.string ⟨(Lib.itoa n).toArray⟩)∧Below w.heap.size w w':=by
 have hcv:=conv_one
 go_enter Tryz.func85,Tryz.ntmps85
 go_wp2
 go_loopw [3,4] (fun o k wr=>∃(kk:Int) (l:List UInt8),k= .int .i64 kk∧o= .string ⟨l.toArray⟩∧ -9223372036854775808≤kk∧kk≤9223372036854775807∧Left8 n kk l∧Below w.heap.size w wr) (fun _ k _=>(intOf k).natAbs)
 case atStart=>exact⟨n,[],rfl,rfl,h0,h1,Left8.start n hn,Below.refl _ _⟩
 case round=>
  obtain⟨kk,l,rfl,rfl,hk0,hk1,HI,hb⟩:=hrel
  have hlen:=HI.len h0 h1
  rcases Int.lt_trichotomy kk 0 with hk | hk | hk
  ·have hne:(kk != 0)=true:=by rw [bne_iff_ne];omega
   obtain⟨tm,td⟩:=tmod_neg kk hk
   obtain⟨d,HD,hd,hm⟩:∃d:Nat,Hid (d=kk.natAbs % 10)∧d < 10∧kk.tmod 10= -(d:Int):=⟨kk.natAbs % 10,rfl,by omega,tm⟩
   obtain⟨q,HQ,hq,hdv⟩:∃q:Nat,Hid (q=kk.natAbs / 10)∧(q:Int)≤922337203685477580∧kk.tdiv 10= -(q:Int):=⟨kk.natAbs / 10,rfl,by omega,td⟩
   clear tm td
   have hend:∀x:UInt8,x=UInt8.ofNat (48+d)→Left8 n (-(q:Int)) (x :: l):=fun x hx=>HI.next (by omega) _ _ (by have:=HQ.out;omega) (by rw [hx,HD.out]) (fun _=>hk) (fun h=>by omega)
   have hms:(-(q:Int)).natAbs < kk.natAbs:=by have:=HQ.out;omega
   by_cases hd0:0 < d
   ·go_wp2
    exact⟨⟨_,_,rfl,congrArg Value.string (cat_one _ _),by omega,by omega,hend _ (by simp),hb.alloc hb.size _⟩,hms⟩
   ·go_wp2
    exact⟨⟨_,_,rfl,congrArg Value.string (cat_one _ _),by omega,by omega,hend _ (by congr 1;omega),hb.alloc hb.size _⟩,hms⟩
  ·subst hk
   have hne:((0:Int) != 0)=false:=rfl
   by_cases hs:n < 0
   ·go_wp2
    go_ret
    refine⟨?_,hb⟩
    rw [cat_one,HI.done,Lib.itoa,if_pos hs]
    rfl
   ·go_wp2
    go_ret
    refine⟨?_,hb⟩
    rw [HI.done,Lib.itoa,if_neg (by omega),show n.natAbs=n.toNat by omega]
    rfl
  ·have hne:(kk != 0)=true:=by rw [bne_iff_ne];omega
   have hnn:¬kk % 10 < 0:=by omega
   have hend:Left8 n (kk / 10) (UInt8.ofNat (48+kk % 10).toNat :: l):=HI.next (by omega) _ _ (by omega) (by congr 1;omega) (fun h=>by omega) (fun _=>hk)
   have hms:(kk / 10).natAbs < kk.natAbs:=by omega
   go_wp2
   exact⟨⟨_,_,rfl,congrArg Value.string (cat_one _ _),by omega,by omega,hend,hb.alloc hb.size _⟩,hms⟩
theorem refPrint_zero (w:World):Calls Tryz.prog 85 #[.int .i64 0] w fun e w'=>e= .returned (.string ⟨(Lib.itoa 0).toArray⟩)∧Below w.heap.size w w':=by
 go_enter Tryz.func85,Tryz.ntmps85
 go_wp2
 go_ret
 refine⟨?_,Below.refl _ _⟩
 rw [Lib.itoa,if_neg (by decide),show(0:Int).toNat=0 from rfl,dec_small (by decide)]
 rfl
theorem refPrint_all (n:Int) (w:World) (h0: -9223372036854775808≤n) (h1:n≤9223372036854775807):
  Calls Tryz.prog 85 #[.int .i64 n] w fun e w'=>e= .returned (.string ⟨(Lib.itoa n).toArray⟩)∧Below w.heap.size w w':=by
 by_cases hn:n=0
 ·subst hn;exact refPrint_zero w
 ·exact refPrint_any n w h0 h1 (by simpa using hn)
theorem ret_bool {a b:Bool} (h:a=b):Ending.returned (.bool a)= .returned (.bool b):=by rw [h]
theorem isNum_at (s:ByteArray) (h:0 < s.size):isNum s.data.toList=(s.data.toList.all isDig && (s[0] != 48 || s.size == 1)):=by
 unfold isNum
 rw [(empty_false s h).2,head_at s h,size_len]
 simp [bne]
theorem all_take_next (s:ByteArray) (k:Nat) (hk:k < s.size) (h:(s.data.toList.take k).all isDig=true) (h1:48≤(s[k].toNat:Int)) (h2:(s[k].toNat:Int)≤57):(s.data.toList.take (k+1)).all isDig=true:=by
 have hd:isDig s[k]=true:=(isDig_iff _).2 (by omega)
 rw [take_one_more s k hk,List.all_append,h];simp [hd]
theorem all_bad (s:ByteArray) (k:Nat) (hk:k < s.size) (hd:¬(48≤(s[k].toNat:Int)∧(s[k].toNat:Int)≤57)):s.data.toList.all isDig=false:=by
 have:=distR_bad (m:=0) s k hk hd
 unfold distR at this
 cases h:s.data.toList.all isDig with
 |false=>rfl
 |true=>
  rw [if_pos h] at this
  split at this <;> simp at this
theorem refDigits_any (s:ByteArray) (w:World) (hmax:s.size≤maxLen):
  Calls Tryz.prog 158 #[.string s] w fun e w'=>e= .returned (.bool (isNum s.data.toList))∧w'=w:=by
 unfold maxLen at hmax
 by_cases hp:s.size=0
 ·have he:=(empty_true s hp).1
  go_enter Tryz.func158,Tryz.ntmps158
  go_wp2
  go_ret
  exact⟨by rw [(empty_true s hp).2];rfl,rfl⟩
 ·have hp:0 < s.size:=by omega
  have he:=(empty_false s hp).1
  have HN:=hide (isNum_at s hp)
  by_cases hz:(s[0].toNat:Int)=48∧1 < s.size
  ·obtain⟨hz1,hz2⟩:=hz
   have HC:=hide ((toNat_eq_iff s[0] 48 (by decide)).1 (by omega))
   go_enter Tryz.func158,Tryz.ntmps158
   go_wp2
   go_ret
   refine⟨ret_bool ?_,rfl⟩
   rw [unhide HN,unhide HC,show(s.size == 1)=false by simp;omega]
   simp
  ·have HC:Hid ((s[0] != 48 || s.size == 1)=true):=by
    show _=true
    by_cases h1:s.size=1
    ·simp [h1]
    ·have h48:s[0]≠48:=fun h=>hz ⟨by rw [h];rfl,by omega⟩
     simp [h48]
   have hfin:∀b,s.data.toList.all isDig=b→isNum s.data.toList=b:=fun b hb=>by rw [unhide HN,hb,unhide HC];simp
   have HF:=hide hfin
   clear hfin
   by_cases h1:1 < s.size
   ·have hne:((s[0].toNat:Int) == 48)=false:=by
     rw [beq_eq_false_iff_ne];exact fun h=>hz ⟨h,h1⟩
    have hs1:decide (1 < (s.size:Int))=true:=by simp;omega
    clear hz
    go_enter Tryz.func158,Tryz.ntmps158
    go_wp2
    go_loop [3] (fun i=>∃k:Nat,k≤s.size∧i= .int .i64 k∧(s.data.toList.take k).all isDig=true) (fun i=>s.size - (intOf i).toNat)
    case atStart=>exact⟨0,Nat.zero_le _,rfl,rfl⟩
    case round=>
     obtain⟨k,hk,rfl,HI⟩:=hrel
     have HIh:=hide HI
     clear HI
     by_cases hlt:k < s.size
     ·by_cases hd:48≤(s[k].toNat:Int)∧(s[k].toNat:Int)≤57
      ·obtain⟨hd1,hd2⟩:=hd
       go_wp2
       exact⟨⟨k+1,by omega,by go_num,all_take_next s k hlt (unhide HIh) hd1 hd2⟩,by simp [intOf];omega⟩
      ·have HB:=hide (all_bad s k hlt hd)
       by_cases hd1:(s[k].toNat:Int) < 48
       ·go_wp2
        go_ret
        exact⟨ret_bool (unhide HF _ (unhide HB)).symm,rfl⟩
       ·have hd2:57 < (s[k].toNat:Int):=by omega
        go_wp2
        go_ret
        exact⟨ret_bool (unhide HF _ (unhide HB)).symm,rfl⟩
     ·have HA:=hide (show s.data.toList.all isDig=true by have:=unhide HIh;rwa [take_all s k hlt] at this)
      go_wp2
      go_ret
      exact⟨ret_bool (unhide HF _ (unhide HA)).symm,rfl⟩
   ·have hs1:decide (1 < (s.size:Int))=false:=by simp;omega
    clear hz
    go_enter Tryz.func158,Tryz.ntmps158
    go_wp2
    go_loop [3] (fun i=>∃k:Nat,k≤s.size∧i= .int .i64 k∧(s.data.toList.take k).all isDig=true) (fun i=>s.size - (intOf i).toNat)
    case atStart=>exact⟨0,Nat.zero_le _,rfl,rfl⟩
    case round=>
     obtain⟨k,hk,rfl,HI⟩:=hrel
     have HIh:=hide HI
     clear HI
     by_cases hlt:k < s.size
     ·by_cases hd:48≤(s[k].toNat:Int)∧(s[k].toNat:Int)≤57
      ·obtain⟨hd1,hd2⟩:=hd
       go_wp2
       exact⟨⟨k+1,by omega,by go_num,all_take_next s k hlt (unhide HIh) hd1 hd2⟩,by simp [intOf];omega⟩
      ·have HB:=hide (all_bad s k hlt hd)
       by_cases hd1:(s[k].toNat:Int) < 48
       ·go_wp2
        go_ret
        exact⟨ret_bool (unhide HF _ (unhide HB)).symm,rfl⟩
       ·have hd2:57 < (s[k].toNat:Int):=by omega
        go_wp2
        go_ret
        exact⟨ret_bool (unhide HF _ (unhide HB)).symm,rfl⟩
     ·have HA:=hide (show s.data.toList.all isDig=true by have:=unhide HIh;rwa [take_all s k hlt] at this)
      go_wp2
      go_ret
      exact⟨ret_bool (unhide HF _ (unhide HA)).symm,rfl⟩
theorem take_eq_next (s t:ByteArray) (k:Nat) (h1:k < s.size) (h2:k < t.size) (h:s.data.toList.take k=t.data.toList.take k) (e:(s[k].toNat:Int)=(t[k].toNat:Int)):s.data.toList.take (k+1)=t.data.toList.take (k+1):=by
 rw [take_one_more s k h1,take_one_more t k h2,h,UInt8.toNat_inj.1 (by omega:s[k].toNat=t[k].toNat)]
theorem above_at (s t:ByteArray) (hs:s.data.toList.all isDig=true) (ht:t.data.toList.all isDig=true) (hl:s.size=t.size) (k:Nat) (h1:k < s.size) (h2:k < t.size) (h:s.data.toList.take k=t.data.toList.take k) (hne:¬(s[k].toNat:Int)=(t[k].toNat:Int)):
  decide (t[k].toNat < s[k].toNat)=decide (worth t.data.toList < worth s.data.toList):=by
 have l1:k < s.data.toList.length:=by rw [size_len];exact h1
 have l2:k < t.data.toList.length:=by rw [size_len];exact h2
 have hl':s.data.toList.length=t.data.toList.length:=by rw [size_len,size_len];exact hl
 have es:s.data.toList[k]=s[k]:=rfl
 have et:t.data.toList[k]=t[k]:=rfl
 by_cases hlt:t[k].toNat < s[k].toNat
 ·have:=worth_first ht hs hl'.symm k l2 l1 h.symm (by rw [es,et];omega)
  simp [hlt,this]
 ·have:=worth_first hs ht hl' k l1 l2 h (by rw [es,et];omega)
  have h':¬worth t.data.toList < worth s.data.toList:=by omega
  simp only [hlt,h',decide_false]
theorem above_any (s t:ByteArray) (w:World) (hmax:s.size≤maxLen) (hl:s.size=t.size) (hs:s.data.toList.all isDig=true) (ht:t.data.toList.all isDig=true):
  Calls Tryz.prog 161 #[.string s,.string t] w fun e w'=>e= .returned (.bool (decide (worth t.data.toList < worth s.data.toList)))∧∃n,w'=w.drewN n:=by
 unfold maxLen at hmax
 have HA:=hide (above_at s t hs ht hl)
 clear hs ht
 go_enter Tryz.func161,Tryz.ntmps161
 go_wp2
 go_loopw [5] (fun i wr=>∃k:Nat,k≤s.size∧i= .int .i64 k∧s.data.toList.take k=t.data.toList.take k∧∃n,wr=w.drewN n) (fun i _=>s.size - (intOf i).toNat)
 case atStart=>exact⟨0,Nat.zero_le _,rfl,rfl,0,rfl⟩
 case round=>
  obtain⟨k,hk,rfl,HI,n,rfl⟩:=hrel
  have HIh:=hide HI
  clear HI
  by_cases hlt:k < s.size
  ·have hlt2:k < t.size:=by omega
   by_cases he:(s[k].toNat:Int)=(t[k].toNat:Int)
   ·have he':((s[k].toNat:Int) != (t[k].toNat:Int))=false:=by rw [he];simp
    have HE:=hide he
    clear he
    go_wp2
    go_quiet (fail)
    go_wp2
    exact⟨⟨k+1,by omega,by go_num,take_eq_next s t k hlt hlt2 (unhide HIh) (unhide HE),_,rfl⟩,by simp [intOf];omega⟩
   ·have he':((s[k].toNat:Int) != (t[k].toNat:Int))=true:=by rw [bne_iff_ne];exact he
    have HE:=hide he
    clear he
    go_wp2
    go_quiet (fail)
    go_wp2
    go_quiet (fail)
    go_wp2
    go_ret
    exact⟨ret_bool (unhide HA k hlt hlt2 (unhide HIh) (unhide HE)),_,by rw [World.drewN_drewN,World.drewN_drewN]⟩
  ·have HZ:Hid (decide (worth t.data.toList < worth s.data.toList)=false):=by
    have:=unhide HIh
    rw [take_all s k hlt,take_all t k (by omega)] at this
    show _=false
    rw [this];simp
   go_wp2
   go_ret
   exact⟨ret_bool (unhide HZ).symm,_,rfl⟩
theorem num_len (l:List UInt8) (h:isNum l=true):0 < l.length∧worth l < 10 ^ l.length∧(l.length=1∨10 ^ (l.length - 1)≤worth l):=by
 obtain⟨a,b,c⟩:=(isNum_iff l).1 h
 refine⟨?_,worth_lt l b,?_⟩
 ·cases l with
  |nil=>cases a
  |cons=>simp
 ·rcases c with c | c
  ·right
   cases l with
   |nil=>cases a
   |cons x r=>
    simp only [List.all_cons,Bool.and_eq_true] at b
    have:=worth_ge x r b.1 (by simpa using c)
    simpa using this
  ·exact .inl c
theorem num_short (s t:List UInt8) (hs:isNum s=true) (ht:isNum t=true) (h:s.length < t.length):worth s < worth t:=by
 have h1:=num_len s hs
 have h2:=num_len t ht
 have:10 ^ s.length≤10 ^ (t.length - 1):=Nat.pow_le_pow_right (by decide) (by omega)
 have:=h2.2.2
 omega
theorem fits_ne (s t:List UInt8) (hs:isNum s=true) (ht:isNum t=true) (h:s.length≠t.length):decide (s.length < t.length)=decide (worth s≤worth t):=by
 by_cases h1:s.length < t.length
 ·have:=num_short s t hs ht h1
  have h2:worth s≤worth t:=by omega
  simp only [h1,h2]
 ·have:=num_short t s ht hs (by omega)
  have h2:¬worth s≤worth t:=by omega
  simp only [h1,h2]
theorem fits_any (s t:ByteArray) (w:World) (hmax:s.size≤maxLen) (hs:isNum s.data.toList=true) (ht:isNum t.data.toList=true):
  Calls Tryz.prog 159 #[.string s,.string t] w fun e w'=>e= .returned (.bool (decide (worth s.data.toList≤worth t.data.toList)))∧∃n,w'=w.drewN n:=by
 by_cases hl:s.size=t.size
 ·have hcall:=above_any s t w hmax hl ((isNum_iff _).1 hs).2.1 ((isNum_iff _).1 ht).2.1
  have HC:=hide hcall
  clear hcall
  have hq:((s.size:Int) != (t.size:Int))=false:=by rw [hl];simp
  unfold maxLen at hmax
  have HL:=hide hl
  clear hl hs ht
  go_enter Tryz.func159,Tryz.ntmps159
  go_wp2_with fail
  refine(unhide HC).mono ?_
  rintro e w' ⟨rfl,n,rfl⟩
  go_wp2
  go_ret
  refine⟨ret_bool ?_,n,rfl⟩
  by_cases h:worth t.data.toList < worth s.data.toList
  ·have h2:¬worth s.data.toList≤worth t.data.toList:=by omega
   simp only [h,h2];rfl
  ·have h2:worth s.data.toList≤worth t.data.toList:=by omega
   simp only [h,h2];rfl
 ·have HF:=hide (fits_ne s.data.toList t.data.toList hs ht (by rw [size_len,size_len];exact hl))
  have hq:((s.size:Int) != (t.size:Int))=true:=by rw [bne_iff_ne];omega
  unfold maxLen at hmax
  clear hs ht
  go_enter Tryz.func159,Tryz.ntmps159
  go_wp2
  go_ret
  refine⟨ret_bool ?_,0,rfl⟩
  rw [←unhide HF,size_len,size_len]
theorem read_no (l:List UInt8) (h:isNum (restOf l)=false):readNum l=(0,3):=by
 unfold readNum
 rw [if_neg (by rw [h];simp)]
theorem read_minus0 (l:List UInt8) (hl:lowOf l=true) (h:restOf l= [48]):readNum l=(0,3):=by
 unfold readNum
 rw [if_neg (fun k=>k.2 ⟨hl,h⟩)]
theorem read_low (l:List UInt8) (hl:lowOf l=true) (hn:isNum (restOf l)=true) (hz:restOf l≠ [48]):
  readNum l=if worth (restOf l)≤9223372036854775808 then(-(worth (restOf l):Int),0)else(0,18):=by
 unfold readNum
 rw [if_pos ⟨hn,fun k=>hz k.2⟩,if_pos hl]
theorem read_high (l:List UInt8) (hl:lowOf l=false) (hn:isNum (restOf l)=true):
  readNum l=if worth (restOf l)≤9223372036854775807 then((worth (restOf l):Int),0)else(0,18):=by
 unfold readNum
 rw [if_pos ⟨hn,fun k=>by rw [hl] at k;cases k.1⟩,if_neg (by rw [hl];decide)]
theorem extract_tail (s:ByteArray):(s.extract 1 s.size).data.toList=s.data.toList.tail:=by
 rw [Lib.extract_data,List.drop_one,List.take_of_length_le (by simp)]
theorem low_at (s:ByteArray) (h:0 < s.size):lowOf s.data.toList=decide ((s[0].toNat:Int)=45):=by
 unfold lowOf
 rw [head_at s h]
 by_cases e:s[0]=45
 ·rw [e];rfl
 ·have:¬((s[0].toNat:Int)=45):=fun k=>e ((toNat_eq_iff s[0] 45 (by decide)).1 (by omega))
  simp only [this,decide_false]
  rw [beq_eq_false_iff_ne];simpa using e
theorem most8:worth (⟨#[57,50,50,51,51,55,50,48,51,54,56,53,52,55,55,53,56,48,56]⟩:ByteArray).data.toList=9223372036854775808:=by decide +kernel
theorem most7:worth (⟨#[57,50,50,51,51,55,50,48,51,54,56,53,52,55,55,53,56,48,55]⟩:ByteArray).data.toList=9223372036854775807:=by decide +kernel
theorem isn8:isNum (⟨#[57,50,50,51,51,55,50,48,51,54,56,53,52,55,55,53,56,48,56]⟩:ByteArray).data.toList=true:=by decide +kernel
theorem isn7:isNum (⟨#[57,50,50,51,51,55,50,48,51,54,56,53,52,55,55,53,56,48,55]⟩:ByteArray).data.toList=true:=by decide +kernel
theorem digit_more (t:ByteArray) (k:Nat) (hk:k < t.size) (hn:isNum t.data.toList=true):48≤t[k].toNat∧t[k].toNat≤57∧worth (t.data.toList.take (k+1))=worth (t.data.toList.take k) * 10+(t[k].toNat - 48)∧worth (t.data.toList.take (k+1))≤worth t.data.toList:=by
 have hd:=(isDig_iff t[k]).1 (List.all_eq_true.1 ((isNum_iff _).1 hn).2.1 t[k] (by
  have:t.data.toList[k]? =some t[k]:=by rw [List.getElem?_eq_getElem (by simpa using hk)];rfl
  exact List.mem_of_getElem? this))
 exact⟨hd.1,hd.2,by rw [take_one_more t k hk,worth_snoc],worth_take_le _ _⟩
theorem refParse_low (s:ByteArray) (w:World) (hmax:s.size≤maxLen) (hp:0 < s.size) (hc:(s[0].toNat:Int)=45):
  Calls Tryz.prog 152 #[.string s] w fun e w'=>e= .returned (.tuple #[.int .i64 (readNum s.data.toList).1,.int .i64 (readNum s.data.toList).2])∧∃n,w'=w.drewN n:=by
 have hlow:lowOf s.data.toList=true:=by rw [low_at s hp];simpa using hc
 have hrest:restOf s.data.toList=(s.extract 1 s.size).data.toList:=by unfold restOf;rw [if_pos hlow,extract_tail]
 have htz:(s.extract 1 s.size).size≤maxLen:=by rw [←size_len,extract_tail,List.length_tail,size_len];omega
 have R1:=read_no s.data.toList
 have R2:=read_minus0 s.data.toList hlow
 have R3:=read_low s.data.toList hlow
 rw [hrest] at R1 R2 R3
 have Q1:=hide R1
 have Q2:=hide R2
 have Q3:=hide R3
 clear R1 R2 R3 hrest hlow
 unfold maxLen at hmax
 have he:=(empty_false s hp).1
 go_enter Tryz.func152,Tryz.ntmps152
 go_wp2_with fail
 generalize s.extract 1 s.size=t at *
 refine(refDigits_any t _ htz).mono ?_
 rintro e w2 ⟨rfl,rfl⟩
 cases hn:isNum t.data.toList with
 |false=>
  have HE:=hide (unhide Q1 hn)
  clear hn
  go_wp2
  go_ret2
  refine⟨?_,0,rfl⟩
  rw [unhide HE];rfl
 |true=>
  by_cases hz:t.data.toList= [48]
  ·have hz':(t.toList == [48])=true:=by rw [ByteArray.toList_eq,hz];rfl
   have HE:=hide (unhide Q2 hz)
   clear hn hz
   go_wp2
   go_ret2
   refine⟨?_,0,rfl⟩
   rw [unhide HE];rfl
  ·have hz':(t.toList == [48])=false:=by rw [ByteArray.toList_eq,beq_eq_false_iff_ne];exact hz
   have HE:=hide (unhide Q3 hn hz)
   have HN:=hide hn
   clear hn hz
   go_wp2_with fail
   refine(fits_any t _ _ htz (unhide HN) isn8).mono ?_
   rintro e w3 ⟨rfl,n3,rfl⟩
   rw [most8]
   by_cases hw:worth t.data.toList≤9223372036854775808
   ·have hE:=unhide HE
    rw [if_pos hw] at hE
    have HE2:=hide hE
    have HW:=hide hw
    rw [show decide (worth t.data.toList≤9223372036854775808)=true by simpa using hw]
    clear hE hw HE Q1 Q2 Q3
    have htz':=htz
    unfold maxLen at htz'
    go_wp2
    go_loop [6,7] (fun n i=>∃(k:Nat) (nn:Int),k≤t.size∧i= .int .i64 k∧n= .int .i64 nn∧Hid (nn= -(worth (t.data.toList.take k):Int))) (fun _ i=>t.size - (intOf i).toNat)
    case atStart=>exact⟨0,0,Nat.zero_le _,rfl,rfl,rfl⟩
    case round=>
     obtain⟨k,nn,hk,rfl,rfl,HI⟩:=hrel
     by_cases hlt:k < t.size
     ·obtain⟨g1,g2,g3,g4⟩:=digit_more t k hlt (unhide HN)
      have hb1: -9223372036854775808≤nn * 10 - ((t[k].toNat:Int) - 48):=by have:=unhide HI;have:=unhide HW;omega
      have hb2:nn≤0:=by have:=unhide HI;omega
      have G:=hide (show nn * 10 - ((t[k].toNat:Int) - 48)= -(worth (t.data.toList.take (k+1)):Int) by have:=unhide HI;omega)
      have g1':48≤(t[k].toNat:Int):=by omega
      have g2':(t[k].toNat:Int)≤57:=by omega
      clear g1 g2 g3 g4
      go_wp2
      exact⟨⟨k+1,_,by omega,by go_num,rfl,hide (unhide G)⟩,by simp [intOf];omega⟩
     ·have HA:=hide (show nn= -(worth t.data.toList:Int) by have:=unhide HI;rwa [take_all t k hlt] at this)
      go_wp2
      go_ret2
      exact⟨ret_two (by rw [unhide HE2];exact unhide HA) (by rw [unhide HE2]),n3,rfl⟩
   ·have hE:=unhide HE
    rw [if_neg hw] at hE
    have HE2:=hide hE
    rw [show decide (worth t.data.toList≤9223372036854775808)=false by simpa using hw]
    clear hE hw HE Q1 Q2 Q3
    go_wp2
    go_ret2
    refine⟨?_,n3,rfl⟩
    rw [unhide HE2];rfl
theorem refParse_high (t:ByteArray) (w:World) (hmax:t.size≤maxLen) (hp:0 < t.size) (hc:((t[0].toNat:Int) == 45)=false):
  Calls Tryz.prog 152 #[.string t] w fun e w'=>e= .returned (.tuple #[.int .i64 (readNum t.data.toList).1,.int .i64 (readNum t.data.toList).2])∧∃n,w'=w.drewN n:=by
 have hlow:lowOf t.data.toList=false:=by rw [low_at t hp];simpa using hc
 have hrest:restOf t.data.toList=t.data.toList:=by unfold restOf;rw [if_neg (by rw [hlow];decide)]
 have R1:=read_no t.data.toList
 have R3:=read_high t.data.toList hlow
 rw [hrest] at R1 R3
 have Q1:=hide R1
 have Q3:=hide R3
 clear R1 R3 hrest hlow
 have htz:=hmax
 unfold maxLen at hmax
 have he:=(empty_false t hp).1
 go_enter Tryz.func152,Tryz.ntmps152
 go_wp2_with fail
 refine(refDigits_any t _ htz).mono ?_
 rintro e w2 ⟨rfl,rfl⟩
 cases hn:isNum t.data.toList with
 |false=>
  have HE:=hide (unhide Q1 hn)
  clear hn
  go_wp2
  go_ret2
  refine⟨?_,0,rfl⟩
  rw [unhide HE];rfl
 |true=>
   have HE:=hide (unhide Q3 hn)
   have HN:=hide hn
   clear hn
   go_wp2_with fail
   refine(fits_any t _ _ htz (unhide HN) isn7).mono ?_
   rintro e w3 ⟨rfl,n3,rfl⟩
   rw [most7]
   by_cases hw:worth t.data.toList≤9223372036854775807
   ·have hE:=unhide HE
    rw [if_pos hw] at hE
    have HE2:=hide hE
    have HW:=hide hw
    rw [show decide (worth t.data.toList≤9223372036854775807)=true by simpa using hw]
    clear hE hw HE Q1 Q3
    go_wp2
    go_loop [6,7] (fun n i=>∃(k:Nat) (nn:Int),k≤t.size∧i= .int .i64 k∧n= .int .i64 nn∧Hid (nn=(worth (t.data.toList.take k):Int))) (fun _ i=>t.size - (intOf i).toNat)
    case atStart=>exact⟨0,0,Nat.zero_le _,rfl,rfl,rfl⟩
    case round=>
     obtain⟨k,nn,hk,rfl,rfl,HI⟩:=hrel
     by_cases hlt:k < t.size
     ·obtain⟨g1,g2,g3,g4⟩:=digit_more t k hlt (unhide HN)
      have hb1:nn * 10+((t[k].toNat:Int) - 48)≤9223372036854775807:=by have:=unhide HI;have:=unhide HW;omega
      have hb2:0≤nn:=by have:=unhide HI;omega
      have G:=hide (show nn * 10+((t[k].toNat:Int) - 48)=(worth (t.data.toList.take (k+1)):Int) by have:=unhide HI;omega)
      have g1':48≤(t[k].toNat:Int):=by omega
      have g2':(t[k].toNat:Int)≤57:=by omega
      clear g1 g2 g3 g4
      go_wp2
      exact⟨⟨k+1,_,by omega,by go_num,rfl,hide (unhide G)⟩,by simp [intOf];omega⟩
     ·have HA:=hide (show nn=(worth t.data.toList:Int) by have:=unhide HI;rwa [take_all t k hlt] at this)
      go_wp2
      go_ret2
      exact⟨ret_two (by rw [unhide HE2];exact unhide HA) (by rw [unhide HE2]),n3,rfl⟩
   ·have hE:=unhide HE
    rw [if_neg hw] at hE
    have HE2:=hide hE
    rw [show decide (worth t.data.toList≤9223372036854775807)=false by simpa using hw]
    clear hE hw HE Q1 Q3
    go_wp2
    go_ret2
    refine⟨?_,n3,rfl⟩
    rw [unhide HE2];rfl
theorem refParse_empty (t:ByteArray) (w:World) (hp:t.size=0):
  Calls Tryz.prog 152 #[.string t] w fun e w'=>e= .returned (.tuple #[.int .i64 (readNum t.data.toList).1,.int .i64 (readNum t.data.toList).2])∧∃n,w'=w.drewN n:=by
 have he:=(empty_true t hp).1
 have hnil:=(empty_true t hp).2
 have HE:=hide (show readNum t.data.toList=(0,3) by rw [hnil];rfl)
 have HN:=hide (show isNum t.data.toList=false by rw [hnil];rfl)
 clear hnil
 go_enter Tryz.func152,Tryz.ntmps152
 go_wp2_with fail
 refine(refDigits_any t _ (by rw [hp];exact Nat.zero_le _)).mono ?_
 rintro e w2 ⟨rfl,rfl⟩
 rw [unhide HN]
 go_wp2
 go_ret2
 refine⟨?_,0,rfl⟩
 rw [unhide HE];rfl
theorem refParse_any (s:ByteArray) (w:World) (hmax:s.size≤maxLen):
  Calls Tryz.prog 152 #[.string s] w fun e w'=>e= .returned (.tuple #[.int .i64 (readNum s.data.toList).1,.int .i64 (readNum s.data.toList).2])∧∃n,w'=w.drewN n:=by
 by_cases hp:s.size=0
 ·exact refParse_empty s w hp
 ·by_cases hc:(s[0]'(by omega) |>.toNat:Int)=45
  ·exact refParse_low s w hmax (by omega) hc
  ·exact refParse_high s w hmax (by omega) (by simpa using hc)
theorem refIndex_any (s:ByteArray) (m:Int) (w:World) (hmax:s.size≤maxLen):
  Calls Tryz.prog 149 #[.string s,.int .i64 m] w fun e w'=>e= .returned (.tuple #[.int .i64 (indexNum s.data.toList m).1,.int .i64 (indexNum s.data.toList m).2])∧∃n,w'=w.drewN n:=by
 have H1:=hide (indexNum_bad s.data.toList m)
 have H2:=hide (indexNum_out s.data.toList m)
 have H3:=hide (indexNum_in s.data.toList m)
 have hr:=readNum_range s.data.toList
 go_enter Tryz.func149,Tryz.ntmps149
 go_wp2_with fail
 refine(refParse_any s _ hmax).mono ?_
 rintro e w2 ⟨rfl,n2,rfl⟩
 generalize (readNum s.data.toList).1=n at *
 generalize (readNum s.data.toList).2=c at *
 by_cases hc:c=0
 ·have hc':(c != 0)=false:=by rw [hc];rfl
  by_cases h1:n < 0
  ·have HE:=hide (unhide H2 hc (.inl h1))
   clear hc
   go_wp2
   go_ret2
   refine⟨?_,n2,rfl⟩
   rw [unhide HE];rfl
  ·by_cases h2:m < n
   ·have HE:=hide (unhide H2 hc (.inr h2))
    clear hc
    go_wp2
    go_ret2
    refine⟨?_,n2,rfl⟩
    rw [unhide HE];rfl
   ·have HE:=hide (unhide H3 hc (by omega))
    clear hc
    go_wp2
    go_ret2
    refine⟨?_,n2,rfl⟩
    rw [unhide HE];rfl
 ·have hc':(c != 0)=true:=by rw [bne_iff_ne];exact hc
  have HE:=hide (unhide H1 hc)
  go_wp2
  go_ret2
  refine⟨?_,n2,rfl⟩
  rw [unhide HE];rfl
end Go.Proofs.YtljkgcfnoegibaaGreatDoor.L1
