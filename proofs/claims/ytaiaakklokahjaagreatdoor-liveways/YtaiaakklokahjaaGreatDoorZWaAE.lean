/- Texts of one chain, joined. -/
import Derived.Test.YtaiaakklokahjaaGreatDoorZWaAA
import Derived.Test.YtaiaakklokahjaaGreatDoorZWaAB
import Derived.Test.YtaiaakklokahjaaGreatDoorZWaAC
import Derived.Lib.ItoaNum
import Derived.Lib.Strings
import Derived.Laws.BytesArg
import Derived.Laws.AppendOwnNone
import Derived.Deep.RegionHeld3
import Derived.Deep.AppendLies
import Derived.Deep.RegionWith
set_option maxHeartbeats 400000
set_option maxRecDepth 20000
namespace Go.Proofs.YtaiaakklokahjaaGreatDoor.L1
open Go.Lib (decDigits itoa)
open Go.RowKit
theorem pt:∀(l:List UInt8),l.all cJ=true→worth l < 10 ^ l.length
 |[],_=>by simp [worth]
 |c :: l,h=>by
  simp only [List.all_cons,Bool.and_eq_true] at h;have h1:=(eu c).1 h.1;have ih:=pt l h.2;have e:worth (c :: l)=(c.toNat - 48) * 10 ^ l.length+worth l:=by
   have:=dQ [c] l;rwa [j7] at this
  rw [e,List.length_cons,Nat.pow_succ];have:(c.toNat - 48) * 10 ^ l.length≤9 * 10 ^ l.length:=Nat.mul_le_mul_right _ (by omega);omega
theorem uf (c:UInt8) (l:List UInt8) (h:cJ c=true) (h0:c≠48):10 ^ l.length≤worth (c :: l):=by
 have h1:=(eu c).1 h;have e:worth (c :: l)=(c.toNat - 48) * 10 ^ l.length+worth l:=by
  have:=dQ [c] l;rwa [j7] at this
 have h2:c.toNat≠48:=fun e=>h0 (UInt8.toNat_inj.1 (by rw [e];rfl));have:1 * 10 ^ l.length≤(c.toNat - 48) * 10 ^ l.length:=Nat.mul_le_mul_right _ (by omega);omega
theorem fR {u:Nat} (h:u < 10):decDigits u= [UInt8.ofNat (48+u)]:=by rw [decDigits,dif_pos h]
theorem rq {u:Nat} (h:¬u < 10):decDigits u=decDigits (u / 10) ++ [UInt8.ofNat (48+u % 10)]:=by rw [decDigits,dif_neg h]
theorem wO (l:List UInt8) (h:l≠ []):∃a c,l=a ++ [c]:=⟨l.dropLast,l.getLast h,(List.dropLast_concat_getLast h).symm⟩
theorem pS (n:Nat):∀(l:List UInt8),l.length=n→isNum l=true→decDigits (worth l)=l:=by
 induction n using Nat.strongRecOn with
 |_ n IH=>
  intro l hn h;have hs:l.isEmpty=false∧l.all cJ=true∧(l.head? ≠some 48∨l.length=1):=by
   simp only [isNum,Bool.and_eq_true,Bool.or_eq_true,bne_iff_ne,beq_iff_eq,Bool.not_eq_true'] at h;exact⟨h.1.1,h.1.2,h.2⟩
  obtain⟨h1,h2,h3⟩:=hs;have hne:l≠ []:=by rintro rfl;simp at h1
  obtain⟨a,c,rfl⟩:=wO l hne;rw [List.all_append,Bool.and_eq_true] at h2;have hc:cJ c=true:=by simpa using h2.2
  have hc':=(eu c).1 hc;have ec:UInt8.ofNat (48+(c.toNat - 48))=c:=by
   rw [show 48+(c.toNat - 48)=c.toNat by omega];simp
  cases ha:a with
  |nil=>
   rw [List.nil_append,j7,fR (by omega),ec]
  |cons b r=>
   rw [←ha];have hlen:a.length+1=n:=(by simpa using hn);have ha0:a.length≠0:=(by rw [ha];simp);have hhead:a.head? ≠some 48:=by
    rcases h3 with h3 | h3
    ·rw [List.head?_append] at h3;rw [ha] at h3 ⊢;simpa using h3
    ·exact absurd h3 (by simp [ha])
   have hb:cJ b=true:=by
    have:=h2.1;rw [ha] at this;simp only [List.all_cons,Bool.and_eq_true] at this;exact this.1
   have hge:=uf b r hb (by rw [ha] at hhead;simpa using hhead);rw [←ha] at hge;have hpos:1≤worth a:=Nat.le_trans (Nat.one_le_pow _ _ (by decide)) hge;have ih:=IH a.length (by omega) a rfl (by
    simp only [isNum,Bool.and_eq_true,Bool.or_eq_true,bne_iff_ne,beq_iff_eq,Bool.not_eq_true'];exact⟨⟨by rw [ha];rfl,h2.1⟩,.inl hhead⟩)
   rw [iS,rq (by omega),show(worth a * 10+(c.toNat - 48)) / 10=worth a by omega,ih,
    show(worth a * 10+(c.toNat - 48)) % 10=c.toNat - 48 by omega,ec]
theorem qD (l:List UInt8) (h:isNum l=true):decDigits (worth l)=l:=pS l.length l rfl h
theorem zK (l:List UInt8) (h:(aK l).2=0):itoa (aK l).1=l:=by
 unfold aK at h ⊢;split at h
 case isFalse=>simp at h
 case isTrue hc=>
  obtain⟨hn,hz⟩:=hc;rw [if_pos ⟨hn,hz⟩];split at h
  case isTrue hl=>
   rw [if_pos hl];split at h
   case isFalse=>simp at h
   case isTrue hw=>
    rw [if_pos hw];have hr:bF l=l.tail:=(by unfold bF;rw [if_pos hl]);have hd:=qD _ hn;have hpos:0 < worth (bF l):=by
     rcases Nat.eq_zero_or_pos (worth (bF l))with e | e
     ·rw [e,fR (by decide)] at hd;exact absurd ⟨hl,hd.symm⟩ hz
     ·exact e
    have hlt:(- (worth (bF l):Int)) < 0:=(by omega);show itoa (- (worth (bF l):Int))=l;rw [itoa,if_pos hlt,show(- (worth (bF l):Int)).natAbs=worth (bF l) by omega,hd,hr];unfold ju at hl
    cases l with
    |nil=>simp at hl
    |cons c r=>simp at hl;subst hl;rfl
  case isFalse hl=>
   rw [if_neg hl];split at h
   case isFalse=>simp at h
   case isTrue hw=>
    rw [if_pos hw];have hr:bF l=l:=(by unfold bF;rw [if_neg hl]);show itoa ((worth (bF l):Int))=l;rw [itoa,if_neg (by omega),Int.toNat_natCast,qD _ hn,hr]
theorem nu {s t:List UInt8} (hs:s.all cJ=true) (ht:t.all cJ=true) (hl:s.length=t.length) (i:Nat) (hi:i < s.length) (hi':i < t.length)
  (hp:s.take i=t.take i) (hlt:s[i].toNat < t[i].toNat):worth s < worth t:=by
 have es:s=s.take i ++ s[i] :: s.drop (i+1):=by rw [←List.drop_eq_getElem_cons hi,List.take_append_drop]
 have et:t=t.take i ++ t[i] :: t.drop (i+1):=by rw [←List.drop_eq_getElem_cons hi',List.take_append_drop]
 have ks:worth s=(worth (t.take i) * 10+(s[i].toNat - 48)) * 10 ^ (s.length - (i+1))+worth (s.drop (i+1)):=by
  conv=>lhs;rw [es,←List.singleton_append,←List.append_assoc,dQ,iS,hp]
  simp
 have kt:worth t=(worth (t.take i) * 10+(t[i].toNat - 48)) * 10 ^ (s.length - (i+1))+worth (t.drop (i+1)):=by
  conv=>lhs;rw [et,←List.singleton_append,←List.append_assoc,dQ,iS]
  simp [hl]
 have dgs:∀j (h:j < s.length),48≤s[j].toNat:=fun j h=>((eu _).1 (List.all_eq_true.1 hs _ (List.getElem_mem h))).1;have dgt:∀j (h:j < t.length),48≤t[j].toNat:=fun j h=>((eu _).1 (List.all_eq_true.1 ht _ (List.getElem_mem h))).1;have hd:worth (s.drop (i+1)) < 10 ^ (s.length - (i+1)):=by
  have:=pt (s.drop (i+1)) (List.all_eq_true.2 fun c hc=>List.all_eq_true.1 hs c (List.mem_of_mem_drop hc));simpa using this
 have h1:=dgs i hi;have h2:=dgt i hi';have hm:(worth (t.take i) * 10+(s[i].toNat - 48)+1) * 10 ^ (s.length - (i+1))≤(worth (t.take i) * 10+(t[i].toNat - 48)) * 10 ^ (s.length - (i+1)):=Nat.mul_le_mul_right _ (by omega);rw [Nat.add_mul,Nat.one_mul] at hm;omega
theorem pL (l:List UInt8) (k:Nat):worth (l.take k)≤worth l:=by
 have:worth l=worth (l.take k) * 10 ^ (l.drop k).length+worth (l.drop k):=by rw [←dQ,List.take_append_drop]
 have hp:1≤10 ^ (l.drop k).length:=Nat.one_le_pow _ _ (by decide);have:=Nat.mul_le_mul_left (worth (l.take k)) hp;omega
def ddn (u:Nat):List UInt8:=if u=0 then [] else Lib.decDigits u
theorem El (u:Nat) (h:u≠0):ddn u=ddn (u / 10) ++ [UInt8.ofNat (48+u % 10)]:=by
 unfold ddn;rw [if_neg h];by_cases h1:u < 10
 ·rw [fR h1,if_pos (by omega),Nat.mod_eq_of_lt h1];rfl
 ·rw [rq h1,if_neg (by omega)]
theorem za:∀(k u:Nat),u < 10 ^ (k+1)→(Lib.decDigits u).length≤k+1
 |0,u,h=>by rw [fR (by simpa using h)];simp
 |k+1,u,h=>by
  by_cases h1:u < 10
  ·rw [fR h1];simp
  ·rw [rq h1,List.length_append];have:=za k (u / 10) (by rw [Nat.pow_succ] at h;omega);simpa using this
theorem Cm (W:World) (x:Int):(convert 25 9 (.slice (some ⟨W.heap.size,0,none⟩) 1 1)).run Tryz.prog (W.alloc (.cells #[.int .u8 x] 5))= .ok (.string ⟨#[UInt8.ofNat x.toNat]⟩) (W.alloc (.cells #[.int .u8 x] 5)):=
 run_convert_bytes_arg _ 25 5 Tryz.underlying25 Tryz.underlying5 _ 0 1 1 [x] rfl (fun i hi=>by
  obtain rfl:i=0:=by omega
  simp) 9 Tryz.underlying9
theorem nL (x:UInt8) (l:List UInt8):(⟨#[x]⟩:ByteArray) ++ ⟨l.toArray⟩=⟨(x :: l).toArray⟩:=by
 apply ByteArray.ext;simp
theorem tmod_neg (kk:Int) (h:kk < 0):kk.tmod 10= -((kk.natAbs % 10:Nat):Int)∧kk.tdiv 10= -((kk.natAbs / 10:Nat):Int):=by
 obtain⟨m,rfl⟩:∃m:Nat,kk= -(m:Int):=⟨kk.natAbs,by omega⟩;rw [Int.neg_tmod,Int.neg_tdiv,Int.natAbs_neg,Int.natAbs_natCast];exact⟨by rfl,by rfl⟩
def im (n kk:Int) (l:List UInt8):Prop:=ddn kk.natAbs ++ l=Lib.decDigits n.natAbs∧(kk < 0→n < 0)∧(0 < kk→0 < n)
theorem im.len {n kk:Int} {l:List UInt8} (h:im n kk l) (h0: -9223372036854775808≤n) (h1:n≤9223372036854775807):l.length≤20:=by
 have:=congrArg List.length h.1;rw [List.length_append] at this;have:=za 19 n.natAbs (by omega);omega
theorem im.next {n kk:Int} {l:List UInt8} (h:im n kk l) (hk:kk≠0) (kk':Int) (x:UInt8) (e1:kk'.natAbs=kk.natAbs / 10) (e2:x=UInt8.ofNat (48+kk.natAbs % 10)) (s1:kk' < 0→kk < 0) (s2:0 < kk'→0 < kk):im n kk' (x :: l):=
 ⟨by rw [←h.1,El kk.natAbs (by omega),e1,e2];simp,fun k=>h.2.1 (s1 k),fun k=>h.2.2 (s2 k)⟩
theorem im.start (n:Int) (hn:(n == 0)=false):im n n []:=by
 have:n≠0:=by simpa using hn
 exact⟨by unfold ddn;rw [if_neg (by omega),List.append_nil],id,id⟩
theorem im.done {n:Int} {l:List UInt8} (h:im n 0 l):l=Lib.decDigits n.natAbs:=by
 have:=h.1;simpa [ddn] using this
theorem rY (n:Int) (w:World) (h0: -9223372036854775808≤n) (h1:n≤9223372036854775807) (hn:(n == 0)=false):
  Calls Tryz.prog 171 #[.int .i64 n] w fun e w'=>e= .returned (.string ⟨(Lib.itoa n).toArray⟩)∧Below w.heap.size w w':=by
 have hcv:=Cm;go_enter Tryz.func171,Tryz.ntmps171
 go_wp2
 go_loopw [3,4] (fun o k wr=>∃(kk:Int) (l:List UInt8),k= .int .i64 kk∧o= .string ⟨l.toArray⟩∧ -9223372036854775808≤kk∧kk≤9223372036854775807∧im n kk l∧Below w.heap.size w wr) (fun _ k _=>(intOf k).natAbs)
 case atStart=>exact⟨n,[],rfl,rfl,h0,h1,im.start n hn,Below.refl _ _⟩
 case round=>
  obtain⟨kk,l,rfl,rfl,hk0,hk1,HI,hb⟩:=hrel;have hlen:=HI.len h0 h1;rcases Int.lt_trichotomy kk 0 with hk | hk | hk
  ·have hne:(kk != 0)=true:=(by rw [bne_iff_ne];omega);obtain⟨tm,td⟩:=tmod_neg kk hk;obtain⟨d,HD,hd,hm⟩:∃d:Nat,Hid (d=kk.natAbs % 10)∧d < 10∧kk.tmod 10= -(d:Int):=⟨kk.natAbs % 10,rfl,by omega,tm⟩;obtain⟨q,HQ,hq,hdv⟩:∃q:Nat,Hid (q=kk.natAbs / 10)∧(q:Int)≤922337203685477580∧kk.tdiv 10= -(q:Int):=⟨kk.natAbs / 10,rfl,by omega,td⟩;clear tm td;have hend:∀x:UInt8,x=UInt8.ofNat (48+d)→im n (-(q:Int)) (x :: l):=fun x hx=>HI.next (by omega) _ _ (by have:=HQ.out;omega) (by rw [hx,HD.out]) (fun _=>hk) (fun h=>by omega);have hms:(-(q:Int)).natAbs < kk.natAbs:=(by have:=HQ.out;omega);by_cases hd0:0 < d
   ·go_wp2
    exact⟨⟨_,_,rfl,congrArg Value.string (nL _ _),by omega,by omega,hend _ (by simp),hb.alloc hb.size _⟩,hms⟩
   ·go_wp2
    exact⟨⟨_,_,rfl,congrArg Value.string (nL _ _),by omega,by omega,hend _ (by congr 1;omega),hb.alloc hb.size _⟩,hms⟩
  ·subst hk;have hne:((0:Int) != 0)=false:=rfl;by_cases hs:n < 0
   ·go_wp2
    go_ret;refine⟨?_,hb⟩;rw [nL,HI.done,Lib.itoa,if_pos hs];rfl
   ·go_wp2
    go_ret;refine⟨?_,hb⟩;rw [HI.done,Lib.itoa,if_neg (by omega),show n.natAbs=n.toNat by omega];rfl
  ·have hne:(kk != 0)=true:=(by rw [bne_iff_ne];omega);have hnn:¬kk % 10 < 0:=(by omega);have hend:im n (kk / 10) (UInt8.ofNat (48+kk % 10).toNat :: l):=HI.next (by omega) _ _ (by omega) (by congr 1;omega) (fun h=>by omega) (fun _=>hk);have hms:(kk / 10).natAbs < kk.natAbs:=(by omega);go_wp2
   exact⟨⟨_,_,rfl,congrArg Value.string (nL _ _),by omega,by omega,hend,hb.alloc hb.size _⟩,hms⟩
theorem pV (w:World):Calls Tryz.prog 171 #[.int .i64 0] w fun e w'=>e= .returned (.string ⟨(Lib.itoa 0).toArray⟩)∧Below w.heap.size w w':=by
 go_enter Tryz.func171,Tryz.ntmps171
 go_wp2
 go_ret;refine⟨?_,Below.refl _ _⟩;rw [Lib.itoa,if_neg (by decide),show(0:Int).toNat=0 from rfl,fR (by decide)];rfl
theorem rG (n:Int) (w:World) (h0: -9223372036854775808≤n) (h1:n≤9223372036854775807):
  Calls Tryz.prog 171 #[.int .i64 n] w fun e w'=>e= .returned (.string ⟨(Lib.itoa n).toArray⟩)∧Below w.heap.size w w':=by
 by_cases hn:n=0
 ·subst hn;exact pV w
 ·exact rY n w h0 h1 (by simpa using hn)
theorem aw {a b:Bool} (h:a=b):Ending.returned (.bool a)= .returned (.bool b):=by rw [h]
theorem Fb (s:ByteArray) (h:0 < s.size):isNum s.data.toList=(s.data.toList.all cJ && (s[0] != 48 || s.size == 1)):=by
 unfold isNum;rw [(cC s h).2,zd s h,bm];simp [bne]
theorem kx (s:ByteArray) (k:Nat) (hk:k < s.size) (h:(s.data.toList.take k).all cJ=true) (h1:48≤(s[k].toNat:Int)) (h2:(s[k].toNat:Int)≤57):(s.data.toList.take (k+1)).all cJ=true:=by
 have hd:cJ s[k]=true:=(eu _).2 (by omega);rw [eZ s k hk,List.all_append,h];simp [hd]
theorem yA (s:ByteArray) (k:Nat) (hk:k < s.size) (hd:¬(48≤(s[k].toNat:Int)∧(s[k].toNat:Int)≤57)):s.data.toList.all cJ=false:=by
 have:=AM (m:=0) s k hk hd;unfold Dl at this
 cases h:s.data.toList.all cJ with
 |false=>rfl
 |true=>
  rw [if_pos h] at this;split at this <;> simp at this
theorem gU (s:ByteArray) (w:World) (hmax:s.size≤maxLen):
  Calls Tryz.prog 196 #[.string s] w fun e w'=>e= .returned (.bool (isNum s.data.toList))∧w'=w:=by
 unfold maxLen at hmax;by_cases hp:s.size=0
 ·have he:=(dF s hp).1;go_enter Tryz.func196,Tryz.ntmps196
  go_wp2
  go_ret;exact⟨by rw [(dF s hp).2];rfl,rfl⟩
 ·have hp:0 < s.size:=by omega
  have he:=(cC s hp).1;have HN:=aa (Fb s hp);by_cases hz:(s[0].toNat:Int)=48∧1 < s.size
  ·obtain⟨hz1,hz2⟩:=hz;have HC:=aa ((dL s[0] 48 (by decide)).1 (by omega));go_enter Tryz.func196,Tryz.ntmps196
   go_wp2
   go_ret;refine⟨aw ?_,rfl⟩;rw [aA HN,aA HC,show(s.size == 1)=false by simp;omega];simp
  ·have HC:Hid ((s[0] != 48 || s.size == 1)=true):=by
    show _=true;by_cases h1:s.size=1
    ·simp [h1]
    ·have h48:s[0]≠48:=fun h=>hz ⟨by rw [h];rfl,by omega⟩;simp [h48]
   have hfin:∀b,s.data.toList.all cJ=b→isNum s.data.toList=b:=fun b hb=>by rw [aA HN,hb,aA HC];simp
   have HF:=aa hfin;clear hfin;by_cases h1:1 < s.size
   ·have hne:((s[0].toNat:Int) == 48)=false:=by
     rw [beq_eq_false_iff_ne];exact fun h=>hz ⟨h,h1⟩
    have hs1:decide (1 < (s.size:Int))=true:=(by simp;omega);clear hz;go_enter Tryz.func196,Tryz.ntmps196
    go_wp2
    go_loop [3] (fun i=>∃k:Nat,k≤s.size∧i= .int .i64 k∧(s.data.toList.take k).all cJ=true) (fun i=>s.size - (intOf i).toNat)
    case atStart=>exact⟨0,Nat.zero_le _,rfl,rfl⟩
    case round=>
     obtain⟨k,hk,rfl,HI⟩:=hrel;have HIh:=aa HI;clear HI;by_cases hlt:k < s.size
     ·by_cases hd:48≤(s[k].toNat:Int)∧(s[k].toNat:Int)≤57
      ·obtain⟨hd1,hd2⟩:=hd;go_wp2
       exact⟨⟨k+1,by omega,by go_num,kx s k hlt (aA HIh) hd1 hd2⟩,by simp [intOf];omega⟩
      ·have HB:=aa (yA s k hlt hd);by_cases hd1:(s[k].toNat:Int) < 48
       ·go_wp2
        go_ret;exact⟨aw (aA HF _ (aA HB)).symm,rfl⟩
       ·have hd2:57 < (s[k].toNat:Int):=(by omega);go_wp2
        go_ret;exact⟨aw (aA HF _ (aA HB)).symm,rfl⟩
     ·have HA:=aa (show s.data.toList.all cJ=true by have:=aA HIh;rwa [iu s k hlt] at this);go_wp2
      go_ret;exact⟨aw (aA HF _ (aA HA)).symm,rfl⟩
   ·have hs1:decide (1 < (s.size:Int))=false:=(by simp;omega);clear hz;go_enter Tryz.func196,Tryz.ntmps196
    go_wp2
    go_loop [3] (fun i=>∃k:Nat,k≤s.size∧i= .int .i64 k∧(s.data.toList.take k).all cJ=true) (fun i=>s.size - (intOf i).toNat)
    case atStart=>exact⟨0,Nat.zero_le _,rfl,rfl⟩
    case round=>
     obtain⟨k,hk,rfl,HI⟩:=hrel;have HIh:=aa HI;clear HI;by_cases hlt:k < s.size
     ·by_cases hd:48≤(s[k].toNat:Int)∧(s[k].toNat:Int)≤57
      ·obtain⟨hd1,hd2⟩:=hd;go_wp2
       exact⟨⟨k+1,by omega,by go_num,kx s k hlt (aA HIh) hd1 hd2⟩,by simp [intOf];omega⟩
      ·have HB:=aa (yA s k hlt hd);by_cases hd1:(s[k].toNat:Int) < 48
       ·go_wp2
        go_ret;exact⟨aw (aA HF _ (aA HB)).symm,rfl⟩
       ·have hd2:57 < (s[k].toNat:Int):=(by omega);go_wp2
        go_ret;exact⟨aw (aA HF _ (aA HB)).symm,rfl⟩
     ·have HA:=aa (show s.data.toList.all cJ=true by have:=aA HIh;rwa [iu s k hlt] at this);go_wp2
      go_ret;exact⟨aw (aA HF _ (aA HA)).symm,rfl⟩
theorem rA (s t:ByteArray) (k:Nat) (h1:k < s.size) (h2:k < t.size) (h:s.data.toList.take k=t.data.toList.take k) (e:(s[k].toNat:Int)=(t[k].toNat:Int)):s.data.toList.take (k+1)=t.data.toList.take (k+1):=by
 rw [eZ s k h1,eZ t k h2,h,UInt8.toNat_inj.1 (by omega:s[k].toNat=t[k].toNat)]
theorem DW (s t:ByteArray) (hs:s.data.toList.all cJ=true) (ht:t.data.toList.all cJ=true) (hl:s.size=t.size) (k:Nat) (h1:k < s.size) (h2:k < t.size) (h:s.data.toList.take k=t.data.toList.take k) (hne:¬(s[k].toNat:Int)=(t[k].toNat:Int)):
  decide (t[k].toNat < s[k].toNat)=decide (worth t.data.toList < worth s.data.toList):=by
 have l1:k < s.data.toList.length:=by rw [bm];exact h1
 have l2:k < t.data.toList.length:=by rw [bm];exact h2
 have hl':s.data.toList.length=t.data.toList.length:=by rw [bm,bm];exact hl
 have es:s.data.toList[k]=s[k]:=rfl;have et:t.data.toList[k]=t[k]:=rfl;by_cases hlt:t[k].toNat < s[k].toNat
 ·have:=nu ht hs hl'.symm k l2 l1 h.symm (by rw [es,et];omega);simp [hlt,this]
 ·have:=nu hs ht hl' k l1 l2 h (by rw [es,et];omega);have h':¬worth t.data.toList < worth s.data.toList:=by omega
  simp only [hlt,h',decide_false]
theorem Bg (s t:ByteArray) (w:World) (hmax:s.size≤maxLen) (hl:s.size=t.size) (hs:s.data.toList.all cJ=true) (ht:t.data.toList.all cJ=true):
  Calls Tryz.prog 198 #[.string s,.string t] w fun e w'=>e= .returned (.bool (decide (worth t.data.toList < worth s.data.toList)))∧∃n,w'=w.drewN n:=by
 unfold maxLen at hmax;have HA:=aa (DW s t hs ht hl);clear hs ht;go_enter Tryz.func198,Tryz.ntmps198
 go_wp2
 go_loopw [5] (fun i wr=>∃k:Nat,k≤s.size∧i= .int .i64 k∧s.data.toList.take k=t.data.toList.take k∧∃n,wr=w.drewN n) (fun i _=>s.size - (intOf i).toNat)
 case atStart=>exact⟨0,Nat.zero_le _,rfl,rfl,0,rfl⟩
 case round=>
  obtain⟨k,hk,rfl,HI,n,rfl⟩:=hrel;have HIh:=aa HI;clear HI;by_cases hlt:k < s.size
  ·have hlt2:k < t.size:=(by omega);by_cases he:(s[k].toNat:Int)=(t[k].toNat:Int)
   ·have he':((s[k].toNat:Int) != (t[k].toNat:Int))=false:=(by rw [he];simp);have HE:=aa he;clear he;go_wp2
    go_quiet (fail)
    go_wp2
    exact⟨⟨k+1,by omega,by go_num,rA s t k hlt hlt2 (aA HIh) (aA HE),_,rfl⟩,by simp [intOf];omega⟩
   ·have he':((s[k].toNat:Int) != (t[k].toNat:Int))=true:=(by rw [bne_iff_ne];exact he);have HE:=aa he;clear he;go_wp2
    go_quiet (fail)
    go_wp2
    go_quiet (fail)
    go_wp2
    go_ret;exact⟨aw (aA HA k hlt hlt2 (aA HIh) (aA HE)),_,by rw [World.drewN_drewN,World.drewN_drewN]⟩
  ·have HZ:Hid (decide (worth t.data.toList < worth s.data.toList)=false):=by
    have:=aA HIh;rw [iu s k hlt,iu t k (by omega)] at this;show _=false;rw [this];simp
   go_wp2
   go_ret;exact⟨aw (aA HZ).symm,_,rfl⟩
theorem yj (l:List UInt8) (h:isNum l=true):0 < l.length∧worth l < 10 ^ l.length∧(l.length=1∨10 ^ (l.length - 1)≤worth l):=by
 obtain⟨a,b,c⟩:=(jV l).1 h;refine⟨?_,pt l b,?_⟩
 ·cases l with
  |nil=>cases a
  |cons=>simp
 ·rcases c with c | c
  ·right
   cases l with
   |nil=>cases a
   |cons x r=>
    simp only [List.all_cons,Bool.and_eq_true] at b;have:=uf x r b.1 (by simpa using c);simpa using this
  ·exact .inl c
theorem qh (s t:List UInt8) (hs:isNum s=true) (ht:isNum t=true) (h:s.length < t.length):worth s < worth t:=by
 have h1:=yj s hs;have h2:=yj t ht;have:10 ^ s.length≤10 ^ (t.length - 1):=Nat.pow_le_pow_right (by decide) (by omega);have:=h2.2.2;omega
theorem Gn (s t:List UInt8) (hs:isNum s=true) (ht:isNum t=true) (h:s.length≠t.length):decide (s.length < t.length)=decide (worth s≤worth t):=by
 by_cases h1:s.length < t.length
 ·have:=qh s t hs ht h1;have h2:worth s≤worth t:=by omega
  simp only [h1,h2]
 ·have:=qh t s ht hs (by omega);have h2:¬worth s≤worth t:=by omega
  simp only [h1,h2]
theorem vf (s t:ByteArray) (w:World) (hmax:s.size≤maxLen) (hs:isNum s.data.toList=true) (ht:isNum t.data.toList=true):
  Calls Tryz.prog 197 #[.string s,.string t] w fun e w'=>e= .returned (.bool (decide (worth s.data.toList≤worth t.data.toList)))∧∃n,w'=w.drewN n:=by
 by_cases hl:s.size=t.size
 ·have hcall:=Bg s t w hmax hl ((jV _).1 hs).2.1 ((jV _).1 ht).2.1;have HC:=aa hcall;clear hcall;have hq:((s.size:Int) != (t.size:Int))=false:=by rw [hl];simp
  unfold maxLen at hmax;have HL:=aa hl;clear hl hs ht;go_enter Tryz.func197,Tryz.ntmps197
  go_wp2_with fail
  refine(aA HC).mono ?_;rintro e w' ⟨rfl,n,rfl⟩;go_wp2
  go_ret;refine⟨aw ?_,n,rfl⟩;by_cases h:worth t.data.toList < worth s.data.toList
  ·have h2:¬worth s.data.toList≤worth t.data.toList:=(by omega);simp only [h,h2];rfl
  ·have h2:worth s.data.toList≤worth t.data.toList:=(by omega);simp only [h,h2];rfl
 ·have HF:=aa (Gn s.data.toList t.data.toList hs ht (by rw [bm,bm];exact hl));have hq:((s.size:Int) != (t.size:Int))=true:=by rw [bne_iff_ne];omega
  unfold maxLen at hmax;clear hs ht;go_enter Tryz.func197,Tryz.ntmps197
  go_wp2
  go_ret;refine⟨aw ?_,0,rfl⟩;rw [←aA HF,bm,bm]
theorem yu (l:List UInt8) (h:isNum (bF l)=false):aK l=(0,3):=by
 unfold aK;rw [if_neg (by rw [h];simp)]
theorem tx (l:List UInt8) (hl:ju l=true) (h:bF l= [48]):aK l=(0,3):=by
 unfold aK;rw [if_neg (fun k=>k.2 ⟨hl,h⟩)]
theorem BR (l:List UInt8) (hl:ju l=true) (hn:isNum (bF l)=true) (hz:bF l≠ [48]):
  aK l=if worth (bF l)≤9223372036854775808 then(-(worth (bF l):Int),0)else(0,18):=by
 unfold aK;rw [if_pos ⟨hn,fun k=>hz k.2⟩,if_pos hl]
theorem A8 (l:List UInt8) (hl:ju l=false) (hn:isNum (bF l)=true):
  aK l=if worth (bF l)≤9223372036854775807 then((worth (bF l):Int),0)else(0,18):=by
 unfold aK;rw [if_pos ⟨hn,fun k=>by rw [hl] at k;cases k.1⟩,if_neg (by rw [hl];decide)]
theorem iW (s:ByteArray):(s.extract 1 s.size).data.toList=s.data.toList.tail:=by
 rw [Lib.extract_data,List.drop_one,List.take_of_length_le (by simp)]
theorem Ed (s:ByteArray) (h:0 < s.size):ju s.data.toList=decide ((s[0].toNat:Int)=45):=by
 unfold ju;rw [zd s h];by_cases e:s[0]=45
 ·rw [e];rfl
 ·have:¬((s[0].toNat:Int)=45):=fun k=>e ((dL s[0] 45 (by decide)).1 (by omega));simp only [this,decide_false];rw [beq_eq_false_iff_ne];simpa using e
theorem KS:worth (⟨#[57,50,50,51,51,55,50,48,51,54,56,53,52,55,55,53,56,48,56]⟩:ByteArray).data.toList=9223372036854775808:=by decide +kernel
theorem KB:worth (⟨#[57,50,50,51,51,55,50,48,51,54,56,53,52,55,55,53,56,48,55]⟩:ByteArray).data.toList=9223372036854775807:=by decide +kernel
theorem LW:isNum (⟨#[57,50,50,51,51,55,50,48,51,54,56,53,52,55,55,53,56,48,56]⟩:ByteArray).data.toList=true:=by decide +kernel
theorem Lz:isNum (⟨#[57,50,50,51,51,55,50,48,51,54,56,53,52,55,55,53,56,48,55]⟩:ByteArray).data.toList=true:=by decide +kernel
theorem oQ (t:ByteArray) (k:Nat) (hk:k < t.size) (hn:isNum t.data.toList=true):48≤t[k].toNat∧t[k].toNat≤57∧worth (t.data.toList.take (k+1))=worth (t.data.toList.take k) * 10+(t[k].toNat - 48)∧worth (t.data.toList.take (k+1))≤worth t.data.toList:=by
 have hd:=(eu t[k]).1 (List.all_eq_true.1 ((jV _).1 hn).2.1 t[k] (by
  have:t.data.toList[k]? =some t[k]:=by rw [List.getElem?_eq_getElem (by simpa using hk)];rfl
  exact List.mem_of_getElem? this))
 exact⟨hd.1,hd.2,by rw [eZ t k hk,iS],pL _ _⟩
theorem rT (s:ByteArray) (w:World) (hmax:s.size≤maxLen) (hp:0 < s.size) (hc:(s[0].toNat:Int)=45):
  Calls Tryz.prog 193 #[.string s] w fun e w'=>e= .returned (.tuple #[.int .i64 (aK s.data.toList).1,.int .i64 (aK s.data.toList).2])∧∃n,w'=w.drewN n:=by
 have hlow:ju s.data.toList=true:=by rw [Ed s hp];simpa using hc
 have hrest:bF s.data.toList=(s.extract 1 s.size).data.toList:=by unfold bF;rw [if_pos hlow,iW]
 have htz:(s.extract 1 s.size).size≤maxLen:=by rw [←bm,iW,List.length_tail,bm];omega
 have R1:=yu s.data.toList;have R2:=tx s.data.toList hlow;have R3:=BR s.data.toList hlow;rw [hrest] at R1 R2 R3;have Q1:=aa R1;have Q2:=aa R2;have Q3:=aa R3;clear R1 R2 R3 hrest hlow;unfold maxLen at hmax;have he:=(cC s hp).1;go_enter Tryz.func193,Tryz.ntmps193
 go_wp2_with fail
 generalize s.extract 1 s.size=t at *;refine(gU t _ htz).mono ?_;rintro e w2 ⟨rfl,rfl⟩
 cases hn:isNum t.data.toList with
 |false=>
  have HE:=aa (aA Q1 hn);clear hn;go_wp2
  go_ret2;refine⟨?_,0,rfl⟩;rw [aA HE];rfl
 |true=>
  by_cases hz:t.data.toList= [48]
  ·have hz':(t.toList == [48])=true:=(by rw [ByteArray.toList_eq,hz];rfl);have HE:=aa (aA Q2 hz);clear hn hz;go_wp2
   go_ret2;refine⟨?_,0,rfl⟩;rw [aA HE];rfl
  ·have hz':(t.toList == [48])=false:=(by rw [ByteArray.toList_eq,beq_eq_false_iff_ne];exact hz);have HE:=aa (aA Q3 hn hz);have HN:=aa hn;clear hn hz;go_wp2_with fail
   refine(vf t _ _ htz (aA HN) LW).mono ?_;rintro e w3 ⟨rfl,n3,rfl⟩;rw [KS];by_cases hw:worth t.data.toList≤9223372036854775808
   ·have hE:=aA HE;rw [if_pos hw] at hE;have HE2:=aa hE;have HW:=aa hw;rw [show decide (worth t.data.toList≤9223372036854775808)=true by simpa using hw];clear hE hw HE Q1 Q2 Q3;have htz':=htz;unfold maxLen at htz';go_wp2
    go_loop [6,7] (fun n i=>∃(k:Nat) (nn:Int),k≤t.size∧i= .int .i64 k∧n= .int .i64 nn∧Hid (nn= -(worth (t.data.toList.take k):Int))) (fun _ i=>t.size - (intOf i).toNat)
    case atStart=>exact⟨0,0,Nat.zero_le _,rfl,rfl,rfl⟩
    case round=>
     obtain⟨k,nn,hk,rfl,rfl,HI⟩:=hrel;by_cases hlt:k < t.size
     ·obtain⟨g1,g2,g3,g4⟩:=oQ t k hlt (aA HN);have hb1: -9223372036854775808≤nn * 10 - ((t[k].toNat:Int) - 48):=(by have:=aA HI;have:=aA HW;omega);have hb2:nn≤0:=(by have:=aA HI;omega);have G:=aa (show nn * 10 - ((t[k].toNat:Int) - 48)= -(worth (t.data.toList.take (k+1)):Int) by have:=aA HI;omega);have g1':48≤(t[k].toNat:Int):=(by omega);have g2':(t[k].toNat:Int)≤57:=(by omega);clear g1 g2 g3 g4;go_wp2
      exact⟨⟨k+1,_,by omega,by go_num,rfl,aa (aA G)⟩,by simp [intOf];omega⟩
     ·have HA:=aa (show nn= -(worth t.data.toList:Int) by have:=aA HI;rwa [iu t k hlt] at this);go_wp2
      go_ret2;exact⟨zb (by rw [aA HE2];exact aA HA) (by rw [aA HE2]),n3,rfl⟩
   ·have hE:=aA HE;rw [if_neg hw] at hE;have HE2:=aa hE;rw [show decide (worth t.data.toList≤9223372036854775808)=false by simpa using hw];clear hE hw HE Q1 Q2 Q3;go_wp2
    go_ret2;refine⟨?_,n3,rfl⟩;rw [aA HE2];rfl
theorem pM (t:ByteArray) (w:World) (hmax:t.size≤maxLen) (hp:0 < t.size) (hc:((t[0].toNat:Int) == 45)=false):
  Calls Tryz.prog 193 #[.string t] w fun e w'=>e= .returned (.tuple #[.int .i64 (aK t.data.toList).1,.int .i64 (aK t.data.toList).2])∧∃n,w'=w.drewN n:=by
 have hlow:ju t.data.toList=false:=by rw [Ed t hp];simpa using hc
 have hrest:bF t.data.toList=t.data.toList:=by unfold bF;rw [if_neg (by rw [hlow];decide)]
 have R1:=yu t.data.toList;have R3:=A8 t.data.toList hlow;rw [hrest] at R1 R3;have Q1:=aa R1;have Q3:=aa R3;clear R1 R3 hrest hlow;have htz:=hmax;unfold maxLen at hmax;have he:=(cC t hp).1;go_enter Tryz.func193,Tryz.ntmps193
 go_wp2_with fail
 refine(gU t _ htz).mono ?_;rintro e w2 ⟨rfl,rfl⟩
 cases hn:isNum t.data.toList with
 |false=>
  have HE:=aa (aA Q1 hn);clear hn;go_wp2
  go_ret2;refine⟨?_,0,rfl⟩;rw [aA HE];rfl
 |true=>
   have HE:=aa (aA Q3 hn);have HN:=aa hn;clear hn;go_wp2_with fail
   refine(vf t _ _ htz (aA HN) Lz).mono ?_;rintro e w3 ⟨rfl,n3,rfl⟩;rw [KB];by_cases hw:worth t.data.toList≤9223372036854775807
   ·have hE:=aA HE;rw [if_pos hw] at hE;have HE2:=aa hE;have HW:=aa hw;rw [show decide (worth t.data.toList≤9223372036854775807)=true by simpa using hw];clear hE hw HE Q1 Q3;go_wp2
    go_loop [6,7] (fun n i=>∃(k:Nat) (nn:Int),k≤t.size∧i= .int .i64 k∧n= .int .i64 nn∧Hid (nn=(worth (t.data.toList.take k):Int))) (fun _ i=>t.size - (intOf i).toNat)
    case atStart=>exact⟨0,0,Nat.zero_le _,rfl,rfl,rfl⟩
    case round=>
     obtain⟨k,nn,hk,rfl,rfl,HI⟩:=hrel;by_cases hlt:k < t.size
     ·obtain⟨g1,g2,g3,g4⟩:=oQ t k hlt (aA HN);have hb1:nn * 10+((t[k].toNat:Int) - 48)≤9223372036854775807:=(by have:=aA HI;have:=aA HW;omega);have hb2:0≤nn:=(by have:=aA HI;omega);have G:=aa (show nn * 10+((t[k].toNat:Int) - 48)=(worth (t.data.toList.take (k+1)):Int) by have:=aA HI;omega);have g1':48≤(t[k].toNat:Int):=(by omega);have g2':(t[k].toNat:Int)≤57:=(by omega);clear g1 g2 g3 g4;go_wp2
      exact⟨⟨k+1,_,by omega,by go_num,rfl,aa (aA G)⟩,by simp [intOf];omega⟩
     ·have HA:=aa (show nn=(worth t.data.toList:Int) by have:=aA HI;rwa [iu t k hlt] at this);go_wp2
      go_ret2;exact⟨zb (by rw [aA HE2];exact aA HA) (by rw [aA HE2]),n3,rfl⟩
   ·have hE:=aA HE;rw [if_neg hw] at hE;have HE2:=aa hE;rw [show decide (worth t.data.toList≤9223372036854775807)=false by simpa using hw];clear hE hw HE Q1 Q3;go_wp2
    go_ret2;refine⟨?_,n3,rfl⟩;rw [aA HE2];rfl
theorem gA (t:ByteArray) (w:World) (hp:t.size=0):
  Calls Tryz.prog 193 #[.string t] w fun e w'=>e= .returned (.tuple #[.int .i64 (aK t.data.toList).1,.int .i64 (aK t.data.toList).2])∧∃n,w'=w.drewN n:=by
 have he:=(dF t hp).1;have hnil:=(dF t hp).2;have HE:=aa (show aK t.data.toList=(0,3) by rw [hnil];rfl);have HN:=aa (show isNum t.data.toList=false by rw [hnil];rfl);clear hnil;go_enter Tryz.func193,Tryz.ntmps193
 go_wp2_with fail
 refine(gU t _ (by rw [hp];exact Nat.zero_le _)).mono ?_;rintro e w2 ⟨rfl,rfl⟩;rw [aA HN];go_wp2
 go_ret2;refine⟨?_,0,rfl⟩;rw [aA HE];rfl
theorem lk (s:ByteArray) (w:World) (hmax:s.size≤maxLen):
  Calls Tryz.prog 193 #[.string s] w fun e w'=>e= .returned (.tuple #[.int .i64 (aK s.data.toList).1,.int .i64 (aK s.data.toList).2])∧∃n,w'=w.drewN n:=by
 by_cases hp:s.size=0
 ·exact gA s w hp
 ·by_cases hc:(s[0]'(by omega) |>.toNat:Int)=45
  ·exact rT s w hmax (by omega) hc
  ·exact pM s w hmax (by omega) (by simpa using hc)
theorem r8 (s:ByteArray) (m:Int) (w:World) (hmax:s.size≤maxLen):
  Calls Tryz.prog 190 #[.string s,.int .i64 m] w fun e w'=>e= .returned (.tuple #[.int .i64 (dq s.data.toList m).1,.int .i64 (dq s.data.toList m).2])∧∃n,w'=w.drewN n:=by
 have H1:=aa (lY s.data.toList m);have H2:=aa (lC s.data.toList m);have H3:=aa (nz s.data.toList m);have hr:=kC s.data.toList;go_enter Tryz.func190,Tryz.ntmps190
 go_wp2_with fail
 refine(lk s _ hmax).mono ?_;rintro e w2 ⟨rfl,n2,rfl⟩;generalize (aK s.data.toList).1=n at *;generalize (aK s.data.toList).2=c at *;by_cases hc:c=0
 ·have hc':(c != 0)=false:=by rw [hc];rfl
  by_cases h1:n < 0
  ·have HE:=aa (aA H2 hc (.inl h1));clear hc;go_wp2
   go_ret2;refine⟨?_,n2,rfl⟩;rw [aA HE];rfl
  ·by_cases h2:m < n
   ·have HE:=aa (aA H2 hc (.inr h2));clear hc;go_wp2
    go_ret2;refine⟨?_,n2,rfl⟩;rw [aA HE];rfl
   ·have HE:=aa (aA H3 hc (by omega));clear hc;go_wp2
    go_ret2;refine⟨?_,n2,rfl⟩;rw [aA HE];rfl
 ·have hc':(c != 0)=true:=by rw [bne_iff_ne];exact hc
  have HE:=aa (aA H1 hc);go_wp2
  go_ret2;refine⟨?_,n2,rfl⟩;rw [aA HE];rfl
end Go.Proofs.YtaiaakklokahjaaGreatDoor.L1
namespace Go.Proofs.YtaiaakklokahjaaGreatDoor
open Go Go.RowKit
def Tb (w:World):Prop:=True∧L3.Tab w∧L5.Tab w
theorem Tb.below {w w':World} (h:Tb w) (k:Below w.heap.size w w'):Tb w':=⟨trivial,h.2.1.below k,h.2.2.below k⟩
def Sl (w:World) (ao:Option Addr) (l:List Int):Prop:=l= []∨∃b o,ao=some ⟨b,o,none⟩∧b < w.heap.size∧∀i n,l[i]? =some n→w.cell? ⟨b,o+i,none⟩=some (.int .i64 n)
theorem Sl.below {w w':World} {ao:Option Addr} {l:List Int} (h:Sl w ao l) (hb:Below w.heap.size w w'):Sl w' ao l:=by
 rcases h with h | ⟨b,o,e,hl,hc⟩
 ·exact .inl h
 ·exact .inr ⟨b,o,e,Nat.lt_of_lt_of_le hl hb.size,fun i n hi=>(hb.cell (p:=⟨b,o+i,none⟩) hl).trans (hc i n hi)⟩
def dig (n:Int):List UInt8:=Lib.itoa n
def AJ (n:Int):List UInt8:=37 :: dig n
def Je (n:Int):List UInt8:=98 :: dig n
def I64 (n:Int):Prop:= -9223372036854775808≤n∧n≤9223372036854775807
theorem Fa (x y:List UInt8):bs x ++ bs y=bs (x ++ y):=by
 apply ByteArray.ext;simp [bs]
def jn (sep:List UInt8):List (List UInt8)→List UInt8
 |[]=> []
 |x :: r=>x ++ r.flatMap fun y=>sep ++ y
open G (Tok Er Ins Fun)
def Lf (x:Ins):List (List UInt8):=
 if x.1=1∨x.1=23∨x.1=29 then [dig x.2.2.1]
 else if x.1=10 then [x.2.2.2.2.2.2.1]
 else if x.1=11∨x.1=12∨x.1=15∨x.1=24∨x.1=13∨x.1=14 then(x.2.2.2.2.1.take 1).map AJ ++ [dig x.2.2.1] ++ (x.2.2.2.2.1.drop 1).map AJ
 else if x.1=20 then(x.2.2.2.2.2.1.zip x.2.2.2.2.1).flatMap fun q=> [Je q.1,AJ q.2]
 else if x.1=21 then(if x.2.2.1≠0 then [64 :: dig x.2.2.1] else []) ++ [x.2.2.2.2.2.2.1] ++ x.2.2.2.2.1.map AJ
 else x.2.2.2.2.1.map AJ ++ x.2.2.2.2.2.1.map Je
def ss (x:Ins):List (List UInt8):=(if L5.cn x.1 x.2.2.2.1≠0 then [AJ x.2.1,[61]] else []) ++ [(L5.ja x.1 x.2.2.2.1).data.toList] ++ Lf x
def Ll (x:Ins):List UInt8:=jn [32] (ss x)
def ib (w:World) (x:Ins) (v:Value):Prop:=∃ao to ca ct,v= .agg #[.int .i64 x.1,.int .i64 x.2.1,.int .i64 x.2.2.1,.int .i64 x.2.2.2.1,.slice ao x.2.2.2.2.1.length ca,.slice to x.2.2.2.2.2.1.length ct,.string (bs x.2.2.2.2.2.2.1),.int .i64 x.2.2.2.2.2.2.2]∧
 Sl w ao x.2.2.2.2.1∧Sl w to x.2.2.2.2.2.1∧x.2.2.2.2.1.length≤ca∧ca≤maxLen∧x.2.2.2.2.2.1.length≤ct∧ct≤maxLen
theorem pF {w:World} {c:Nat} {a0 a1 a2 a3 a4 a5 a6 a7:Value} (h:w.heap[c]? =some (.cells #[a0,a1,a2,a3,a4,a5,a6,a7] 41 (0,0))):w.cell? ⟨c,0,none⟩=some a0∧w.cell? ⟨c,1,none⟩=some a1∧w.cell? ⟨c,2,none⟩=some a2∧w.cell? ⟨c,3,none⟩=some a3∧w.cell? ⟨c,4,none⟩=some a4∧w.cell? ⟨c,5,none⟩=some a5∧w.cell? ⟨c,6,none⟩=some a6∧w.cell? ⟨c,7,none⟩=some a7:=by
 simp [World.cell?,h]
theorem DO {w:World} {c:Nat} {a:Value} {t:TypeId} (h:w.heap[c]? =some (.cells #[a] t (0,0))):w.cell? ⟨c,0,none⟩=some a:=by
 simp [World.cell?,h]
def bT (w:World) (l:List Int) (v:Value):Prop:=∃ao c,v= .slice ao l.length c∧Sl w ao l∧l.length≤c∧c≤maxLen
theorem bT.below {w w':World} {l:List Int} {v:Value} (h:bT w l v) (b:Below w.heap.size w w'):bT w' l v:=by
 obtain⟨ao,c,e,h1,h2⟩:=h;exact⟨ao,c,e,h1.below b,h2⟩
def JX (x:Ins) (va vt:Value):List Value:= [.int .i64 x.1,.int .i64 x.2.1,.int .i64 x.2.2.1,.int .i64 x.2.2.2.1,va,vt,.string (bs x.2.2.2.2.2.2.1),.int .i64 x.2.2.2.2.2.2.2]
def nF (w:World) (x:Ins) (g o:Nat):Prop:=g < w.heap.size∧∃va vt,(∀j t,(JX x va vt)[j]? =some t→w.cell? ⟨g,o+j,none⟩=some t)∧bT w x.2.2.2.2.1 va∧bT w x.2.2.2.2.2.1 vt
theorem nF.below {w w':World} {x:Ins} {g o:Nat} (h:nF w x g o) (b:Below w.heap.size w w'):nF w' x g o:=by
 obtain⟨hg,va,vt,h1,h2,h3⟩:=h;exact⟨Nat.lt_of_lt_of_le hg b.size,va,vt,fun j t hj=>(b.cell (p:=⟨g,o+j,none⟩) hg).trans (h1 j t hj),h2.below b,h3.below b⟩
def iR (w:World) (l:List Ins) (v:Value):Prop:=∃ao c,v= .slice ao l.length c∧l.length≤c∧c≤maxLen∧(l= []∨∃g o,ao=some ⟨g,o,none⟩∧∀i x,l[i]? =some x→nF w x g (o+i * 8))
theorem iR.below {w w':World} {l:List Ins} {v:Value} (h:iR w l v) (b:Below w.heap.size w w'):iR w' l v:=by
 obtain⟨ao,c,e,h1,h2,h3⟩:=h;refine⟨ao,c,e,h1,h2,?_⟩;rcases h3 with h3 | ⟨g,o,e2,h4⟩
 ·exact .inl h3
 ·exact .inr ⟨g,o,e2,fun i x hi=>(h4 i x hi).below b⟩
def fj (w:World) (l:List (List Ins)) (v:Value):Prop:=∃ao c,v= .slice ao l.length c∧l.length≤c∧c≤maxLen∧(l= []∨∃g o,ao=some ⟨g,o,none⟩∧g < w.heap.size∧∀i b,l[i]? =some b→∃u,w.cell? ⟨g,o+i,none⟩=some u∧iR w b u)
theorem fj.below {w w':World} {l:List (List Ins)} {v:Value} (h:fj w l v) (b:Below w.heap.size w w'):fj w' l v:=by
 obtain⟨ao,c,e,h1,h2,h3⟩:=h;refine⟨ao,c,e,h1,h2,?_⟩;rcases h3 with h3 | ⟨g,o,e2,hg,h4⟩
 ·exact .inl h3
 ·refine .inr ⟨g,o,e2,Nat.lt_of_lt_of_le hg b.size,fun i x hi=> ?_⟩;obtain⟨u,hu,hb⟩:=h4 i x hi;exact⟨u,(b.cell (p:=⟨g,o+i,none⟩) hg).trans hu,hb.below b⟩
def JF (f:Fun) (vp vb:Value):List Value:= [.string (bs f.1),vp,.int .i64 f.2.2.1,vb,.int .i64 f.2.2.2.2]
def bS (w:World) (f:Fun) (v:Value):Prop:=∃vp vb,v= .agg #[.string (bs f.1),vp,.int .i64 f.2.2.1,vb,.int .i64 f.2.2.2.2]∧bT w f.2.1 vp∧fj w f.2.2.2.1 vb
theorem bS.below {w w':World} {f:Fun} {v:Value} (h:bS w f v) (b:Below w.heap.size w w'):bS w' f v:=by
 obtain⟨vp,vb,e,h1,h2⟩:=h;exact⟨vp,vb,e,h1.below b,h2.below b⟩
def pd (w:World) (f:Fun) (g o:Nat):Prop:=g < w.heap.size∧∃vp vb,(∀j t,(JF f vp vb)[j]? =some t→w.cell? ⟨g,o+j,none⟩=some t)∧bT w f.2.1 vp∧fj w f.2.2.2.1 vb
theorem pd.below {w w':World} {x:Fun} {g o:Nat} (h:pd w x g o) (b:Below w.heap.size w w'):pd w' x g o:=by
 obtain⟨hg,va,vt,h1,h2,h3⟩:=h;exact⟨Nat.lt_of_lt_of_le hg b.size,va,vt,fun j t hj=>(b.cell (p:=⟨g,o+j,none⟩) hg).trans (h1 j t hj),h2.below b,h3.below b⟩
def eg (w:World) (l:List Fun) (v:Value):Prop:=∃ao c,v= .slice ao l.length c∧l.length≤c∧c≤maxLen∧(l= []∨∃g o,ao=some ⟨g,o,none⟩∧∀i x,l[i]? =some x→pd w x g (o+i * 5))
theorem eg.below {w w':World} {l:List Fun} {v:Value} (h:eg w l v) (b:Below w.heap.size w w'):eg w' l v:=by
 obtain⟨ao,c,e,h1,h2,h3⟩:=h;refine⟨ao,c,e,h1,h2,?_⟩;rcases h3 with h3 | ⟨g,o,e2,h4⟩
 ·exact .inl h3
 ·exact .inr ⟨g,o,e2,fun i x hi=>(h4 i x hi).below b⟩
def KM (t:Int):List UInt8:=(L5.letter t).data.toList
def LD (ps:List Int):List UInt8:=jn [32] (ps.map KM)
def rO (k:Nat) (b:List Ins):List (List UInt8):= [Je (k:Int),[58,10]] ++ b.flatMap fun x=> [[32,32],Ll x,[10]]
def Ik:Nat→List (List Ins)→List (List UInt8)
 |_,[]=> []
 |k,b :: r=>rO k b ++ Ik (k+1) r
def Ld (f:Fun):List (List UInt8):= [[102,117,110,99,32],f.1,[40],LD f.2.1,[41,32],KM f.2.2.1,[32,123,10]]
def uO (f:Fun):List (List UInt8):=Ld f ++ Ik 0 f.2.2.2.1 ++ [[125,10]]
theorem mG {w:World} {c:Nat} {a0 a1 a2 a3 a4:Value} (h:w.heap[c]? =some (.cells #[a0,a1,a2,a3,a4] 29 (0,0))):w.cell? ⟨c,0,none⟩=some a0∧w.cell? ⟨c,1,none⟩=some a1∧w.cell? ⟨c,2,none⟩=some a2∧w.cell? ⟨c,3,none⟩=some a3∧w.cell? ⟨c,4,none⟩=some a4:=by
 simp [World.cell?,h]
theorem nF.val {w:World} {x:Ins} {g o:Nat} (h:nF w x g o):∃ao to ca ct,ib w x (.agg #[.int .i64 x.1,.int .i64 x.2.1,.int .i64 x.2.2.1,.int .i64 x.2.2.2.1,.slice ao x.2.2.2.2.1.length ca,.slice to x.2.2.2.2.2.1.length ct,.string (bs x.2.2.2.2.2.2.1),.int .i64 x.2.2.2.2.2.2.2])∧
  w.cell? ⟨g,o,none⟩=some (.int .i64 x.1)∧w.cell? ⟨g,o+1,none⟩=some (.int .i64 x.2.1)∧w.cell? ⟨g,o+2,none⟩=some (.int .i64 x.2.2.1)∧w.cell? ⟨g,o+3,none⟩=some (.int .i64 x.2.2.2.1)∧
  w.cell? ⟨g,o+4,none⟩=some (.slice ao x.2.2.2.2.1.length ca)∧w.cell? ⟨g,o+5,none⟩=some (.slice to x.2.2.2.2.2.1.length ct)∧w.cell? ⟨g,o+6,none⟩=some (.string (bs x.2.2.2.2.2.2.1))∧w.cell? ⟨g,o+7,none⟩=some (.int .i64 x.2.2.2.2.2.2.2):=by
 obtain⟨hg,va,vt,h1,⟨ao,ca,rfl,a1,a2,a3⟩,⟨to,ct,rfl,t1,t2,t3⟩⟩:=h;exact⟨ao,to,ca,ct,⟨ao,to,ca,ct,rfl,a1,t1,a2,a3,t2,t3⟩,h1 0 _ rfl,h1 1 _ rfl,h1 2 _ rfl,h1 3 _ rfl,h1 4 _ rfl,h1 5 _ rfl,h1 6 _ rfl,h1 7 _ rfl⟩
theorem pd.val {w:World} {f:Fun} {g o:Nat} (h:pd w f g o):∃ao bo c cb,bS w f (.agg #[.string (bs f.1),.slice ao f.2.1.length c,.int .i64 f.2.2.1,.slice bo f.2.2.2.1.length cb,.int .i64 f.2.2.2.2])∧
  w.cell? ⟨g,o,none⟩=some (.string (bs f.1))∧w.cell? ⟨g,o+1,none⟩=some (.slice ao f.2.1.length c)∧w.cell? ⟨g,o+2,none⟩=some (.int .i64 f.2.2.1)∧w.cell? ⟨g,o+3,none⟩=some (.slice bo f.2.2.2.1.length cb)∧w.cell? ⟨g,o+4,none⟩=some (.int .i64 f.2.2.2.2):=by
 obtain⟨hg,va,vt,h1,h2,h3⟩:=h;have h2':=h2;have h3':=h3;obtain⟨ao,c,rfl,_⟩:=h2;obtain⟨bo,cb,rfl,_⟩:=h3;exact⟨ao,bo,c,cb,⟨_,_,rfl,h2',h3'⟩,h1 0 _ rfl,h1 1 _ rfl,h1 2 _ rfl,h1 3 _ rfl,h1 4 _ rfl⟩
open G (Tok Er Ins Fun noI noB noF)
theorem xg (l:List Int) (ao bo:Option Addr) (ca cb:Nat) (w:World) (hl:l.length≤maxLen) (ha:Sl w ao l) (hb:Sl w bo l):
  Calls Tryz.prog 26 #[.slice ao l.length ca,.slice bo l.length cb] w fun e w'=>e= .returned (.bool true)∧Below w.heap.size w w':=by
 unfold maxLen at hl;have HA:=aa ha;have HB:=aa hb;clear ha hb;go_enter Tryz.func26,Tryz.ntmps26
 go_wp2
 go_loopw [5] (fun i wr=>∃k:Nat,k≤l.length∧i= .int .i64 k∧Below w.heap.size w wr) (fun i _=>l.length - (intOf i).toNat)
 case atStart=>exact⟨0,Nat.zero_le _,rfl,Below.refl _ _⟩
 case round=>
  obtain⟨k,hk,rfl,hB⟩:=hrel;replace hB:=aa hB;by_cases hlt:k < l.length
  ·obtain⟨n,hn⟩:∃n,l[k]? =some n:=⟨l[k],List.getElem?_eq_getElem hlt⟩;rcases HA.out with he | ⟨a,oa,rfl,hal,ha⟩
   ·subst he;simp at hlt
   rcases HB.out with he | ⟨b,ob,rfl,hbl,hb⟩
   ·subst he;simp at hlt
   have hB2:=fun x=>ae hB.out (L5.aD wr x);have c1:=fun x=>((hB2 x).cell (p:=⟨a,oa+k,none⟩) hal).trans (ha k n hn);have c2:=fun x=>((hB2 x).cell (p:=⟨b,ob+k,none⟩) hbl).trans (hb k n hn);replace hB2:=aa hB2;clear ha hb hn;go_wp2
   refine L5.aM (by kernel_rfl) (by kernel_rfl) ?_;repeat (go_big_quiet_step (fail))
   refine wpQuiet_nil ?_;rintro _ ⟨x,rfl⟩;go_wp2_with fail
   go_roundw
   case rel=>exact⟨k+1,by omega,by go_num,hB2.out x⟩
   case measure=>simp [intOf];omega
  ·go_wp2
   go_ret;exact⟨rfl,hB.out⟩
end Go.Proofs.YtaiaakklokahjaaGreatDoor
