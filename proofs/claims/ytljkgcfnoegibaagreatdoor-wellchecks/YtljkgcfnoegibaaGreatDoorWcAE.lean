/- Texts of one chain, joined. -/
import Derived.Test.YtljkgcfnoegibaaGreatDoorWcAA
import Derived.Test.YtljkgcfnoegibaaGreatDoorWcAC
import Derived.Test.YtljkgcfnoegibaaGreatDoorWcAD
set_option maxHeartbeats 8000000
set_option maxRecDepth 20000
namespace Go.Proofs.YtljkgcfnoegibaaGreatDoor
open Go Go.RowKit
open G (Tok Er Ins Fun peek0 peek1 atOf)
def numF (s:List UInt8):Int × Int:=L1.readNum s
def idxF (s:List UInt8) (most:Int):Option Int:=if(L1.indexNum s most).2=0 then some (L1.indexNum s most).1 else none
def namF (s:List UInt8):Bool:=L2.nameB s
def shpF (s:List UInt8):Int:=match L3.readS (bs s)with
 |.tuple #[_,.int .i64 c]=>c
 |_=>0
def tksF (op:Int):Nat:=(L5.takes (L5.num op)).length
def fndF (s:List UInt8):Int × Int:=L5.find (bs s)
def mksF (op t:Int):Int:=L5.imakes op t
def prtF (k:Nat) (s:List UInt8):Bool:=decide (G.mark idxF 98 255 s=some (k:Int))
theorem nam_nil:namF []=false:=rfl
theorem num_nil:(numF []).2≠0:=by decide
theorem shp_nil:shpF []≠0:=by decide
theorem fnd_nil:(fndF []).1=0:=congrArg Prod.fst (L5.find_empty (s:=bs []) (by rw [bs_size];rfl))
def Of (r:Option Int) (c p:Int) (w:World) (e:Ending) (w':World):Prop:=
 Below w.heap.size w w'∧((∃x,r=some x∧e= .returned (.int .i64 x))∨(r=none∧e=thrown c p))
open G (Tok Er Ins Fun)
def byd (most n:Int):Bool:=decide (n < 0) || decide (most < n)
theorem beyond1_any (most n:Int) (g:Nat) (w:World) (h:w.cell? ⟨g,0,none⟩=some (.int .i64 most)):Calls Tryz.prog 140 #[.int .i64 n,.pointer (some ⟨g,0,none⟩)] w fun e w'=>e= .returned (.bool (byd most n))∧w'=w:=by
 by_cases h0:n < 0
 ·have HB:Hid (true=byd most n):=hide (by unfold byd;simp [h0])
  go_enter Tryz.func140,Tryz.ntmps140
  go_wp2_with fail
  go_ret
  exact⟨L5.ret_bool HB.out,rfl⟩
 ·by_cases h1:most < n
  ·have HB:Hid (true=byd most n):=hide (by unfold byd;simp [h1])
   go_enter Tryz.func140,Tryz.ntmps140
   go_wp2_with fail
   go_ret
   exact⟨L5.ret_bool HB.out,rfl⟩
  ·have HB:Hid (false=byd most n):=hide (by unfold byd;simp [h0,h1])
   go_enter Tryz.func140,Tryz.ntmps140
   go_wp2_with fail
   go_ret
   exact⟨L5.ret_bool HB.out,rfl⟩
theorem beyond_any (most:Int) (w:World):Calls Tryz.prog 118 #[.int .i64 most] w fun e w'=>e= .returned (.func (Fn.func 140) #[] #[.pointer (some ⟨w.heap.size,0,none⟩)])∧w'=w.alloc (.cells #[.int .i64 most] 3):=by
 have hmf:∀(fn:Fn) (first cap:Array Value) (w:World),(Instr.makeFunc fn first cap).run Tryz.prog w= .ok (.func fn first cap) w:=fun _ _ _ _=>rfl
 go_enter Tryz.func118,Tryz.ntmps118
 go_wp2_with fail
 go_ret
 exact⟨rfl,rfl⟩
def first7B (most:Int):List Int→Int→Int
 |[],_=> -1
 |t :: r,k=>if byd most t then k else first7B most r (k+1)
theorem first7B_drop (most:Int) (xs:List Int) (k:Nat) (t:Int) (h:xs[k]? =some t):first7B most (xs.drop k) k=if byd most t then(k:Int)else first7B most (xs.drop (k+1)) ((k+1:Nat):Int):=by
 have:xs.drop k=t :: xs.drop (k+1):=by
  obtain⟨h1,h2⟩:=List.getElem?_eq_some_iff.1 h
  rw [List.drop_eq_getElem_cons h1,h2]
 rw [this];rfl
theorem first7B_any (most:Int) (l:List Int):∀k:Int,0≤k→(l.any (byd most)=true→0≤first7B most l k)∧(l.any (byd most)=false→first7B most l k= -1):=by
 induction l with
 |nil=>intro k _;simp [first7B]
 |cons t r ih=>
  intro k hk
  rw [first7B,List.any_cons]
  cases hb:byd most t with
  |true=>simp;exact hk
  |false=>simpa using ih (k+1) (by omega)
theorem indexF7_any (most:Int) (xs:List Int) (ao:Option Addr) (c g:Nat) (w:World) (hs:Sl w ao xs) (hg:g < w.heap.size) (h:w.cell? ⟨g,0,none⟩=some (.int .i64 most)) (hm:xs.length≤maxLen):
  Calls Tryz.prog 112 #[.slice ao xs.length c,.func (Fn.func 140) #[] #[.pointer (some ⟨g,0,none⟩)]] w fun e w'=>e= .returned (.int .i64 (first7B most xs 0))∧Below w.heap.size w w':=by
 have H:=hide h
 have X:=hide hs
 unfold maxLen at hm
 clear h hs
 go_enter Tryz.func112,Tryz.ntmps112
 go_wp2_with fail
 go_loopw [8] (fun i wr=>∃k:Nat,i= .int .i64 k∧k≤xs.length∧Below w.heap.size w wr∧Hid (first7B most xs 0=first7B most (xs.drop k) k)) (fun i _=>xs.length - (intOf i).toNat)
 case atStart=>exact⟨0,rfl,Nat.zero_le _,Below.refl _ _,rfl⟩
 case round=>
  obtain⟨k,rfl,hk,HB,HF⟩:=hrel
  have HB:=hide HB
  by_cases hlt:k < xs.length
  ·obtain⟨t,ht⟩:∃t,xs[k]? =some t:=⟨xs[k],List.getElem?_eq_getElem hlt⟩
   have HS:=hide (HF.out.trans (first7B_drop most xs k t ht))
   rcases X.out with he | ⟨b,o,rfl,hb,hc⟩
   ·subst he;simp at hlt
   have hcell:wr.cell? ⟨b,o+k,none⟩=some (.int .i64 t):=(HB.out.cell (p:=⟨b,o+k,none⟩) hb).trans (hc k t ht)
   have hlt':(k:Int) < xs.length:=by omega
   have hcg:=hide ((HB.out.cell (p:=⟨g,0,none⟩) hg).trans H.out)
   clear hc ht
   go_wp2_with fail
   refine(beyond1_any most t g _ hcg.out).mono ?_;rintro e w1 ⟨rfl,rfl⟩
   cases hbt:byd most t with
   |true=>
    have HE:=hide (HS.out.trans (if_pos hbt))
    go_wp2_with fail
    go_ret
    exact⟨by rw [HE.out];rfl,HB.out⟩
   |false=>
    have HE:=hide (HS.out.trans (if_neg (by simp [hbt])))
    go_wp2_with fail
    go_roundw
    case rel=>exact⟨k+1,by go_num,by omega,HB.out,HE.out⟩
    case measure=>simp [intOf];omega
  ·have hk2:k=xs.length:=by omega
   subst hk2
   have HE:=hide (HF.out.trans (by rw [List.drop_length];rfl:_=(-1:Int)))
   go_wp2_with fail
   go_ret
   exact⟨by rw [HE.out];rfl,HB.out⟩
theorem contains7_any (most:Int) (xs:List Int) (ao:Option Addr) (c g:Nat) (w:World) (hs:Sl w ao xs) (hg:g < w.heap.size) (h:w.cell? ⟨g,0,none⟩=some (.int .i64 most)) (hm:xs.length≤maxLen):
  Calls Tryz.prog 89 #[.slice ao xs.length c,.func (Fn.func 140) #[] #[.pointer (some ⟨g,0,none⟩)]] w fun e w'=>e= .returned (.bool (xs.any (byd most)))∧Below w.heap.size w w':=by
 obtain⟨f1,f2⟩:=first7B_any most xs 0 (Int.le_refl 0)
 have H:=hide h
 have X:=hide hs
 have F1:=hide f1
 have F2:=hide f2
 clear h hs f1 f2
 go_enter Tryz.func89,Tryz.ntmps89
 go_wp2_with fail
 refine(indexF7_any most xs ao c g _ X.out hg H.out hm).mono ?_;rintro e w1 ⟨rfl,b1⟩
 cases hb:xs.any (byd most)with
 |true=>
  have h1:=F1.out hb
  replace hb:=hide hb
  generalize first7B most xs 0=r at *
  clear F1 F2
  go_wp2_with fail
  go_ret
  exact⟨L5.ret_bool hb.out.symm,b1⟩
 |false=>
  have h1:=F2.out hb
  rw [h1]
  replace hb:=hide hb
  clear F1 F2 h1
  go_wp2_with fail
  go_ret
  exact⟨L5.ret_bool hb.out.symm,b1⟩
def opOk (k:Int):Bool:=decide (1≤k) && decide (k≤29)
theorem operation_any (k:Int) (w:World):Calls Tryz.prog 113 #[.int .i64 k] w fun e w'=>e= .returned (.bool (opOk k))∧w'=w:=by
 by_cases h1:1≤k
 ·by_cases h2:k≤29
  ·have HB:Hid (true=opOk k):=hide (by simp [opOk,h1,h2])
   go_enter Tryz.func113,Tryz.ntmps113
   go_wp2_with fail
   go_ret
   exact⟨L5.ret_bool HB.out,rfl⟩
  ·have HB:Hid (false=opOk k):=hide (by simp [opOk,h2])
   go_enter Tryz.func113,Tryz.ntmps113
   go_wp2_with fail
   go_ret
   exact⟨L5.ret_bool HB.out,rfl⟩
 ·have HB:Hid (false=opOk k):=hide (by simp [opOk,h1])
  go_enter Tryz.func113,Tryz.ntmps113
  go_wp2_with fail
  go_ret
  exact⟨L5.ret_bool HB.out,rfl⟩
theorem below_dn1 (w:World) {o:Obj}:Below w.heap.size w (w.drew.alloc o):=by
 have:=below_box w.drew o
 exact⟨this.1,this.2,this.3,this.4,this.5⟩
def numOk (k id ty:Int):Bool:=if L5.imakes k ty=0 then decide (id= -1)else !byd 1048576 id
theorem numbered_any (k id n ty pl:Int) (ar tt:List Int) (nm:List UInt8) (ao to:Option Addr) (ca ct:Nat) (w:World) (ht:L5.Tab w):Calls Tryz.prog 115 #[.agg #[.int .i64 k,.int .i64 id,.int .i64 n,.int .i64 ty,.slice ao ar.length ca,.slice to tt.length ct,.string (bs nm),.int .i64 pl]] w fun e w'=>e= .returned (.bool (numOk k id ty))∧Below w.heap.size w w':=by
 have b0:=below_box w (.cells #[.int .i64 k,.int .i64 id,.int .i64 n,.int .i64 ty,.slice ao ar.length ca,.slice to tt.length ct,.string (bs nm),.int .i64 pl] 47)
 have H0:=hide (heap_alloc_new w (.cells #[.int .i64 k,.int .i64 id,.int .i64 n,.int .i64 ty,.slice ao ar.length ca,.slice to tt.length ct,.string (bs nm),.int .i64 pl] 47))
 have T0:=hide (ht.below b0)
 have B0:=hide b0
 have hz0:(w.alloc (.cells #[.int .i64 k,.int .i64 id,.int .i64 n,.int .i64 ty,.slice ao ar.length ca,.slice to tt.length ct,.string (bs nm),.int .i64 pl] 47)).heap.size > w.heap.size:=by simp
 clear b0 ht
 go_enter Tryz.func115,Tryz.ntmps115
 go_upto_region 1 with fail
 show Code.wp _ _ _ _ (w.alloc (.cells #[.int .i64 k,.int .i64 id,.int .i64 n,.int .i64 ty,.slice ao ar.length ca,.slice to tt.length ct,.string (bs nm),.int .i64 pl] 47))
 generalize w.alloc (.cells #[.int .i64 k,.int .i64 id,.int .i64 n,.int .i64 ty,.slice ao ar.length ca,.slice to tt.length ct,.string (bs nm),.int .i64 pl] 47)=W at *
 obtain⟨c0,c1,c2,c3,c4,c5,c6,c7⟩:=box8 H0.out
 go_wp2_with fail
 refine(L5.makes_any k ty _ _ _ _ _ _ W T0.out).mono ?_;rintro e w1 ⟨rfl,b1⟩
 have B1:=hide b1
 clear c0 c1 c2 c3 c4 c5 c6 c7
 obtain⟨c0,c1,c2,c3,c4,c5,c6,c7⟩:=box8 ((b1.block _ (by omega)).trans H0.out)
 have hcl:w.heap.size < w1.heap.size:=Nat.lt_of_lt_of_le hz0 b1.size
 clear c0 c2 c3 c4 c5 c6 c7 b1
 by_cases hm:L5.imakes k ty=0
 ·have HB:Hid (numOk k id ty=decide (id= -1)):=hide (if_pos hm)
  rw [hm]
  clear hm
  by_cases hid:id= -1
  ·subst hid
   go_wp2_with fail
   go_ret
   exact⟨L5.ret_bool (by rw [HB.out];rfl),below_step B0.out B1.out⟩
  ·have h2:(id == -1)=false:=by simpa using hid
   have HB2:Hid (false=numOk k id ty):=hide (by rw [HB.out];simp [hid])
   go_wp2_with fail
   go_ret
   exact⟨L5.ret_bool HB2.out,below_step B0.out B1.out⟩
 ·have HB:Hid (numOk k id ty= !byd 1048576 id):=hide (if_neg hm)
  have h2:(L5.imakes k ty == 0)=false:=by simpa using hm
  generalize L5.imakes k ty=mk at *
  have B2:=hide (below_dn1 w1 (o:= .cells #[.int .i64 1048576] 3))
  have G2:Hid ((w1.alloc (.cells #[.int .i64 1048576] 3)).cell? ⟨w1.heap.size,0,none⟩=some (.int .i64 1048576)):=hide (by simp [go_sem])
  have d1:(w1.alloc (.cells #[.int .i64 1048576] 3)).cell? ⟨w.heap.size,1,none⟩=some (.int .i64 id):=((below_box w1 _).cell (p:=⟨w.heap.size,1,none⟩) hcl).trans c1
  go_wp2_with fail
  go_region_held3 (fun w'=>w'.cell? ⟨w.heap.size,1,none⟩=some (.int .i64 id))
   (first
    |(go_keep;done)
    |assumption)
   ((first
    |(go_at_call 118;refine(beyond_any 1048576 _).mono ?_;rintro e w2 ⟨rfl,rfl⟩)
    |(go_at_call 140;refine(beyond1_any 1048576 id w1.heap.size _ ?_).mono ?_;exact G2.out;rintro e w3 ⟨rfl,rfl⟩)))
  all_goals
   go_wp2_with fail
   go_ret
   exact⟨L5.ret_bool HB.out.symm,below_step B0.out (below_step B1.out B2.out)⟩
theorem InsV.below {w w':World} {x:Ins} {v:Value} (h:InsV w x v) (b:Below w.heap.size w w'):InsV w' x v:=by
 obtain⟨ao,to,ca,ct,e,h1,h2,h3⟩:=h
 exact⟨ao,to,ca,ct,e,h1.below b,h2.below b,h3⟩
theorem below_dn {B:Nat} {a w:World} (h:Below B a w) (n:Nat):Below B a (w.drewN n):=⟨h.1,h.2,h.3,h.4,h.5⟩
def tkN (k:Int):Nat:=(L5.takes (L5.num k)).length
def cntOk (k:Int) (a b:Nat):Bool:=
 if k=20 then decide ((a:Int)=b) && decide ((0:Int) < a)
 else if k=21 then decide ((b:Int)=0)
 else if k=24 then decide ((a:Int)=1) && decide ((b:Int)=0)
 else if k=26 then decide ((a:Int)=0) && decide ((b:Int)=1)
 else if k=27 then decide ((a:Int)=1) && decide ((b:Int)=2)
 else if k=28 then decide ((a:Int)≤1) && decide ((b:Int)=0)
 else decide ((a:Int)=tkN k) && decide ((b:Int)=0)
def rngOk (k n:Int):Bool:=
 if k=1 then true
 else if k=11∨k=12∨k=15∨k=13∨k=14 then decide (0≤n) && decide (n≤15)
 else if k=21∨k=23∨k=24 then decide (0≤n) && decide (n≤1048576)
 else if k=29 then decide (0≤n) && decide (n≤255)
 else decide (0≤n) && decide (n≤0)
theorem ranged_any (k:Int) (id n ty pl:Int) (ar tt:List Int) (nm:List UInt8) (ao to:Option Addr) (ca ct:Nat) (w:World) (hn:I64 n):Calls Tryz.prog 117 #[.agg #[.int .i64 k,.int .i64 id,.int .i64 n,.int .i64 ty,.slice ao ar.length ca,.slice to tt.length ct,.string (bs nm),.int .i64 pl]] w fun e w'=>e= .returned (.bool (rngOk k n))∧Below w.heap.size w w':=by
 have HB:=hide (rngOk.eq_1 k n).symm
 obtain⟨h1,h2⟩:=hn
 have b0:=below_box w (.cells #[.int .i64 k,.int .i64 id,.int .i64 n,.int .i64 ty,.slice ao ar.length ca,.slice to tt.length ct,.string (bs nm),.int .i64 pl] 47)
 have H0:=hide (heap_alloc_new w (.cells #[.int .i64 k,.int .i64 id,.int .i64 n,.int .i64 ty,.slice ao ar.length ca,.slice to tt.length ct,.string (bs nm),.int .i64 pl] 47))
 have B0:=hide b0
 have hz0:(w.alloc (.cells #[.int .i64 k,.int .i64 id,.int .i64 n,.int .i64 ty,.slice ao ar.length ca,.slice to tt.length ct,.string (bs nm),.int .i64 pl] 47)).heap.size > w.heap.size:=by simp
 clear b0
 go_enter Tryz.func117,Tryz.ntmps117
 go_upto_region 1 with fail
 show Code.wp _ _ _ _ (w.alloc (.cells #[.int .i64 k,.int .i64 id,.int .i64 n,.int .i64 ty,.slice ao ar.length ca,.slice to tt.length ct,.string (bs nm),.int .i64 pl] 47))
 generalize w.alloc (.cells #[.int .i64 k,.int .i64 id,.int .i64 n,.int .i64 ty,.slice ao ar.length ca,.slice to tt.length ct,.string (bs nm),.int .i64 pl] 47)=W at *
 obtain⟨c0,c1,c2,c3,c4,c5,c6,c7⟩:=box8 H0.out
 by_cases hk:k=1∨k=11∨k=12∨k=15∨k=13∨k=14∨k=21∨k=23∨k=24∨k=29
 ·rcases hk with rfl | rfl | rfl | rfl | rfl | rfl | rfl | rfl | rfl | rfl
  all_goals
   generalize hA:ar.length=A at *
   generalize hT:tt.length=T at *
   have HA:=hide hA
   have HT:=hide hT
   clear hA hT
   go_wp2_with fail
   all_goals
    go_ret
    exact⟨L5.ret_bool (by first | exact HB.out | (rw [←HB.out,Bool.eq_iff_iff];simp;done) | (rw [←HB.out,Bool.eq_iff_iff];simp;omega) | (rw [HA.out,HT.out];exact HB.out) | (rw [HA.out,HT.out,←HB.out,Bool.eq_iff_iff];simp;done) | (rw [HA.out,HT.out,←HB.out,Bool.eq_iff_iff];simp;omega)),B0.out⟩
 ·replace HB:Hid ((decide (0≤n) && decide (n≤0))=rngOk k n):=hide (by unfold rngOk;rw [if_neg (by omega),if_neg (by omega),if_neg (by omega),if_neg (by omega)])
  have n1:(k == 1)=false:=by simp;omega
  have n11:(k == 11)=false:=by simp;omega
  have n12:(k == 12)=false:=by simp;omega
  have n15:(k == 15)=false:=by simp;omega
  have n13:(k == 13)=false:=by simp;omega
  have n14:(k == 14)=false:=by simp;omega
  have n21:(k == 21)=false:=by simp;omega
  have n23:(k == 23)=false:=by simp;omega
  have n24:(k == 24)=false:=by simp;omega
  have n29:(k == 29)=false:=by simp;omega
  clear hk
  generalize hA:ar.length=A at *
  generalize hT:tt.length=T at *
  have HA:=hide hA
  have HT:=hide hT
  clear hA hT
  go_wp2_with fail
  all_goals
   go_ret
   exact⟨L5.ret_bool (by first | exact HB.out | (rw [←HB.out,Bool.eq_iff_iff];simp;done) | (rw [←HB.out,Bool.eq_iff_iff];simp;omega) | (rw [HA.out,HT.out];exact HB.out) | (rw [HA.out,HT.out,←HB.out,Bool.eq_iff_iff];simp;done) | (rw [HA.out,HT.out,←HB.out,Bool.eq_iff_iff];simp;omega)),B0.out⟩
theorem counted_any (k:Int) (id n ty pl:Int) (ar tt:List Int) (nm:List UInt8) (ao to:Option Addr) (ca ct:Nat) (w:World) (hL:ar.length≤maxLen∧tt.length≤maxLen) (ht:L5.Tab w):Calls Tryz.prog 116 #[.agg #[.int .i64 k,.int .i64 id,.int .i64 n,.int .i64 ty,.slice ao ar.length ca,.slice to tt.length ct,.string (bs nm),.int .i64 pl]] w fun e w'=>e= .returned (.bool (cntOk k ar.length tt.length))∧Below w.heap.size w w':=by
 have HB:=hide (cntOk.eq_1 k ar.length tt.length).symm
 obtain⟨la,lt⟩:=hL
 unfold maxLen at la lt
 have b0:=below_box w (.cells #[.int .i64 k,.int .i64 id,.int .i64 n,.int .i64 ty,.slice ao ar.length ca,.slice to tt.length ct,.string (bs nm),.int .i64 pl] 47)
 have H0:=hide (heap_alloc_new w (.cells #[.int .i64 k,.int .i64 id,.int .i64 n,.int .i64 ty,.slice ao ar.length ca,.slice to tt.length ct,.string (bs nm),.int .i64 pl] 47))
 have T0:=hide (ht.below b0)
 have B0:=hide b0
 have hz0:(w.alloc (.cells #[.int .i64 k,.int .i64 id,.int .i64 n,.int .i64 ty,.slice ao ar.length ca,.slice to tt.length ct,.string (bs nm),.int .i64 pl] 47)).heap.size > w.heap.size:=by simp
 clear b0 ht
 go_enter Tryz.func116,Tryz.ntmps116
 go_upto_region 1 with fail
 show Code.wp _ _ _ _ (w.alloc (.cells #[.int .i64 k,.int .i64 id,.int .i64 n,.int .i64 ty,.slice ao ar.length ca,.slice to tt.length ct,.string (bs nm),.int .i64 pl] 47))
 generalize w.alloc (.cells #[.int .i64 k,.int .i64 id,.int .i64 n,.int .i64 ty,.slice ao ar.length ca,.slice to tt.length ct,.string (bs nm),.int .i64 pl] 47)=W at *
 obtain⟨c0,c1,c2,c3,c4,c5,c6,c7⟩:=box8 H0.out
 by_cases hk:k=20∨k=21∨k=24∨k=26∨k=27∨k=28
 ·rcases hk with rfl | rfl | rfl | rfl | rfl | rfl
  all_goals
   generalize hA:ar.length=A at *
   generalize hT:tt.length=T at *
   have HA:=hide hA
   have HT:=hide hT
   clear hA hT
   go_wp2_with fail
   go_quiet (fail)
   go_wp2_with fail
   all_goals
    go_ret
    exact⟨L5.ret_bool (by first | exact HB.out | (rw [←HB.out,Bool.eq_iff_iff];simp;done) | (rw [←HB.out,Bool.eq_iff_iff];simp;omega) | (rw [HA.out,HT.out];exact HB.out) | (rw [HA.out,HT.out,←HB.out,Bool.eq_iff_iff];simp;done) | (rw [HA.out,HT.out,←HB.out,Bool.eq_iff_iff];simp;omega)),below_dn B0.out _⟩
 ·replace HB:Hid ((decide ((ar.length:Int)=tkN k) && decide ((tt.length:Int)=0))=cntOk k ar.length tt.length):=hide (by unfold cntOk;rw [if_neg (by omega),if_neg (by omega),if_neg (by omega),if_neg (by omega),if_neg (by omega),if_neg (by omega)])
  have n20:(k == 20)=false:=by simp;omega
  have n21:(k == 21)=false:=by simp;omega
  have n24:(k == 24)=false:=by simp;omega
  have n26:(k == 26)=false:=by simp;omega
  have n27:(k == 27)=false:=by simp;omega
  have n28:(k == 28)=false:=by simp;omega
  clear hk
  generalize hA:ar.length=A at *
  generalize hT:tt.length=T at *
  have HA:=hide hA
  have HT:=hide hT
  clear hA hT
  go_wp2_with fail
  go_quiet (fail)
  go_wp2_with fail
  refine(L5.takes_any k (W.drewN _) T0.out).mono ?_;rintro e w1 ⟨ao1,cap1,rfl,s1,b1⟩
  have HTk:Hid ((L5.takes (L5.num k)).length=tkN k):=hide rfl
  have htl:tkN k≤2:=by unfold tkN L5.takes;exact List.length_filter_le _ _
  have B1:=hide b1
  rw [HTk.out]
  clear s1 b1
  generalize tkN k=tk at *
  go_wp2_with fail
  all_goals
   go_ret
   exact⟨L5.ret_bool (by first | exact HB.out | (rw [←HB.out,Bool.eq_iff_iff];simp;done) | (rw [←HB.out,Bool.eq_iff_iff];simp;omega) | (rw [HA.out,HT.out];exact HB.out) | (rw [HA.out,HT.out,←HB.out,Bool.eq_iff_iff];simp;done) | (rw [HA.out,HT.out,←HB.out,Bool.eq_iff_iff];simp;omega)),below_step (below_dn B0.out _) B1.out⟩
theorem rcounted_any (k:Int) (id n ty pl:Int) (ar tt:List Int) (nm:List UInt8) (ao to:Option Addr) (ca ct:Nat) (w:World) (hL:ar.length≤maxLen∧tt.length≤maxLen):Calls Tryz.prog 73 #[.agg #[.int .i64 k,.int .i64 id,.int .i64 n,.int .i64 ty,.slice ao ar.length ca,.slice to tt.length ct,.string (bs nm),.int .i64 pl]] w fun e w'=>e= .returned (.bool (cntOk k ar.length tt.length))∧Below w.heap.size w w':=by
 have HB:=hide (cntOk.eq_1 k ar.length tt.length).symm
 obtain⟨la,lt⟩:=hL
 unfold maxLen at la lt
 have b0:=below_box w (.cells #[.int .i64 k,.int .i64 id,.int .i64 n,.int .i64 ty,.slice ao ar.length ca,.slice to tt.length ct,.string (bs nm),.int .i64 pl] 47)
 have H0:=hide (heap_alloc_new w (.cells #[.int .i64 k,.int .i64 id,.int .i64 n,.int .i64 ty,.slice ao ar.length ca,.slice to tt.length ct,.string (bs nm),.int .i64 pl] 47))
 have B0:=hide b0
 have hz0:(w.alloc (.cells #[.int .i64 k,.int .i64 id,.int .i64 n,.int .i64 ty,.slice ao ar.length ca,.slice to tt.length ct,.string (bs nm),.int .i64 pl] 47)).heap.size > w.heap.size:=by simp
 clear b0
 go_enter Tryz.func73,Tryz.ntmps73
 go_upto_region 1 with fail
 show Code.wp _ _ _ _ (w.alloc (.cells #[.int .i64 k,.int .i64 id,.int .i64 n,.int .i64 ty,.slice ao ar.length ca,.slice to tt.length ct,.string (bs nm),.int .i64 pl] 47))
 generalize w.alloc (.cells #[.int .i64 k,.int .i64 id,.int .i64 n,.int .i64 ty,.slice ao ar.length ca,.slice to tt.length ct,.string (bs nm),.int .i64 pl] 47)=W at *
 obtain⟨c0,c1,c2,c3,c4,c5,c6,c7⟩:=box8 H0.out
 by_cases hk:k=20∨k=21∨k=24∨k=26∨k=27∨k=28
 ·rcases hk with rfl | rfl | rfl | rfl | rfl | rfl
  all_goals
   generalize hA:ar.length=A at *
   generalize hT:tt.length=T at *
   have HA:=hide hA
   have HT:=hide hT
   clear hA hT
   go_wp2_with fail
   all_goals
    go_ret
    exact⟨L5.ret_bool (by first | exact HB.out | (rw [←HB.out,Bool.eq_iff_iff];simp;done) | (rw [←HB.out,Bool.eq_iff_iff];simp;omega) | (rw [HA.out,HT.out];exact HB.out) | (rw [HA.out,HT.out,←HB.out,Bool.eq_iff_iff];simp;done) | (rw [HA.out,HT.out,←HB.out,Bool.eq_iff_iff];simp;omega)),B0.out⟩
 ·replace HB:Hid ((decide ((ar.length:Int)=tkN k) && decide ((tt.length:Int)=0))=cntOk k ar.length tt.length):=hide (by unfold cntOk;rw [if_neg (by omega),if_neg (by omega),if_neg (by omega),if_neg (by omega),if_neg (by omega),if_neg (by omega)])
  have n20:(k == 20)=false:=by simp;omega
  have n21:(k == 21)=false:=by simp;omega
  have n24:(k == 24)=false:=by simp;omega
  have n26:(k == 26)=false:=by simp;omega
  have n27:(k == 27)=false:=by simp;omega
  have n28:(k == 28)=false:=by simp;omega
  clear hk
  generalize hA:ar.length=A at *
  generalize hT:tt.length=T at *
  have HA:=hide hA
  have HT:=hide hT
  clear hA hT
  go_wp2_with fail
  refine(L5.refTakes_any k W).mono ?_;rintro e w1 ⟨ao1,cap1,rfl,s1,b1⟩
  have HTk:Hid ((L5.takes (L5.num k)).length=tkN k):=hide rfl
  have htl:tkN k≤2:=by unfold tkN L5.takes;exact List.length_filter_le _ _
  have B1:=hide b1
  rw [HTk.out]
  clear s1 b1
  generalize tkN k=tk at *
  go_wp2_with fail
  all_goals
   go_ret
   exact⟨L5.ret_bool (by first | exact HB.out | (rw [←HB.out,Bool.eq_iff_iff];simp;done) | (rw [←HB.out,Bool.eq_iff_iff];simp;omega) | (rw [HA.out,HT.out];exact HB.out) | (rw [HA.out,HT.out,←HB.out,Bool.eq_iff_iff];simp;done) | (rw [HA.out,HT.out,←HB.out,Bool.eq_iff_iff];simp;omega)),below_step B0.out B1.out⟩
theorem shp_form (s:List UInt8):∃a b:Int,L3.readS (bs s)= .tuple #[.agg #[.int .i64 a,.int .i64 b],.int .i64 (shpF s)]:=by
 have h:∃a b c:Int,L3.readS (bs s)= .tuple #[.agg #[.int .i64 a,.int .i64 b],.int .i64 c]:=by
  unfold L3.readS
  split
  ·exact⟨_,_,_,rfl⟩
  ·split
   ·exact⟨_,_,_,rfl⟩
   ·unfold L3.readL
    split
    ·exact⟨_,_,_,rfl⟩
    ·exact⟨_,_,_,rfl⟩
 obtain⟨a,b,c,h⟩:=h
 have e:shpF s=c:=by unfold shpF;rw [h];rfl
 exact⟨a,b,by rw [h,e]⟩
def namC (k:Int) (nm:List UInt8):Int:=if k=10 then shpF nm else if k=21 then(if L2.nameB nm then 0 else 4)else(if nm= [] then 0 else 4)
theorem nm_iff (nm:List UInt8):(bs nm).toList.isEmpty=decide (nm= []):=by
 rw [ByteArray.toList_eq,bs_data]
 cases nm <;> simp
theorem named10 (id n ty pl:Int) (ar tt:List Int) (nm:List UInt8) (ao to:Option Addr) (ca ct:Nat) (w:World) (ht:Tb w):Calls Tryz.prog 119 #[.agg #[.int .i64 10,.int .i64 id,.int .i64 n,.int .i64 ty,.slice ao ar.length ca,.slice to tt.length ct,.string (bs nm),.int .i64 pl]] w fun e w'=>e= .returned (.int .i64 (namC 10 nm))∧Below w.heap.size w w':=by
 have b0:=below_box w (.cells #[.int .i64 10,.int .i64 id,.int .i64 n,.int .i64 ty,.slice ao ar.length ca,.slice to tt.length ct,.string (bs nm),.int .i64 pl] 47)
 have H0:=hide (heap_alloc_new w (.cells #[.int .i64 10,.int .i64 id,.int .i64 n,.int .i64 ty,.slice ao ar.length ca,.slice to tt.length ct,.string (bs nm),.int .i64 pl] 47))
 have B0:=hide b0
 have hz0:(w.alloc (.cells #[.int .i64 10,.int .i64 id,.int .i64 n,.int .i64 ty,.slice ao ar.length ca,.slice to tt.length ct,.string (bs nm),.int .i64 pl] 47)).heap.size > w.heap.size:=by simp
 have T0:=hide (ht.below b0)
 clear ht
 clear b0
 go_enter Tryz.func119,Tryz.ntmps119
 go_upto_region 1 with fail
 show Code.wp _ _ _ _ (w.alloc (.cells #[.int .i64 10,.int .i64 id,.int .i64 n,.int .i64 ty,.slice ao ar.length ca,.slice to tt.length ct,.string (bs nm),.int .i64 pl] 47))
 generalize w.alloc (.cells #[.int .i64 10,.int .i64 id,.int .i64 n,.int .i64 ty,.slice ao ar.length ca,.slice to tt.length ct,.string (bs nm),.int .i64 pl] 47)=W at *
 obtain⟨c0,c1,c2,c3,c4,c5,c6,c7⟩:=box8 H0.out
 obtain⟨a,b,hS⟩:=shp_form nm
 have HS:=hide hS
 have HC:Hid (shpF nm=namC 10 nm):=hide rfl
 have hE:=nm_iff nm
 clear hS
 go_wp2_with fail
 refine(L3.parse_all (bs nm) W T0.out.2.1).mono ?_;rintro e w1 ⟨rfl,b1⟩
 rw [HS.out]
 have B1:=hide b1
 clear b1
 generalize shpF nm=z at *
 go_wp2_with fail
 go_ret
 exact⟨L5.ret_int HC.out,B0.out.trans ((B1.out.trans ((below_box w1 _).mono B1.out.size)).mono (by omega))⟩
theorem named21 (id n ty pl:Int) (ar tt:List Int) (nm:List UInt8) (ao to:Option Addr) (ca ct:Nat) (w:World) (hl:nm.length≤maxLen):Calls Tryz.prog 119 #[.agg #[.int .i64 21,.int .i64 id,.int .i64 n,.int .i64 ty,.slice ao ar.length ca,.slice to tt.length ct,.string (bs nm),.int .i64 pl]] w fun e w'=>e= .returned (.int .i64 (namC 21 nm))∧Below w.heap.size w w':=by
 have hsz:(bs nm).size≤maxLen:=by rw [bs_size];exact hl
 have b0:=below_box w (.cells #[.int .i64 21,.int .i64 id,.int .i64 n,.int .i64 ty,.slice ao ar.length ca,.slice to tt.length ct,.string (bs nm),.int .i64 pl] 47)
 have H0:=hide (heap_alloc_new w (.cells #[.int .i64 21,.int .i64 id,.int .i64 n,.int .i64 ty,.slice ao ar.length ca,.slice to tt.length ct,.string (bs nm),.int .i64 pl] 47))
 have B0:=hide b0
 have hz0:(w.alloc (.cells #[.int .i64 21,.int .i64 id,.int .i64 n,.int .i64 ty,.slice ao ar.length ca,.slice to tt.length ct,.string (bs nm),.int .i64 pl] 47)).heap.size > w.heap.size:=by simp
 clear b0
 go_enter Tryz.func119,Tryz.ntmps119
 go_upto_region 1 with fail
 show Code.wp _ _ _ _ (w.alloc (.cells #[.int .i64 21,.int .i64 id,.int .i64 n,.int .i64 ty,.slice ao ar.length ca,.slice to tt.length ct,.string (bs nm),.int .i64 pl] 47))
 generalize w.alloc (.cells #[.int .i64 21,.int .i64 id,.int .i64 n,.int .i64 ty,.slice ao ar.length ca,.slice to tt.length ct,.string (bs nm),.int .i64 pl] 47)=W at *
 obtain⟨c0,c1,c2,c3,c4,c5,c6,c7⟩:=box8 H0.out
 have HC:Hid (∀r,L2.nameB nm=r→(if r then(0:Int)else 4)=namC 21 nm):=hide fun r h=>by rw [←h];rfl
 have hE:=nm_iff nm
 go_wp2_with fail
 refine(L2.name_any (bs nm) W hsz).mono ?_;rintro e w1 ⟨rfl,b1⟩
 rw [bs_data]
 have B1:=hide b1
 clear b1
 cases hb:L2.nameB nm with
 |true=>
  have HC1:=hide (HC.out true hb)
  go_wp2_with fail
  go_ret
  exact⟨L5.ret_int HC1.out,below_step B0.out B1.out⟩
 |false=>
  have HC1:=hide (HC.out false hb)
  go_wp2_with fail
  go_ret
  exact⟨L5.ret_int HC1.out,below_step B0.out B1.out⟩
theorem named_else (k:Int) (h10:k≠10) (h21:k≠21) (id n ty pl:Int) (ar tt:List Int) (nm:List UInt8) (ao to:Option Addr) (ca ct:Nat) (w:World):Calls Tryz.prog 119 #[.agg #[.int .i64 k,.int .i64 id,.int .i64 n,.int .i64 ty,.slice ao ar.length ca,.slice to tt.length ct,.string (bs nm),.int .i64 pl]] w fun e w'=>e= .returned (.int .i64 (namC k nm))∧Below w.heap.size w w':=by
 have HC:Hid ((if nm= [] then(0:Int)else 4)=namC k nm):=hide (by unfold namC;rw [if_neg h10,if_neg h21])
 have e10:(k == 10)=false:=by simpa using h10
 have e21:(k == 21)=false:=by simpa using h21
 clear h10 h21
 have b0:=below_box w (.cells #[.int .i64 k,.int .i64 id,.int .i64 n,.int .i64 ty,.slice ao ar.length ca,.slice to tt.length ct,.string (bs nm),.int .i64 pl] 47)
 have H0:=hide (heap_alloc_new w (.cells #[.int .i64 k,.int .i64 id,.int .i64 n,.int .i64 ty,.slice ao ar.length ca,.slice to tt.length ct,.string (bs nm),.int .i64 pl] 47))
 have B0:=hide b0
 have hz0:(w.alloc (.cells #[.int .i64 k,.int .i64 id,.int .i64 n,.int .i64 ty,.slice ao ar.length ca,.slice to tt.length ct,.string (bs nm),.int .i64 pl] 47)).heap.size > w.heap.size:=by simp
 clear b0
 go_enter Tryz.func119,Tryz.ntmps119
 go_upto_region 1 with fail
 show Code.wp _ _ _ _ (w.alloc (.cells #[.int .i64 k,.int .i64 id,.int .i64 n,.int .i64 ty,.slice ao ar.length ca,.slice to tt.length ct,.string (bs nm),.int .i64 pl] 47))
 generalize w.alloc (.cells #[.int .i64 k,.int .i64 id,.int .i64 n,.int .i64 ty,.slice ao ar.length ca,.slice to tt.length ct,.string (bs nm),.int .i64 pl] 47)=W at *
 obtain⟨c0,c1,c2,c3,c4,c5,c6,c7⟩:=box8 H0.out
 by_cases hn:nm= []
 ·have HC1:=hide ((if_pos hn).symm.trans HC.out)
  have hE:(bs nm).toList.isEmpty=true:=by rw [nm_iff];simpa using hn
  clear hn HC
  go_wp2_with fail
  go_ret
  exact⟨L5.ret_int HC1.out,B0.out⟩
 ·have HC1:=hide ((if_neg hn).symm.trans HC.out)
  have hE:(bs nm).toList.isEmpty=false:=by rw [nm_iff];simpa using hn
  clear hn HC
  go_wp2_with fail
  go_ret
  exact⟨L5.ret_int HC1.out,B0.out⟩
theorem named_any (k:Int) (id n ty pl:Int) (ar tt:List Int) (nm:List UInt8) (ao to:Option Addr) (ca ct:Nat) (w:World) (ht:Tb w) (hl:nm.length≤maxLen):Calls Tryz.prog 119 #[.agg #[.int .i64 k,.int .i64 id,.int .i64 n,.int .i64 ty,.slice ao ar.length ca,.slice to tt.length ct,.string (bs nm),.int .i64 pl]] w fun e w'=>e= .returned (.int .i64 (namC k nm))∧Below w.heap.size w w':=by
 by_cases h10:k=10
 ·subst h10;exact named10 id n ty pl ar tt nm ao to ca ct w ht
 by_cases h21:k=21
 ·subst h21;exact named21 id n ty pl ar tt nm ao to ca ct w hl
 exact named_else k h10 h21 id n ty pl ar tt nm ao to ca ct w
def checkC (x:Ins):Int:=
 if(opOk x.1 && L5.may x.1 x.2.2.2.1)=false then 2
 else if numOk x.1 x.2.1 x.2.2.2.1=false then 8
 else if cntOk x.1 x.2.2.2.2.1.length x.2.2.2.2.2.1.length=false then 13
 else if rngOk x.1 x.2.2.1=false then 18
 else if x.2.2.2.2.1.any (byd 1048576)=true then 8
 else if x.2.2.2.2.2.1.any (byd 255)=true then 7
 else namC x.1 x.2.2.2.2.2.2.1
theorem below_back {w w':World} {o:Obj} (h:Below (w.drew.alloc o).heap.size (w.drew.alloc o) w'):Below w.heap.size w w':=below_step (below_dn1 w (o:=o)) h
theorem check_try (k id n ty pl:Int) (ar tt:List Int) (nm:List UInt8) (ao to:Option Addr) (ca ct:Nat) (w:World) (hs1:Sl w ao ar) (hs2:Sl w to tt) (hL:ar.length≤maxLen∧tt.length≤maxLen) (hn:I64 n) (ht:Tb w) (hl:nm.length≤maxLen):
  Calls Tryz.prog 91 #[.agg #[.int .i64 k,.int .i64 id,.int .i64 n,.int .i64 ty,.slice ao ar.length ca,.slice to tt.length ct,.string (bs nm),.int .i64 pl]] w fun e w'=>e= .returned (.int .i64 (checkC (k,id,n,ty,ar,tt,nm,pl)))∧Below w.heap.size w w':=by
 have b0:=below_box w (.cells #[.int .i64 k,.int .i64 id,.int .i64 n,.int .i64 ty,.slice ao ar.length ca,.slice to tt.length ct,.string (bs nm),.int .i64 pl] 47)
 have H0:=hide (heap_alloc_new w (.cells #[.int .i64 k,.int .i64 id,.int .i64 n,.int .i64 ty,.slice ao ar.length ca,.slice to tt.length ct,.string (bs nm),.int .i64 pl] 47))
 have A0:=hide (hs1.below b0)
 have U0:=hide (hs2.below b0)
 have T0:=hide (ht.below b0)
 have B0:=hide b0
 have hz0:(w.alloc (.cells #[.int .i64 k,.int .i64 id,.int .i64 n,.int .i64 ty,.slice ao ar.length ca,.slice to tt.length ct,.string (bs nm),.int .i64 pl] 47)).heap.size > w.heap.size:=by simp
 have HL:=hide hL
 have HN:=hide hn
 have Hl:=hide hl
 clear b0 hs1 hs2 ht hL hn hl
 go_enter Tryz.func91,Tryz.ntmps91
 go_upto_region 1 with fail
 show Code.wp _ _ _ _ (w.alloc (.cells #[.int .i64 k,.int .i64 id,.int .i64 n,.int .i64 ty,.slice ao ar.length ca,.slice to tt.length ct,.string (bs nm),.int .i64 pl] 47))
 generalize w.alloc (.cells #[.int .i64 k,.int .i64 id,.int .i64 n,.int .i64 ty,.slice ao ar.length ca,.slice to tt.length ct,.string (bs nm),.int .i64 pl] 47)=W at *
 obtain⟨c0,c1,c2,c3,c4,c5,c6,c7⟩:=box8 H0.out
 go_wp2_with fail
 refine(operation_any k W).mono ?_;rintro e w1 ⟨rfl,rfl⟩
 cases ho:opOk k with
 |false=>
  have HC:Hid ((2:Int)=checkC (k,id,n,ty,ar,tt,nm,pl)):=hide (by unfold checkC;rw [if_pos (by dsimp only;rw [ho];rfl)])
  replace ho:=hide ho
  go_wp2_with fail
  go_ret
  exact⟨L5.ret_int HC.out,below_step B0.out (Below.refl _ _)⟩
 |true=>
 replace ho:=hide ho
 go_wp2_with fail
 refine(L5.may_any k ty _).mono ?_;rintro e w1 ⟨rfl,rfl⟩
 cases hm:L5.may k ty with
 |false=>
  have HC:Hid ((2:Int)=checkC (k,id,n,ty,ar,tt,nm,pl)):=hide (by unfold checkC;rw [if_pos (by dsimp only;rw [hm,Bool.and_false])])
  replace hm:=hide hm
  go_wp2_with fail
  go_ret
  exact⟨L5.ret_int HC.out,below_step B0.out (Below.refl _ _)⟩
 |true=>
 have HF1:Hid (¬((opOk k && L5.may k ty)=false)):=hide (by rw [ho.out,hm];simp)
 replace hm:=hide hm
 go_wp2_with fail
 refine(numbered_any k id n ty pl ar tt nm ao to ca ct _ T0.out.2.2).mono ?_;rintro e w2 ⟨rfl,b2⟩
 have B2:=hide b2
 clear b2
 cases hq:numOk k id ty with
 |false=>
  have HC:Hid ((8:Int)=checkC (k,id,n,ty,ar,tt,nm,pl)):=hide (by unfold checkC;rw [if_neg HF1.out,if_pos hq])
  replace hq:=hide hq
  go_wp2_with fail
  go_ret
  exact⟨L5.ret_int HC.out,below_step B0.out B2.out⟩
 |true=>
 have HF2:Hid (¬(numOk k id ty=false)):=hide (by rw [hq];simp)
 replace hq:=hide hq
 clear c0 c1 c2 c3 c4 c5 c6 c7
 obtain⟨c0,c1,c2,c3,c4,c5,c6,c7⟩:=box8 ((B2.out.block _ (by omega)).trans H0.out)
 go_wp2_with fail
 refine(counted_any k id n ty pl ar tt nm ao to ca ct _ HL.out (T0.out.2.2.below B2.out)).mono ?_;rintro e w3 ⟨rfl,b3⟩
 have B3:=hide (below_step B2.out b3)
 clear b3
 cases hc:cntOk k ar.length tt.length with
 |false=>
  have HC:Hid ((13:Int)=checkC (k,id,n,ty,ar,tt,nm,pl)):=hide (by unfold checkC;rw [if_neg HF1.out,if_neg HF2.out,if_pos hc])
  replace hc:=hide hc
  go_wp2_with fail
  go_ret
  exact⟨L5.ret_int HC.out,below_step B0.out B3.out⟩
 |true=>
 have HF3:Hid (¬(cntOk k ar.length tt.length=false)):=hide (by rw [hc];simp)
 replace hc:=hide hc
 clear c0 c1 c2 c3 c4 c5 c6 c7
 obtain⟨c0,c1,c2,c3,c4,c5,c6,c7⟩:=box8 ((B3.out.block _ (by omega)).trans H0.out)
 go_wp2_with fail
 refine(ranged_any k id n ty pl ar tt nm ao to ca ct _ HN.out).mono ?_;rintro e w4 ⟨rfl,b4⟩
 have B4:=hide (below_step B3.out b4)
 clear b4
 cases hr:rngOk k n with
 |false=>
  have HC:Hid ((18:Int)=checkC (k,id,n,ty,ar,tt,nm,pl)):=hide (by unfold checkC;rw [if_neg HF1.out,if_neg HF2.out,if_neg HF3.out,if_pos hr])
  replace hr:=hide hr
  go_wp2_with fail
  go_ret
  exact⟨L5.ret_int HC.out,below_step B0.out B4.out⟩
 |true=>
 have HF4:Hid (¬(rngOk k n=false)):=hide (by rw [hr];simp)
 replace hr:=hide hr
 clear c0 c1 c2 c3 c4 c5 c6 c7
 obtain⟨c0,c1,c2,c3,c4,c5,c6,c7⟩:=box8 ((B4.out.block _ (by omega)).trans H0.out)
 have hcl4:w.heap.size < w4.heap.size:=Nat.lt_of_lt_of_le hz0 B4.out.size
 have AW4:Hid (Sl (w4.alloc (.cells #[.int .i64 1048576] 3)) ao ar):=hide (A0.out.below (below_step B4.out (below_box w4 _)))
 have GW4:Hid ((w4.alloc (.cells #[.int .i64 1048576] 3)).cell? ⟨w4.heap.size,0,none⟩=some (.int .i64 1048576)):=hide (by simp [go_sem])
 have hgw4:Hid (w4.heap.size < (w4.alloc (.cells #[.int .i64 1048576] 3)).heap.size):=hide (by simp)
 have hcw4:Hid (w.heap.size < (w4.alloc (.cells #[.int .i64 1048576] 3)).heap.size):=hide (by simp;omega)
 have d4:(w4.alloc (.cells #[.int .i64 1048576] 3)).cell? ⟨w.heap.size,4,none⟩=some (.slice ao ar.length ca):=((below_box w4 _).cell (p:=⟨w.heap.size,4,none⟩) hcl4).trans c4
 go_wp2_with fail
 go_region_held3 (fun w'=>w'.cell? ⟨w.heap.size,4,none⟩=some (.slice ao ar.length ca))
  (first
   |(go_keep;done)
   |assumption)
  ((first
   |(go_at_call 118;refine(beyond_any 1048576 _).mono ?_;rintro e wx ⟨rfl,rfl⟩)
   |(go_at_call 89;refine(contains7_any 1048576 ar ao ca w4.heap.size _ ?_ ?_ ?_ HL.out.1).mono ?_;exact AW4.out;exact hgw4.out;exact GW4.out;rintro e w6 ⟨rfl,bw6⟩;have d4x:w6.cell? ⟨w.heap.size,4,none⟩=some (.slice ao ar.length ca):=(bw6.cell (p:=⟨w.heap.size,4,none⟩) hcw4.out).trans d4;have Bw6:=hide (below_step B4.out (below_back bw6));clear bw6)))
 all_goals
  cases hx:ar.any (byd 1048576)with
  |true=>
   have HC:Hid ((8:Int)=checkC (k,id,n,ty,ar,tt,nm,pl)):=hide (by unfold checkC;rw [if_neg HF1.out,if_neg HF2.out,if_neg HF3.out,if_neg HF4.out,if_pos hx])
   replace hx:=hide hx
   go_wp2_with fail
   go_ret
   exact⟨L5.ret_int HC.out,below_step B0.out Bw6.out⟩
  |false=>
   have HF5:Hid (¬(ar.any (byd 1048576)=true)):=hide (by rw [hx];simp)
   replace hx:=hide hx
   clear c0 c1 c2 c3 c4 c5 c6 c7
   obtain⟨c0,c1,c2,c3,c4,c5,c6,c7⟩:=box8 ((Bw6.out.block _ (by omega)).trans H0.out)
   have hcl5:w.heap.size < w6.heap.size:=Nat.lt_of_lt_of_le hz0 Bw6.out.size
   have AW5:Hid (Sl (w6.alloc (.cells #[.int .i64 255] 3)) to tt):=hide (U0.out.below (below_step Bw6.out (below_box w6 _)))
   have GW5:Hid ((w6.alloc (.cells #[.int .i64 255] 3)).cell? ⟨w6.heap.size,0,none⟩=some (.int .i64 255)):=hide (by simp [go_sem])
   have hgw5:Hid (w6.heap.size < (w6.alloc (.cells #[.int .i64 255] 3)).heap.size):=hide (by simp)
   have hcw5:Hid (w.heap.size < (w6.alloc (.cells #[.int .i64 255] 3)).heap.size):=hide (by simp;omega)
   have d5:(w6.alloc (.cells #[.int .i64 255] 3)).cell? ⟨w.heap.size,5,none⟩=some (.slice to tt.length ct):=((below_box w6 _).cell (p:=⟨w.heap.size,5,none⟩) hcl5).trans c5
   go_wp2_with fail
   go_region_held3 (fun w'=>w'.cell? ⟨w.heap.size,5,none⟩=some (.slice to tt.length ct))
    (first
     |(go_keep;done)
     |assumption)
    ((first
     |(go_at_call 118;refine(beyond_any 255 _).mono ?_;rintro e wx ⟨rfl,rfl⟩)
     |(go_at_call 89;refine(contains7_any 255 tt to ct w6.heap.size _ ?_ ?_ ?_ HL.out.2).mono ?_;exact AW5.out;exact hgw5.out;exact GW5.out;rintro e w8 ⟨rfl,bw8⟩;have d5x:w8.cell? ⟨w.heap.size,5,none⟩=some (.slice to tt.length ct):=(bw8.cell (p:=⟨w.heap.size,5,none⟩) hcw5.out).trans d5;have Bw8:=hide (below_step Bw6.out (below_back bw8));clear bw8)))
   all_goals
    cases hy:tt.any (byd 255)with
    |true=>
     have HC:Hid ((7:Int)=checkC (k,id,n,ty,ar,tt,nm,pl)):=hide (by unfold checkC;rw [if_neg HF1.out,if_neg HF2.out,if_neg HF3.out,if_neg HF4.out,if_neg HF5.out,if_pos hy])
     replace hy:=hide hy
     go_wp2_with fail
     go_ret
     exact⟨L5.ret_int HC.out,below_step B0.out Bw8.out⟩
    |false=>
     have HC:Hid (namC k nm=checkC (k,id,n,ty,ar,tt,nm,pl)):=hide (by unfold checkC;rw [if_neg HF1.out,if_neg HF2.out,if_neg HF3.out,if_neg HF4.out,if_neg HF5.out,if_neg (by rw [hy];simp)])
     replace hy:=hide hy
     clear c0 c1 c2 c3 c4 c5 c6 c7
     obtain⟨c0,c1,c2,c3,c4,c5,c6,c7⟩:=box8 ((Bw8.out.block _ (by omega)).trans H0.out)
     go_wp2_with fail
     refine(named_any k id n ty pl ar tt nm ao to ca ct _ (T0.out.below Bw8.out) Hl.out).mono ?_;rintro e w9 ⟨rfl,b9⟩
     generalize namC k nm=z at *
     go_wp2_with fail
     go_ret
     exact⟨L5.ret_int HC.out,below_step B0.out (below_step Bw8.out b9)⟩
theorem check_any (x:Ins) (v:Value) (w:World) (h:InsV w x v) (hn:I64 x.2.2.1) (ht:Tb w) (hl:x.2.2.2.2.2.2.1.length≤maxLen):Calls Tryz.prog 91 #[v] w fun e w'=>e= .returned (.int .i64 (checkC x))∧Below w.heap.size w w':=by
 obtain⟨k,id,n,ty,ar,tt,nm,pl⟩:=x
 obtain⟨ao,to,ca,ct,rfl,h1,h2,h3,h4,h5,h6⟩:=h
 exact check_try k id n ty pl ar tt nm ao to ca ct w h1 h2 ⟨Nat.le_trans h3 h4,Nat.le_trans h5 h6⟩ hn ht hl
end Go.Proofs.YtljkgcfnoegibaaGreatDoor
