/- Texts of one chain, joined. -/
import Derived.Test.YtljkgcfnoegibaaGreatDoorWcAI
import Derived.Test.YtljkgcfnoegibaaGreatDoorWcAS
set_option maxHeartbeats 4000000
set_option maxRecDepth 20000
namespace Go.Proofs.YtljkgcfnoegibaaGreatDoor
open Go Go.RowKit
open G (Tok Er Ins Fun peek0 peek1 atOf)
theorem rpeek0 {s:List UInt8} {a:Nat} {L:List Tok} {E:Int} {n:Nat} {l:List Tok} (w:World) (h:RR a L E n l w) (hs:peek0 l=s):
  Calls Tryz.prog 59 #[.pointer (some ⟨a,0,none⟩),.int .i64 0] w fun e w'=>e= .returned (.string (bs s))∧Below w.heap.size w w':=by
 have:=rpeek 0 w h (by omega)
 rw [pk0,hs] at this
 exact this
theorem rpeek1 {s:List UInt8} {a:Nat} {L:List Tok} {E:Int} {n:Nat} {l:List Tok} (w:World) (h:RR a L E n l w) (hs:peek1 l=s):
  Calls Tryz.prog 59 #[.pointer (some ⟨a,0,none⟩),.int .i64 1] w fun e w'=>e= .returned (.string (bs s))∧Below w.heap.size w w':=by
 have:=rpeek 1 w h (by omega)
 rw [pk1,hs] at this
 exact this
def Ate (a:Nat) (L:List Tok) (E:Int) (n:Nat) (l:List Tok) (w w':World):Prop:=RR a L E n l w'∧Kr a w w'
theorem ate_of {a:Nat} {L:List Tok} {E:Int} {n:Nat} {l:List Tok} {w w1:World} (h:RR a L E n l w) (b:Below w.heap.size w w1) (hl:l≠ []):Ate a L E n l.tail w (w1.setCell ⟨a,1,none⟩ (.int .i64 (((L.length - l.length:Nat):Int)+1))):=
 ⟨(h.below b).eat hl,(Kr.of_below b).set _⟩
theorem RR.at1 {a:Nat} {L:List Tok} {E:Int} {n:Nat} {l:List Tok} {w:World} (h:RR a L E n l w):w.cell? ⟨a,1,none⟩=some (.int .i64 ((L.length - l.length:Nat):Int))∧w.frozen? ⟨a,1,none⟩=false∧w.cell? ⟨a,4,none⟩=some (.int .i64 0)∧((L.length - l.length:Nat):Int)≤131072:=by
 have hl:L.length≤131072:=by obtain⟨v,h1,h2,h5,h6,h7⟩:=h;exact h6.1
 obtain⟨ao,cap,c0,c1,c2,c3,c4,c5,fz,hL⟩:=h.cells
 exact⟨c1,fz 1,c4,by omega⟩
theorem endP' {P:Program} {fn:Func} {R:Ending→World→Prop} {t:Array Value} {d:List Deferred} {w:World} (hr:fn.results= #[]) (hd:d= []) (hR:R (.returned (.tuple #[])) w):bodyPost P fn R .normal {tmps:=t,defers:=d} w:=
 bodyPost_end (results_none hr _ _ _) hd hR
theorem bs_beq (s:List UInt8):((bs s).toList == (bs s).toList)=true:=by simp
theorem rwant (s:List UInt8) {a:Nat} {L:List Tok} {E:Int} {n:Nat} {l:List Tok} (w:World) (h:RR a L E n l w) (hs:peek0 l=s) (hne:s≠ []):
  Calls Tryz.prog 57 #[.pointer (some ⟨a,0,none⟩),.string (bs s)] w fun e w'=>e= .returned (.tuple #[])∧Ate a L E n l.tail w w':=by
 have hl:l≠ []:=fun e=>by subst e;exact hne hs.symm
 obtain⟨c1,z1,c4,hq⟩:=h.at1
 have H:=hide h
 have HS:=hide hs
 have he:=bs_beq s
 clear h hs hne c1 z1
 go_enter Tryz.func57,Tryz.ntmps57
 go_wp2_with fail
 refine(rpeek0 w H.out HS.out).mono ?_;rintro e w1 ⟨rfl,b1⟩
 obtain⟨c1,z1,c4',_⟩:=(H.out.below b1).at1
 have HA:=hide (ate_of H.out b1 hl)
 clear b1 c4 c4'
 generalize L.length - l.length=q at *
 go_wp2_with fail
 exact endP' rfl rfl ⟨rfl,HA.out⟩
theorem namF_ne {s:List UInt8} (h:namF s=true):s≠ []:=fun e=>by subst e;rw [nam_nil] at h;cases h
theorem rname (s:List UInt8) {a:Nat} {L:List Tok} {E:Int} {n:Nat} {l:List Tok} (w:World) (h:RR a L E n l w) (hs:peek0 l=s) (hn:namF s=true):
  Calls Tryz.prog 58 #[.pointer (some ⟨a,0,none⟩)] w fun e w'=>e= .returned (.string (bs s))∧Ate a L E n l.tail w w':=by
 have hl:l≠ []:=fun e=>by subst e;exact namF_ne hn hs.symm
 have hsz:(bs s).size≤maxLen:=by rw [bs_size,←hs];have:=h.short.1;unfold maxLen;omega
 have H:=hide h
 have HS:=hide hs
 have HN:Hid (L2.nameB s=true):=hide hn
 clear h hs hn
 go_enter Tryz.func58,Tryz.ntmps58
 go_wp2_with fail
 refine(rpeek0 w H.out HS.out).mono ?_;rintro e w1 ⟨rfl,b1⟩
 go_wp2_with fail
 refine(L2.rname_any (bs s) w1 hsz).mono ?_;rintro e w2 ⟨rfl,hw2⟩
 rw [hw2,bs_data,HN.out]
 clear hw2
 obtain⟨c1,z1,c4,hq⟩:=(H.out.below b1).at1
 have HA:=hide (ate_of H.out b1 hl)
 clear b1 c4
 generalize L.length - l.length=q at *
 go_wp2_with fail
 go_ret
 exact⟨rfl,HA.out⟩
theorem mark_some {c:UInt8} {most v:Int} {s:List UInt8} (h:G.mark idxF c most s=some v):∃r,s=c :: r∧r≠ []∧(L1.indexNum r most)=(v,0):=by
 match s,h with
 |x :: y :: r,g=>
  clear h
  have h:(if x=c then idxF (y :: r) most else none)=some v:=g
  clear g
  by_cases hx:x=c
  ·rw [if_pos hx] at h
   subst hx
   refine⟨y :: r,rfl,by simp,?_⟩
   unfold idxF at h
   by_cases h0:(L1.indexNum (y :: r) most).2=0
   ·rw [if_pos h0] at h
    injection h with h1
    exact Prod.ext h1 h0
   ·rw [if_neg h0] at h
    cases h
  ·rw [if_neg hx] at h
   cases h
 |[x],h=>cases h
 |[],h=>cases h
theorem bs_tail (c:UInt8) (r:List UInt8):(bs (c :: r)).extract 1 (bs (c :: r)).size=bs r:=by
 apply ByteArray.ext
 apply Array.ext'
 rw [L1.extract_tail]
 rfl
theorem rindex (c:UInt8) (most k v:Int) {s:List UInt8} {a:Nat} {L:List Tok} {E:Int} {n:Nat} {l:List Tok} (w:World) (h:RR a L E n l w) (hs:peek0 l=s) (hm:G.mark idxF c most s=some v):
  Calls Tryz.prog 132 #[.pointer (some ⟨a,0,none⟩),.int .u8 (c.toNat:Int),.int .i64 most,.int .i64 k] w fun e w'=>e= .returned (.int .i64 v)∧Ate a L E n l.tail w w':=by
 obtain⟨r,rfl,hr,hi⟩:=mark_some hm
 have hl:l≠ []:=fun e=>by subst e;cases hs
 have hsh:=h.short.1
 rw [hs] at hsh
 have HZ:=hide (bs_size (c :: r))
 obtain⟨C,hC⟩:∃C,C=bs (c :: r):=⟨_,rfl⟩
 have hz2:2≤C.size:=by rw [hC,bs_size];cases r with | nil=>exact absurd rfl hr | cons x y=>simp
 have hz1:decide ((C.size:Int) < 2)=false:=by simp;omega
 have hz4:0 < C.size:=by omega
 have hz5:1≤C.size:=by omega
 have hz3:C.size≤65536:=by rw [hC,bs_size];exact hsh
 have hrz:(bs r).size≤maxLen:=by rw [bs_size];simp at hsh;unfold maxLen;omega
 have hT:C.extract 1 C.size=bs r:=by rw [hC];exact bs_tail c r
 have h0:(C[0].toNat:Int)=(c.toNat:Int):=by subst hC;rfl
 have H:=hide h
 have HS:Hid (bs (peek0 l)=C):=hide (by rw [hs,hC])
 have HI:=hide hi
 clear h hs hm hr hi hsh hC
 go_enter Tryz.func132,Tryz.ntmps132
 go_wp2_with fail
 refine(rpeek0 w H.out rfl).mono ?_;rintro e w1 ⟨rfl,b1⟩
 rw [HS.out]
 go_wp2_with fail
 refine(L1.refIndex_any (bs r) most w1 hrz).mono ?_;rintro e w2 ⟨rfl,n2,hw2⟩
 rw [bs_data,HI.out]
 have b2:Below w.heap.size w w2:=by rw [hw2];exact below_drewN b1 _
 clear hw2 b1
 obtain⟨c1,z1,c4,hq⟩:=(H.out.below b2).at1
 have HA:=hide (ate_of H.out b2 hl)
 clear b2 c4
 generalize L.length - l.length=q at *
 go_wp2_with fail
 go_ret
 exact⟨rfl,HA.out⟩
theorem rvalue {v:Int} {l r:List Tok} {a:Nat} {L:List Tok} {E:Int} {n:Nat} (w:World) (h:RR a L E n l w) (hv:G.value idxF E l= .ok (v,r)):
  Calls Tryz.prog 107 #[.pointer (some ⟨a,0,none⟩)] w fun e w'=>e= .returned (.int .i64 v)∧Ate a L E n r w w':=by
 obtain⟨_,rfl,hm⟩:=G.value_ok hv
 have H:=hide h
 clear h hv
 go_enter Tryz.func107,Tryz.ntmps107
 go_wp2_with fail
 refine(rindex 37 1048576 8 v w H.out rfl hm).mono ?_;rintro e w1 ⟨rfl,b1⟩
 have HB:=hide b1
 clear b1 hm
 go_wp2_with fail
 go_ret
 exact⟨rfl,HB.out⟩
theorem rlabel {v:Int} {l r:List Tok} {a:Nat} {L:List Tok} {E:Int} {n:Nat} (w:World) (h:RR a L E n l w) (hv:G.label idxF E l= .ok (v,r)):
  Calls Tryz.prog 154 #[.pointer (some ⟨a,0,none⟩)] w fun e w'=>e= .returned (.int .i64 v)∧Ate a L E n r w w':=by
 obtain⟨_,rfl,hm⟩:=G.label_ok hv
 have H:=hide h
 clear h hv
 go_enter Tryz.func154,Tryz.ntmps154
 go_wp2_with fail
 refine(rindex 98 255 7 v w H.out rfl hm).mono ?_;rintro e w1 ⟨rfl,b1⟩
 have HB:=hide b1
 clear b1 hm
 go_wp2_with fail
 go_ret
 exact⟨rfl,HB.out⟩
theorem rnumber (lo hi v:Int) {l:List Tok} {a:Nat} {L:List Tok} {E:Int} {n:Nat} (w:World) (h:RR a L E n l w) (hv:numF (peek0 l)=(v,0)) (h1:lo≤v) (h2:v≤hi):
  Calls Tryz.prog 134 #[.pointer (some ⟨a,0,none⟩),.int .i64 lo,.int .i64 hi] w fun e w'=>e= .returned (.int .i64 v)∧Ate a L E n l.tail w w':=by
 have hl:l≠ []:=fun e=>by subst e;exact num_nil (congrArg Prod.snd hv)
 have hsz:(bs (peek0 l)).size≤maxLen:=by rw [bs_size];have:=h.short.1;unfold maxLen;omega
 have H:=hide h
 have HV:Hid (L1.readNum (peek0 l)=(v,0)):=hide hv
 have g1:decide (v < lo)=false:=by simp;omega
 have g2:decide (hi < v)=false:=by simp;omega
 have g3:¬v < lo:=by omega
 have g4:¬hi < v:=by omega
 clear h hv
 go_enter Tryz.func134,Tryz.ntmps134
 go_wp2_with fail
 refine(rpeek0 w H.out rfl).mono ?_;rintro e w1 ⟨rfl,b1⟩
 go_wp2_with fail
 refine(L1.refParse_any (bs (peek0 l)) w1 hsz).mono ?_;rintro e w2 ⟨rfl,n2,hw2⟩
 rw [bs_data,HV.out]
 have b2:Below w.heap.size w w2:=by rw [hw2];exact below_drewN b1 _
 clear hw2 b1
 obtain⟨c1,z1,c4,hq⟩:=(H.out.below b2).at1
 have HA:=hide (ate_of H.out b2 hl)
 clear b2 c4
 generalize L.length - l.length=q at *
 go_wp2_with fail
 go_ret
 exact⟨rfl,HA.out⟩
theorem number_ok {E lo hi v:Int} {l r:List Tok} (h:G.number numF E lo hi l= .ok (v,r)):r=l.tail∧numF (peek0 l)=(v,0)∧lo≤v∧v≤hi:=by
 obtain⟨_,rfl,h3⟩:=G.one_ok (by simp [num_nil]) h
 by_cases hc:(numF (peek0 l)).2≠0∨(numF (peek0 l)).1 < lo∨hi < (numF (peek0 l)).1
 ·simp only [if_pos hc] at h3;cases h3
 ·simp only [if_neg hc] at h3
  injection h3 with h4
  have e2:(numF (peek0 l)).2=0:=Classical.byContradiction fun hn=>hc (.inl hn)
  refine⟨rfl,Prod.ext h4 e2,?_,?_⟩
  ·rw [←h4];omega
  ·rw [←h4];omega
theorem anyNum_ok {E v:Int} {l r:List Tok} (h:G.anyNum numF E l= .ok (v,r)):r=l.tail∧numF (peek0 l)=(v,0):=by
 obtain⟨_,rfl,h3⟩:=G.one_ok (by simp [num_nil]) h
 by_cases hc:(numF (peek0 l)).2≠0
 ·simp only [if_pos hc] at h3;cases h3
 ·simp only [if_neg hc] at h3
  injection h3 with h4
  exact⟨rfl,Prod.ext h4 (Classical.byContradiction fun hn=>hc hn)⟩
theorem eq_word (s t:List UInt8):((bs s).toList == t)=decide (s=t):=by
 rw [ByteArray.toList_eq,bs_data]
 by_cases h:s=t
 ·subst h;simp
 ·simp [h]
theorem first_of (c:UInt8) (s:List UInt8):(s= []∧((bs s).toList == [])=true)∨(∃x r,s=x :: r∧((bs s).toList == [])=false∧0 < (bs s).size∧((x=c∧∀h:0 < (bs s).size,((bs s)[0].toNat:Int)=(c.toNat:Int))∨(x≠c∧∀h:0 < (bs s).size,(((bs s)[0].toNat:Int) == (c.toNat:Int))=false))):=by
 cases s with
 |nil=>exact .inl ⟨rfl,(eq_word [] []).trans (by simp)⟩
 |cons x r=>
  refine .inr ⟨x,r,rfl,(eq_word (x :: r) []).trans (by simp),by rw [bs_size];simp,?_⟩
  by_cases hx:x=c
  ·exact .inl ⟨hx,fun _=>by subst hx;rfl⟩
  ·refine .inr ⟨hx,fun _=> ?_⟩
   have:(bs (x :: r))[0]=x:=rfl
   rw [this]
   have h2:x.toNat≠c.toNat:=fun e=>hx (UInt8.toNat_inj.1 e)
   simpa using fun e:(x.toNat:Int)=c.toNat=>h2 (by omega)
theorem rtaken {a:Nat} {L:List Tok} {E:Int} {n:Nat} {l:List Tok} (w:World) (h:RR a L E n l w):
  Calls Tryz.prog 137 #[.pointer (some ⟨a,0,none⟩)] w fun e w'=>e= .returned (.bool (G.taken l))∧Below w.heap.size w w':=by
 have H:=hide h
 have HN:=hide (ne_text (peek1 l) [61])
 have hz:(bs (peek0 l)).size≤65536:=by rw [bs_size];exact h.short.1
 clear h
 rcases first_of 37 (peek0 l)with ⟨hs,e0⟩ | ⟨x,r,hs,e0,hp,⟨hx,e1⟩ | ⟨hx,e1⟩⟩
 ·have HT:Hid (G.taken l=false):=hide (by unfold G.taken;rw [hs];rfl)
  clear hs
  go_enter Tryz.func137,Tryz.ntmps137
  go_wp2_with fail
  refine(rpeek0 w H.out rfl).mono ?_;rintro e w1 ⟨rfl,b1⟩
  generalize bs (peek0 l)=C at *
  go_wp2_with fail
  go_ret
  exact⟨ret_bool HT.out.symm,b1⟩
 ·have HT:Hid (G.taken l=decide (peek1 l≠ [61])):=hide (taken_yes (by rw [hs,hx];simp [begins]))
  replace e1:((bs (peek0 l))[0].toNat:Int)=37:=e1 hp
  clear hs hx
  go_enter Tryz.func137,Tryz.ntmps137
  go_wp2_with fail
  refine(rpeek0 w H.out rfl).mono ?_;rintro e w1 ⟨rfl,b1⟩
  generalize bs (peek0 l)=C at *
  go_wp2_with fail
  refine(rpeek1 w1 (H.out.below b1) rfl).mono ?_;rintro e w2 ⟨rfl,b2⟩
  go_wp2_with fail
  go_ret
  exact⟨ret_bool (HN.out.trans HT.out.symm),below_step b1 b2⟩
 ·have HT:Hid (G.taken l=false):=hide (taken_no (by rw [hs];simp [begins,hx]))
  replace e1:(((bs (peek0 l))[0].toNat:Int) == 37)=false:=e1 hp
  clear hs hx
  go_enter Tryz.func137,Tryz.ntmps137
  go_wp2_with fail
  refine(rpeek0 w H.out rfl).mono ?_;rintro e w1 ⟨rfl,b1⟩
  generalize bs (peek0 l)=C at *
  go_wp2_with fail
  go_ret
  exact⟨ret_bool HT.out.symm,b1⟩
theorem rpaired {a:Nat} {L:List Tok} {E:Int} {n:Nat} {l:List Tok} (w:World) (h:RR a L E n l w):
  Calls Tryz.prog 153 #[.pointer (some ⟨a,0,none⟩)] w fun e w'=>e= .returned (.bool (G.paired l))∧Below w.heap.size w w':=by
 have H:=hide h
 have HN:=hide (ne_text (peek1 l) [58])
 have hz:(bs (peek0 l)).size≤65536:=by rw [bs_size];exact h.short.1
 clear h
 rcases first_of 98 (peek0 l)with ⟨hs,e0⟩ | ⟨x,r,hs,e0,hp,⟨hx,e1⟩ | ⟨hx,e1⟩⟩
 ·have HT:Hid (G.paired l=false):=hide (paired_no (by rw [hs];rfl))
  clear hs
  go_enter Tryz.func153,Tryz.ntmps153
  go_wp2_with fail
  refine(rpeek0 w H.out rfl).mono ?_;rintro e w1 ⟨rfl,b1⟩
  generalize bs (peek0 l)=C at *
  go_wp2_with fail
  go_ret
  exact⟨ret_bool HT.out.symm,b1⟩
 ·replace e1:((bs (peek0 l))[0].toNat:Int)=98:=e1 hp
  by_cases hb:peek0 l= [98,114]
  ·have e2:((bs (peek0 l)).toList == [98,114])=true:=(eq_word (peek0 l) [98,114]).trans (decide_eq_true hb)
   have HT:Hid (G.paired l=false):=hide (by unfold G.paired;rw [hb];rfl)
   clear hs hx hb
   go_enter Tryz.func153,Tryz.ntmps153
   go_wp2_with fail
   refine(rpeek0 w H.out rfl).mono ?_;rintro e w1 ⟨rfl,b1⟩
   generalize bs (peek0 l)=C at *
   go_wp2_with fail
   go_ret
   exact⟨ret_bool HT.out.symm,b1⟩
  ·have e2:((bs (peek0 l)).toList == [98,114])=false:=(eq_word (peek0 l) [98,114]).trans (decide_eq_false hb)
   have HT:Hid (G.paired l=decide (peek1 l≠ [58])):=hide (by
    unfold G.paired
    have h1:((peek0 l).head? == some 98)=true:=by rw [hs,hx];rfl
    have h2:(peek0 l != [98,114])=true:=by simpa using hb
    rw [h1,h2]
    by_cases h:peek1 l= [58]
    ·rw [h];rfl
    ·simp [h])
   clear hs hx hb
   go_enter Tryz.func153,Tryz.ntmps153
   go_wp2_with fail
   refine(rpeek0 w H.out rfl).mono ?_;rintro e w1 ⟨rfl,b1⟩
   generalize bs (peek0 l)=C at *
   go_wp2_with fail
   refine(rpeek1 w1 (H.out.below b1) rfl).mono ?_;rintro e w2 ⟨rfl,b2⟩
   go_wp2_with fail
   go_ret
   exact⟨ret_bool (HN.out.trans HT.out.symm),below_step b1 b2⟩
 ·have HT:Hid (G.paired l=false):=hide (paired_no (by rw [hs];simp [begins,hx]))
  replace e1:(((bs (peek0 l))[0].toNat:Int) == 98)=false:=e1 hp
  clear hs hx
  go_enter Tryz.func153,Tryz.ntmps153
  go_wp2_with fail
  refine(rpeek0 w H.out rfl).mono ?_;rintro e w1 ⟨rfl,b1⟩
  generalize bs (peek0 l)=C at *
  go_wp2_with fail
  go_ret
  exact⟨ret_bool HT.out.symm,b1⟩
def MidR (w:World) (a c g:Nat) (L:List Tok) (E:Int) (n:Nat) (x:Ins) (l:List Tok) (wk:World):Prop:=
 RR a L E n l wk∧InsAt w.heap.size c x wk∧wk.heap[g]? =some (.cells #[.int .i64 0,.int .i64 0,.int .i64 0,.int .i64 0,.slice none 0 0,.slice none 0 0,.string ⟨#[]⟩,.int .i64 0] 47 (0,0))∧Kr a w wk∧a < w.heap.size∧w.heap.size≤g∧g≠c
section
variable {w:World} {a c g:Nat} {L:List Tok} {E:Int} {n:Nat} {x:Ins} {l:List Tok} {wk:World}
theorem MidR.lt (h:MidR w a c g L E n x l wk):a < w.heap.size∧w.heap.size≤g∧w.heap.size≤c∧c < wk.heap.size∧g < wk.heap.size∧g≠c∧w.heap.size≤wk.heap.size:=by
 obtain⟨h1,h2,h3,h4,h5,h6,h7⟩:=h
 exact⟨h5,h6,h2.lt.2,h2.lt.1,(Array.getElem?_eq_some_iff.1 h3).1,h7,h4.size⟩
theorem MidR.below {wk':World} (h:MidR w a c g L E n x l wk) (b:Below wk.heap.size wk wk'):MidR w a c g L E n x l wk':=by
 have hl:=h.lt
 obtain⟨h1,h2,h3,h4,h5,h6,h7⟩:=h
 exact⟨h1.below b,h2.step b,(b.block g (by omega)).trans h3,h4.step b,h5,h6,h7⟩
theorem MidR.ate {l':List Tok} {wk':World} (h:MidR w a c g L E n x l wk) (b:Ate a L E n l' wk wk'):MidR w a c g L E n x l' wk':=by
 have hl:=h.lt
 obtain⟨h1,h2,h3,h4,h5,h6,h7⟩:=h
 exact⟨b.1,h2.keep fun k k1 k2=>b.2.2.2.2.2 k k2 (by omega),(b.2.2.2.2.2 g (by omega) (by omega)).trans h3,h4.trans b.2,h5,h6,h7⟩
theorem RR.set {p:Nat} (h:RR a L E n l wk) {cs:Array Value} {t:TypeId} {fz:Nat × Nat} (hp:wk.heap[p]? =some (.cells cs t fz)) (ht:t≠95) (hpa:p≠a) (i:Nat) (v:Value):RR a L E n l (wk.setCell ⟨p,i,none⟩ v):=by
 obtain⟨u,h1,h2,h3⟩:=h
 exact⟨u,(Below.heap_setCell _ _ _ _ (fun e=>hpa e.symm)).trans h1,own_setCell h2 (own_ne h2 hp ht) _,h3⟩
theorem RR.grown {w3:World} {row:Value} {B m:Nat} {ys:List Value} {e' s':Nat} (h:RR a L E n l wk) (hg:wk.grownBy w3 row.ownBlock) (hr:wk.ownsRow B e' s' row m ys) (he:95≠e') (hB:a < B):RR a L E n l w3:=by
 have hlt:=h.lt
 obtain⟨u,h1,h2,h3⟩:=h
 exact⟨u,(hg.block a hlt (fun e=>by have:=(hr.lt a e.symm).1;omega)).trans h1,own_other hg hr he _ _ _ h2,h3⟩
theorem Kr.grown {w3:World} {row:Option Nat} (h:Kr a w wk) (hg:wk.grownBy w3 row) (hr:∀q,row=some q→w.heap.size≤q):Kr a w w3:=
 ⟨hg.os.trans h.1,hg.tape.trans h.2.1,hg.output.trans h.2.2.1,Nat.le_trans h.size hg.size,fun k k1 k2=>(hg.block k (Nat.lt_of_lt_of_le k1 h.size) (fun e=>by have:=hr k e.symm;omega)).trans (h.2.2.2.2 k k1 k2)⟩
theorem MidR.put {y:Ins} {i:Nat} {v:Value} (h:MidR w a c g L E n x l wk) (hy:InsAt w.heap.size c y (wk.setCell ⟨c,i,none⟩ v)):MidR w a c g L E n y l (wk.setCell ⟨c,i,none⟩ v):=by
 have hl:=h.lt
 obtain⟨h1,h2,h3,h4,h5,h6,h7⟩:=h
 have hc:∃cs,wk.heap[c]? =some (.cells cs 47 (0,0)):=by obtain⟨va,vt,k1,_⟩:=h2;exact⟨_,k1⟩
 obtain⟨cs,hc⟩:=hc
 refine⟨h1.set hc (by decide) (by omega) i v,hy,(Below.heap_setCell _ _ _ _ (fun e=>h7 e)).trans h3,?_,h5,h6,h7⟩
 have hb:=(Below.refl 0 wk).setCell (p:=⟨c,i,none⟩) (Nat.zero_le c) v
 exact⟨hb.os.trans h4.1,hb.tape.trans h4.2.1,hb.output.trans h4.2.2.1,Nat.le_trans h4.size hb.size,fun k k1 k2=>(Below.heap_setCell wk ⟨c,i,none⟩ v k (by show k≠c;omega)).trans (h4.2.2.2.2 k k1 k2)⟩
theorem MidR.grown {w3:World} {row:Value} {m:Nat} {ys:List Value} (h:MidR w a c g L E n x l wk) (hg:wk.grownBy w3 row.ownBlock) (hr:wk.ownsRow w.heap.size 3 1 row m ys):RR a L E n l w3∧w3.heap[g]? =some (.cells #[.int .i64 0,.int .i64 0,.int .i64 0,.int .i64 0,.slice none 0 0,.slice none 0 0,.string ⟨#[]⟩,.int .i64 0] 47 (0,0))∧Kr a w w3:=by
 have hl:=h.lt
 obtain⟨h1,h2,h3,h4,h5,h6,h7⟩:=h
 exact⟨h1.grown hg hr (by decide) h5,(hg.block g (by omega) (fun e=>own_ne hr h3 (by decide) e.symm)).trans h3,h4.grown hg fun q hq=>(hr.lt q hq).1⟩
theorem MidR.arg {gg cap:Nat} {k:Int} {va:Value} {w3:World} (h:MidR w a c g L E n x l wk) (hc:wk.cell? ⟨c,4,none⟩=some va)
  (hown:w3.ownsRow w.heap.size 3 1 (.slice (some ⟨gg,0,none⟩) (x.2.2.2.2.1.length+1) cap) (x.2.2.2.2.1.length+1) (ints x.2.2.2.2.1 ++ [.int .i64 k])) (hg:wk.grownBy w3 va.ownBlock) (hat:va.ownBlock=some gg∨gg=wk.heap.size):
  MidR w a c g L E n (addArg x k) l (w3.setCell ⟨c,4,none⟩ (.slice (some ⟨gg,0,none⟩) (x.2.2.2.2.1.length+1) cap)):=by
 have hl:=h.lt
 have hi:=h.2.1.arg hc hown hg hat
 obtain⟨va',vt,k1,k2,k3,k4,k5⟩:=h.2.1
 have e:va'=va:=by
  have:wk.cell? ⟨c,4,none⟩=some va':=by simp [World.cell?,k1,insCells]
  rw [hc] at this;exact(Option.some.inj this).symm
 subst e
 obtain⟨r1,r2,r3⟩:=h.grown hg k2
 have k1':w3.heap[c]? =some (.cells (insCells x va' vt).toArray 47 (0,0)):=(hg.block c hl.2.2.2.1 (fun e=>own_ne k2 k1 (by decide) e.symm)).trans k1
 refine⟨r1.set k1' (by decide) (by omega) 4 _,hi,(Below.heap_setCell _ _ _ _ (fun e=>h.2.2.2.2.2.2 e)).trans r2,?_,h.2.2.2.2.1,h.2.2.2.2.2.1,h.2.2.2.2.2.2⟩
 have hb:=(Below.refl 0 w3).setCell (p:=⟨c,4,none⟩) (Nat.zero_le c) (.slice (some ⟨gg,0,none⟩) (x.2.2.2.2.1.length+1) cap)
 exact⟨hb.os.trans r3.1,hb.tape.trans r3.2.1,hb.output.trans r3.2.2.1,Nat.le_trans r3.size hb.size,fun k k1 k2=>(Below.heap_setCell w3 ⟨c,4,none⟩ _ k (by show k≠c;omega)).trans (r3.2.2.2.2 k k1 k2)⟩
theorem MidR.to {gg cap:Nat} {k:Int} {vt:Value} {w3:World} (h:MidR w a c g L E n x l wk) (hc:wk.cell? ⟨c,5,none⟩=some vt)
  (hown:w3.ownsRow w.heap.size 3 1 (.slice (some ⟨gg,0,none⟩) (x.2.2.2.2.2.1.length+1) cap) (x.2.2.2.2.2.1.length+1) (ints x.2.2.2.2.2.1 ++ [.int .i64 k])) (hg:wk.grownBy w3 vt.ownBlock) (hat:vt.ownBlock=some gg∨gg=wk.heap.size):
  MidR w a c g L E n (addTo x k) l (w3.setCell ⟨c,5,none⟩ (.slice (some ⟨gg,0,none⟩) (x.2.2.2.2.2.1.length+1) cap)):=by
 have hl:=h.lt
 have hi:=h.2.1.to hc hown hg hat
 obtain⟨va,vt',k1,k2,k3,k4,k5⟩:=h.2.1
 have e:vt'=vt:=by
  have:wk.cell? ⟨c,5,none⟩=some vt':=by simp [World.cell?,k1,insCells]
  rw [hc] at this;exact(Option.some.inj this).symm
 subst e
 obtain⟨r1,r2,r3⟩:=h.grown hg k3
 have k1':w3.heap[c]? =some (.cells (insCells x va vt').toArray 47 (0,0)):=(hg.block c hl.2.2.2.1 (fun e=>own_ne k3 k1 (by decide) e.symm)).trans k1
 refine⟨r1.set k1' (by decide) (by omega) 5 _,hi,(Below.heap_setCell _ _ _ _ (fun e=>h.2.2.2.2.2.2 e)).trans r2,?_,h.2.2.2.2.1,h.2.2.2.2.2.1,h.2.2.2.2.2.2⟩
 have hb:=(Below.refl 0 w3).setCell (p:=⟨c,5,none⟩) (Nat.zero_le c) (.slice (some ⟨gg,0,none⟩) (x.2.2.2.2.2.1.length+1) cap)
 exact⟨hb.os.trans r3.1,hb.tape.trans r3.2.1,hb.output.trans r3.2.2.1,Nat.le_trans r3.size hb.size,fun k k1 k2=>(Below.heap_setCell w3 ⟨c,5,none⟩ _ k (by show k≠c;omega)).trans (r3.2.2.2.2 k k1 k2)⟩
end
abbrev bare8 (op id nn ty:Int) (nm:ByteArray) (p:Int):Array Value:= #[.int .i64 op,.int .i64 id,.int .i64 nn,.int .i64 ty,.slice none 0 0,.slice none 0 0,.string nm,.int .i64 p]
theorem MidR.start {w:World} {a:Nat} {L:List Tok} {E:Int} {n:Nat} {l:List Tok} (h:RR a L E n l w) (op id nn ty:Int) (nm:List UInt8) (p:Int):
  MidR w a (w.heap.size+2) (w.heap.size+1) L E n (op,id,nn,ty,[],[],nm,p) l (((w.alloc (.cells (bare8 op id nn ty (bs nm) p) 47)).alloc (.cells (bare8 0 0 0 0 ⟨#[]⟩ 0) 47)).alloc (.cells (bare8 op id nn ty (bs nm) p) 47)):=by
 have b1:=below_box w (.cells (bare8 op id nn ty (bs nm) p) 47)
 have b2:=below_box (w.alloc (.cells (bare8 op id nn ty (bs nm) p) 47)) (.cells (bare8 0 0 0 0 ⟨#[]⟩ 0) 47)
 have b3:=below_box ((w.alloc (.cells (bare8 op id nn ty (bs nm) p) 47)).alloc (.cells (bare8 0 0 0 0 ⟨#[]⟩ 0) 47)) (.cells (bare8 op id nn ty (bs nm) p) 47)
 have s1:(w.alloc (.cells (bare8 op id nn ty (bs nm) p) 47)).heap.size=w.heap.size+1:=by simp
 have s2:((w.alloc (.cells (bare8 op id nn ty (bs nm) p) 47)).alloc (.cells (bare8 0 0 0 0 ⟨#[]⟩ 0) 47)).heap.size=w.heap.size+2:=by simp
 refine⟨((h.below b1).below b2).below b3,⟨.slice none 0 0,.slice none 0 0,?_,World.ownsRow_nil _ _ _ _,World.ownsRow_nil _ _ _ _,.inl rfl,by omega⟩,?_,Kr.of_below (below_step (below_step b1 b2) b3),h.lt,by omega,by omega⟩
 ·rw [←s2];exact heap_alloc_new _ _
 ·refine(b3.block (w.heap.size+1) (by rw [s2];omega)).trans ?_
  rw [←s1];exact heap_alloc_new _ _
def ROut (a:Nat) (L:List Tok) (E:Int) (n:Nat) (y:Ins) (l':List Tok) (w:World) (e:Ending) (w':World):Prop:=
 ∃v,e= .returned v∧InsVal w.heap.size y v w'∧RR a L E n l' w'∧Kr a w w'
theorem then_inv {α β:Type} {X:Except Er (α × List Tok)} {f:α→G.Rd β} {p:β × List Tok} (h:G.andThen X f= .ok p):∃v r,X= .ok (v,r)∧f v r= .ok p:=by
 cases X with
 |error e=>cases h
 |ok q=>exact⟨q.1,q.2,rfl,h⟩
theorem Far.kr {q a:Nat} {u w wk:World} (h:Far q wk w) (hk:Kr a u wk) (hq:u.heap.size≤q):Kr a u w:=
 ⟨h.1.trans hk.1,h.2.1.trans hk.2.1,h.2.2.1.trans hk.2.2.1,by rw [h.2.2.2.1];exact hk.size,fun k k1 k2=>(h.2.2.2.2 k (by omega)).trans (hk.2.2.2.2 k k1 k2)⟩
theorem Far.rr {q a:Nat} {L:List Tok} {E:Int} {n:Nat} {l:List Tok} {u w:World} (h:Far q u w) (hr:RR a L E n l u) {cs:Array Value} {t:TypeId} {fz:Nat × Nat} (hq:u.heap[q]? =some (.cells cs t fz)) (ht:t≠95) (hqa:q≠a):RR a L E n l w:=by
 obtain⟨v,h1,h2,h3⟩:=hr
 exact⟨v,(h.2.2.2.2 a (fun e=>hqa e.symm)).trans h1,h.own h2 (own_ne h2 hq ht),h3⟩
theorem RR.readAt {a:Nat} {L:List Tok} {E:Int} {n:Nat} {l:List Tok} {w:World} (h:RR a L E n l w):YtljkgcfnoegibaaGreatDoor.readAt a w=L.length - l.length:=by
 obtain⟨c1,_⟩:=h.at1
 unfold YtljkgcfnoegibaaGreatDoor.readAt
 rw [c1];simp [intOf]
theorem RR.len {a:Nat} {L:List Tok} {E:Int} {n:Nat} {l:List Tok} {w:World} (h:RR a L E n l w):l.length≤L.length∧L.length≤131072:=by
 obtain⟨v,h1,h2,h5,h6,h7⟩:=h
 exact⟨h5.length_le,h6.1⟩
theorem rphi (op id nn ty:Int) (nm:List UInt8) (p:Int) {a:Nat} {L:List Tok} {E:Int} {n:Nat} {l lf:List Tok} {args to:List Int} (w:World) (h:RR a L E n l w) (hr:G.phi idxF E l= .ok ((to,args),lf)):
  Calls Tryz.prog 135 #[.pointer (some ⟨a,0,none⟩),.agg (bare8 op id nn ty (bs nm) p)] w (ROut a L E n (op,id,nn,ty,args,to,nm,p) lf w):=by
 obtain⟨i0,hi0,hz0,hz1,hz2⟩:=info_parts Tryz.info3
 have M0:Hid (MidR w a (w.heap.size+1+1) (w.heap.size+1) L E n (op,id,nn,ty,[],[],nm,p) l (((w.alloc (.cells (bare8 op id nn ty (bs nm) p) 47)).alloc (.cells (bare8 0 0 0 0 ⟨#[]⟩ 0) 47)).alloc (.cells (bare8 op id nn ty (bs nm) p) 47))):=hide (MidR.start h op id nn ty nm p)
 have HR:Hid (G.phiW idxF E (l.length+1) [] [] l= .ok ((to,args),lf)):=hide hr
 have hLl:=h.len
 clear hr
 clear h
 generalize hg:w.heap.size+1=g at *
 generalize hc:g+1=c at *
 go_enter Tryz.func135,Tryz.ntmps135
 go_upto_region 2 with fail
 show Code.wp _ _ _ _ (((w.alloc (.cells (bare8 op id nn ty (bs nm) p) 47)).alloc (.cells (bare8 0 0 0 0 ⟨#[]⟩ 0) 47)).alloc (.cells (bare8 op id nn ty (bs nm) p) 47))
 generalize ((w.alloc (.cells (bare8 op id nn ty (bs nm) p) 47)).alloc (.cells (bare8 0 0 0 0 ⟨#[]⟩ 0) 47)).alloc (.cells (bare8 op id nn ty (bs nm) p) 47)=W0 at *
 clear hg hc
 go_wp2_with fail
 go_loopw [] (fun wr=>∃(f:Nat) (ar tt:List Int) (l':List Tok),Hid (MidR w a c g L E n (op,id,nn,ty,ar,tt,nm,p) l' wr)∧l'.length < f∧tt.length+l'.length≤L.length∧ar.length+l'.length≤L.length∧Hid (G.phiW idxF E f tt ar l'= .ok ((to,args),lf))) (fun wr=>L.length - readAt a wr)
 case atStart=>exact⟨l.length+1,[],[],l,M0,by omega,by simp;omega,by simp;omega,HR⟩
 case round=>
  obtain⟨f,ar,tt,l',M,hf,hT,hA,HR'⟩:=hrel
  have hra:=M.out.1.readAt
  have hll:=M.out.1.len
  obtain⟨f,rfl⟩:∃q,f=q+1:=⟨f - 1,by omega⟩
  obtain⟨va0,vt0,HC0,HZ0,o10,o20,o30⟩:=M.out.2.1.cells
  obtain⟨ao0,cp0,rfl⟩:=own_len o20
  have q5:wr.cell? ⟨c,5,none⟩=some (.slice ao0 tt.length cp0):=HC0 5 _ rfl
  have q4:=M.out.1.at1.2.2.1
  clear HC0 HZ0 o10 o20 o30
  by_cases hgo:tt= []∨G.paired l'=true
  ·obtain⟨b,l2,hb,hr2⟩:=then_inv (show G.andThen (G.label idxF E l') (fun b r=>G.andThen (G.value idxF E r) fun v=>G.phiW idxF E f (tt ++ [b]) (ar ++ [v]))= .ok ((to,args),lf) from by have:=HR'.out;unfold G.phiW at this;rwa [if_pos hgo] at this)
   obtain⟨v,l3,hv,hr3⟩:=then_inv hr2
   have e2:=(G.label_ok hb).1
   have e2':=(G.label_ok hb).2.1
   have e3:=(G.value_ok hv).1
   have e3':=(G.value_ok hv).2.1
   have hl23:l3.length+2≤l'.length:=by
    have:=tail_bulk e2
    have:=tail_bulk e3
    rw [e3',←e2'] at *
    rw [←e2'] at *
    omega
   have HB:=hide hb
   have HV:=hide hv
   have HR3:=hide hr3
   clear hb hr2 hv hr3 e2 e2' e3 e3' HR'
   by_cases ht0:tt= []
   ·have hto:((tt.length:Int) == 0)=true:=by rw [ht0];rfl
    have M5:=M
    clear hgo M
    go_wp2_with fail
    clear ht0 hto q4 q5
    refine(rlabel _ M5.out.1 HB.out).mono ?_;rintro e w2 ⟨rfl,a2⟩
    have M1:=hide (M5.out.ate a2)
    clear M5 a2
    go_wp2_with fail
    refine(rvalue _ M1.out.1 HV.out).mono ?_;rintro e w3 ⟨rfl,a3⟩
    have M2:=hide (M1.out.ate a3)
    clear M1 a3
    obtain⟨va,vt,HC,HZ4,o1,o2,o3⟩:=M2.out.2.1.cells
    have hcl7:=M2.out.lt
    have cA:=HC 5 _ rfl
    have zA:=HZ4 5
    have hne:vt.ownBlock≠some c:=(o3 c (by obtain⟨ua,ut,q1,_⟩:=M2.out.2.1;exact⟨_,_,q1⟩)).2
    obtain⟨ao7,cp7,rfl⟩:=own_len o2
    have O7:=hide o2
    obtain⟨cB,zB⟩:=Cel.below (below_box w3 (.cells #[.int .i64 b] 3)) hcl7.2.2.2.1 cA zA
    clear HC HZ4 o1 o2 o3
    have t27:tt.length+1≤maxLen:=by unfold maxLen;omega
    have t37:(tt.length+1) * 8≤140737488355328:=by omega
    have t47:w.heap.size≤(w3.alloc (.cells #[.int .i64 b] 3)).heap.size:=by simp;omega
    have t57:c < (w3.alloc (.cells #[.int .i64 b] 3)).heap.size:=by simp;omega
    go_upto_region 6 with (at_builtin;refine wpList_append_lies _ rfl (.tmp 30) (.tmp 32) 33 rfl w.heap.size 3 i0 _ 1 8 Tryz.underlying33 hi0 hz0 hz1 hz2 rfl (by decide) _ _ _ rfl (O7.out.alloc _) ⟨w3.heap.size,0,none⟩ 1 1 [.int .i64 b] rfl rfl one_cell one_one (by decide) t27 t37 t47 (w3.heap.size+1) (by simp) ?_;intro gg7 cap7 w7 hown7 hgrow7 hat7 hlt7;obtain⟨cC7,zC7⟩:=Cel.grown hgrow7 t57 hne cB zB)
    have M3:=hide ((M2.out.below (below_box w3 (.cells #[.int .i64 b] 3))).to cB hown7 hgrow7 (hat7.imp (fun e=>e) (fun e=>e.trans (by simp))))
    show Code.wp _ _ _ _ (w7.setCell ⟨c,5,none⟩ (.slice (some ⟨gg7,0,none⟩) (tt.length+1) cap7))
    have M3:Hid (MidR w a c g L E n (op,id,nn,ty,ar,tt ++ [b],nm,p) l3 (w7.setCell ⟨c,5,none⟩ (.slice (some ⟨gg7,0,none⟩) (tt.length+1) cap7))):=M3
    clear cC7 zC7 hown7 hgrow7 hat7 hlt7 O7 cA zA cB zB hne t27 t37 t47 t57 hcl7 M2
    generalize w7.setCell ⟨c,5,none⟩ (.slice (some ⟨gg7,0,none⟩) (tt.length+1) cap7)=W7 at *
    clear va
    obtain⟨va,vt,HC,HZ4,o1,o2,o3⟩:=M3.out.2.1.cells
    have hcl8:=M3.out.lt
    have cA:=HC 4 _ rfl
    have zA:=HZ4 4
    have hne:va.ownBlock≠some c:=(o3 c (by obtain⟨ua,ut,q1,_⟩:=M3.out.2.1;exact⟨_,_,q1⟩)).1
    obtain⟨ao8,cp8,rfl⟩:=own_len o1
    have O8:=hide o1
    obtain⟨cB,zB⟩:=Cel.below (below_box W7 (.cells #[.int .i64 v] 3)) hcl8.2.2.2.1 cA zA
    clear HC HZ4 o1 o2 o3
    have t28:ar.length+1≤maxLen:=by unfold maxLen;omega
    have t38:(ar.length+1) * 8≤140737488355328:=by omega
    have t48:w.heap.size≤(W7.alloc (.cells #[.int .i64 v] 3)).heap.size:=by simp;omega
    have t58:c < (W7.alloc (.cells #[.int .i64 v] 3)).heap.size:=by simp;omega
    go_wp2_with (at_builtin;refine wpList_append_lies _ rfl (.tmp 36) (.tmp 38) 33 rfl w.heap.size 3 i0 _ 1 8 Tryz.underlying33 hi0 hz0 hz1 hz2 rfl (by decide) _ _ _ rfl (O8.out.alloc _) ⟨W7.heap.size,0,none⟩ 1 1 [.int .i64 v] rfl rfl one_cell one_one (by decide) t28 t38 t48 (W7.heap.size+1) (by simp) ?_;intro gg8 cap8 w8 hown8 hgrow8 hat8 hlt8;obtain⟨cC8,zC8⟩:=Cel.grown hgrow8 t58 hne cB zB)
    have M4:=hide ((M3.out.below (below_box W7 (.cells #[.int .i64 v] 3))).arg cB hown8 hgrow8 (hat8.imp (fun e=>e) (fun e=>e.trans (by simp))))
    have hra4:=M4.out.1.readAt
    have hll4:=M4.out.1.len
    go_roundw
    case rel=>exact⟨f,ar ++ [v],tt ++ [b],l3,M4,by omega,by simp;omega,by simp;omega,HR3⟩
    case measure=>rw [hra,hra4];omega
   ·have hto:((tt.length:Int) == 0)=false:=by cases tt with
     |nil=>exact absurd rfl ht0
     |cons x y=>simp;omega
    have HP0:=hide (hgo.resolve_left ht0)
    clear hgo ht0
    go_wp2_with fail
    refine(rpaired _ M.out.1).mono ?_;rintro e w1 ⟨rfl,b1⟩
    rw [HP0.out]
    have M5:=hide (M.out.below b1)
    clear M b1 q4 q5
    go_wp2_with fail
    clear hto
    refine(rlabel _ M5.out.1 HB.out).mono ?_;rintro e w2 ⟨rfl,a2⟩
    have M1:=hide (M5.out.ate a2)
    clear M5 a2
    go_wp2_with fail
    refine(rvalue _ M1.out.1 HV.out).mono ?_;rintro e w3 ⟨rfl,a3⟩
    have M2:=hide (M1.out.ate a3)
    clear M1 a3
    obtain⟨va,vt,HC,HZ4,o1,o2,o3⟩:=M2.out.2.1.cells
    have hcl7:=M2.out.lt
    have cA:=HC 5 _ rfl
    have zA:=HZ4 5
    have hne:vt.ownBlock≠some c:=(o3 c (by obtain⟨ua,ut,q1,_⟩:=M2.out.2.1;exact⟨_,_,q1⟩)).2
    obtain⟨ao7,cp7,rfl⟩:=own_len o2
    have O7:=hide o2
    obtain⟨cB,zB⟩:=Cel.below (below_box w3 (.cells #[.int .i64 b] 3)) hcl7.2.2.2.1 cA zA
    clear HC HZ4 o1 o2 o3
    have t27:tt.length+1≤maxLen:=by unfold maxLen;omega
    have t37:(tt.length+1) * 8≤140737488355328:=by omega
    have t47:w.heap.size≤(w3.alloc (.cells #[.int .i64 b] 3)).heap.size:=by simp;omega
    have t57:c < (w3.alloc (.cells #[.int .i64 b] 3)).heap.size:=by simp;omega
    go_upto_region 6 with (at_builtin;refine wpList_append_lies _ rfl (.tmp 30) (.tmp 32) 33 rfl w.heap.size 3 i0 _ 1 8 Tryz.underlying33 hi0 hz0 hz1 hz2 rfl (by decide) _ _ _ rfl (O7.out.alloc _) ⟨w3.heap.size,0,none⟩ 1 1 [.int .i64 b] rfl rfl one_cell one_one (by decide) t27 t37 t47 (w3.heap.size+1) (by simp) ?_;intro gg7 cap7 w7 hown7 hgrow7 hat7 hlt7;obtain⟨cC7,zC7⟩:=Cel.grown hgrow7 t57 hne cB zB)
    have M3:=hide ((M2.out.below (below_box w3 (.cells #[.int .i64 b] 3))).to cB hown7 hgrow7 (hat7.imp (fun e=>e) (fun e=>e.trans (by simp))))
    show Code.wp _ _ _ _ (w7.setCell ⟨c,5,none⟩ (.slice (some ⟨gg7,0,none⟩) (tt.length+1) cap7))
    have M3:Hid (MidR w a c g L E n (op,id,nn,ty,ar,tt ++ [b],nm,p) l3 (w7.setCell ⟨c,5,none⟩ (.slice (some ⟨gg7,0,none⟩) (tt.length+1) cap7))):=M3
    clear cC7 zC7 hown7 hgrow7 hat7 hlt7 O7 cA zA cB zB hne t27 t37 t47 t57 hcl7 M2
    generalize w7.setCell ⟨c,5,none⟩ (.slice (some ⟨gg7,0,none⟩) (tt.length+1) cap7)=W7 at *
    clear va
    obtain⟨va,vt,HC,HZ4,o1,o2,o3⟩:=M3.out.2.1.cells
    have hcl8:=M3.out.lt
    have cA:=HC 4 _ rfl
    have zA:=HZ4 4
    have hne:va.ownBlock≠some c:=(o3 c (by obtain⟨ua,ut,q1,_⟩:=M3.out.2.1;exact⟨_,_,q1⟩)).1
    obtain⟨ao8,cp8,rfl⟩:=own_len o1
    have O8:=hide o1
    obtain⟨cB,zB⟩:=Cel.below (below_box W7 (.cells #[.int .i64 v] 3)) hcl8.2.2.2.1 cA zA
    clear HC HZ4 o1 o2 o3
    have t28:ar.length+1≤maxLen:=by unfold maxLen;omega
    have t38:(ar.length+1) * 8≤140737488355328:=by omega
    have t48:w.heap.size≤(W7.alloc (.cells #[.int .i64 v] 3)).heap.size:=by simp;omega
    have t58:c < (W7.alloc (.cells #[.int .i64 v] 3)).heap.size:=by simp;omega
    go_wp2_with (at_builtin;refine wpList_append_lies _ rfl (.tmp 36) (.tmp 38) 33 rfl w.heap.size 3 i0 _ 1 8 Tryz.underlying33 hi0 hz0 hz1 hz2 rfl (by decide) _ _ _ rfl (O8.out.alloc _) ⟨W7.heap.size,0,none⟩ 1 1 [.int .i64 v] rfl rfl one_cell one_one (by decide) t28 t38 t48 (W7.heap.size+1) (by simp) ?_;intro gg8 cap8 w8 hown8 hgrow8 hat8 hlt8;obtain⟨cC8,zC8⟩:=Cel.grown hgrow8 t58 hne cB zB)
    have M4:=hide ((M3.out.below (below_box W7 (.cells #[.int .i64 v] 3))).arg cB hown8 hgrow8 (hat8.imp (fun e=>e) (fun e=>e.trans (by simp))))
    have hra4:=M4.out.1.readAt
    have hll4:=M4.out.1.len
    go_roundw
    case rel=>exact⟨f,ar ++ [v],tt ++ [b],l3,M4,by omega,by simp;omega,by simp;omega,HR3⟩
    case measure=>rw [hra,hra4];omega
  ·have ht0:tt≠ []:=fun e=>hgo (.inl e)
   have hp0:G.paired l'=false:=by cases hq:G.paired l' with
    |false=>rfl
    |true=>exact absurd (.inr hq) hgo
   have hto:((tt.length:Int) == 0)=false:=by cases tt with
    |nil=>exact absurd rfl ht0
    |cons x y=>simp;omega
   obtain⟨⟨rfl,rfl⟩,rfl⟩:(tt=to∧ar=args)∧l'=lf:=by have:=HR'.out;unfold G.phiW at this;rw [if_neg hgo] at this;cases this;exact⟨⟨rfl,rfl⟩,rfl⟩
   have HP0:=hide hp0
   clear hgo ht0 hp0 HR'
   go_wp2_with fail
   refine(rpaired _ M.out.1).mono ?_;rintro e w1 ⟨rfl,b1⟩
   rw [HP0.out]
   have M1:=hide (M.out.below b1)
   clear M b1 q4 q5
   obtain⟨va',vt',HC,HZ4,o1,o2,o3⟩:=M1.out.2.1.cells
   obtain⟨aoA,mA,cA,rfl⟩:=own_slice o1
   obtain⟨aoT,mT,cT,rfl⟩:=own_slice o2
   have y0:=HC 0 _ rfl
   have y1:=HC 1 _ rfl
   have y2:=HC 2 _ rfl
   have y3:=HC 3 _ rfl
   have y4:=HC 4 _ rfl
   have y5:=HC 5 _ rfl
   have y6:=HC 6 _ rfl
   have y7:=HC 7 _ rfl
   have hS:=M1.out.2.2.1
   obtain⟨o3a,o3b⟩:=o3 g ⟨_,_,hS⟩
   have hS:=hide hS
   have o1:=hide o1
   have o2:=hide o2
   clear HC HZ4 o3
   obtain⟨s0,s1,s2,s3,s4,s5,s6,s7,f0,f1,f2,f3,f4,f5,f6,f7⟩:=res8 hS.out
   have hcn:c≠g:=fun e=>M1.out.2.2.2.2.2.2 e.symm
   have FF:=hide (((((((((Far.refl g w1).set 0 (.int .i64 op)).set 1 (.int .i64 id)).set 2 (.int .i64 nn)).set 3 (.int .i64 ty)).set 4 (.slice aoA mA cA)).set 5 (.slice aoT mT cT)).set 6 (.string (bs nm))).set 7 (.int .i64 p))
   have KK:=hide (FF.out.kr M1.out.2.2.2.1 M1.out.2.2.2.2.2.1)
   have QQ:=hide (FF.out.rr M1.out.1 hS.out (by decide) (by have:=M1.out.lt;omega))
   have OO:=hide (⟨FF.out.own o1.out o3a,FF.out.own o2.out o3b⟩:_∧_)
   go_wp2_with fail
   exact bodyPost_ret (v:= .agg (insCells (op,id,nn,ty,ar,tt,nm,p) (.slice aoA mA cA) (.slice aoT mT cT)).toArray) (by simp [results,Tryz.results135,go_sem,insCells,s0,s1,s2,s3,s4,s5,s6,s7]) rfl ⟨_,rfl,⟨_,_,rfl,OO.out.1,OO.out.2⟩,QQ.out,KK.out⟩
end Go.Proofs.YtljkgcfnoegibaaGreatDoor
