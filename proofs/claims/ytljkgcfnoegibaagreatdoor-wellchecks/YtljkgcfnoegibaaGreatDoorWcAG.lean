/- Texts of one chain, joined. -/
import Derived.Test.YtljkgcfnoegibaaGreatDoorWcAA
import Derived.Test.YtljkgcfnoegibaaGreatDoorWcAE
import Derived.Test.YtljkgcfnoegibaaGreatDoorWcAF
import Derived.Deep.RegionHeld3
import Derived.Deep.AppendLies
import Derived.Deep.DrawnRows
import Derived.Deep.RegionLaw
import Derived.Deep.RegionWith
import Derived.Laws.MakeOwn
import Derived.Laws.CopyOwn
set_option maxHeartbeats 4000000
set_option maxRecDepth 20000
namespace Go.Proofs.YtljkgcfnoegibaaGreatDoor
open Go Go.RowKit
open G (Tok Er Ins Fun)
def wholeF:Nat→Nat→List Fun→Int × Int
 |_,_,[]=>(0,0)
 |i,m,f :: r=>if i=32 then(6,(i:Int))else if headC f≠0 then(headC f,(i:Int))else if(runB m f.2.2.2.1).2≠0 then((runB m f.2.2.2.1).2,(i:Int))else wholeF (i+1) (runB m f.2.2.2.1).1 r
theorem whole_many (m:Nat) (f:Fun) (r:List Fun):wholeF 32 m (f :: r)=(6,((32:Nat):Int)):=by rw [wholeF,if_pos rfl]
theorem whole_head {i:Nat} (m:Nat) {f:Fun} (r:List Fun) (hi:i≠32) (hh:headC f≠0):wholeF i m (f :: r)=(headC f,(i:Int)):=by rw [wholeF,if_neg hi,if_pos hh]
theorem whole_body {i m:Nat} {f:Fun} (r:List Fun) (hi:i≠32) (hh:headC f=0) (hb:(runB m f.2.2.2.1).2≠0):wholeF i m (f :: r)=((runB m f.2.2.2.1).2,(i:Int)):=by
 rw [wholeF,if_neg hi,if_neg (by simp [hh]),if_pos hb]
theorem whole_next {i m:Nat} {f:Fun} (r:List Fun) (hi:i≠32) (hh:headC f=0) (hb:(runB m f.2.2.2.1).2=0):wholeF i m (f :: r)=wholeF (i+1) (runB m f.2.2.2.1).1 r:=by
 rw [wholeF,if_neg hi,if_neg (by simp [hh]),if_neg (by simp [hb])]
theorem head_any (f:Fun) (v:Value) (w:World) (h:FunV w f v) (hO:OkF f):Calls Tryz.prog 62 #[v] w fun e w'=>e= .returned (.int .i64 (headC f))∧Below w.heap.size w w':=by
 obtain⟨nm,ps,rt,bl,pl⟩:=f
 obtain⟨vp,vb,rfl,⟨ao,c,rfl,h1,h2,h3⟩,⟨bo,cb,rfl,h4,h5,_⟩⟩:=h
 exact head_try nm ps rt pl bl ao bo c cb w h1 ⟨Nat.le_trans h2 h3,Nat.le_trans h4 h5⟩ hO.1
theorem body_any (m:Nat) (f:Fun) (v:Value) (w:World) (h:FunV w f v) (ht:Tb w) (hO:OkF f) (hm:m≤4096):Calls Tryz.prog 63 #[v,.int .i64 m] w fun e w'=>e= .returned (.tuple #[.int .i64 ((runB m f.2.2.2.1).1:Nat),.int .i64 (runB m f.2.2.2.1).2])∧Below w.heap.size w w':=by
 obtain⟨nm,ps,rt,bl,pl⟩:=f
 obtain⟨vp,vb,rfl,⟨ao,c,rfl,h1,_⟩,h2⟩:=h
 have h2':=h2
 obtain⟨bo,cb,rfl,_⟩:=h2
 exact body_try m nm ps rt pl bl ao bo c cb w h2' ht hO hm
theorem two7_boxes (w:World) (v:Value):Below w.heap.size w ((w.alloc (.cells #[v] 24)).alloc (.cells #[.int .i64 0,.int .i64 0] 29))∧((w.alloc (.cells #[v] 24)).alloc (.cells #[.int .i64 0,.int .i64 0] 29)).heap[w.heap.size]? =some (.cells #[v] 24 (0,0))∧
  ((w.alloc (.cells #[v] 24)).alloc (.cells #[.int .i64 0,.int .i64 0] 29)).heap[w.heap.size+1]? =some (.cells #[.int .i64 0,.int .i64 0] 29 (0,0))∧w.heap.size+1 < ((w.alloc (.cells #[v] 24)).alloc (.cells #[.int .i64 0,.int .i64 0] 29)).heap.size:=by
 refine⟨below_step (below_box w _) (below_box _ _),(heap_alloc_old _ _ (by simp)).trans (heap_alloc_new w _),?_,by simp⟩
 have:=heap_alloc_new (w.alloc (.cells #[v] 24)) (.cells #[.int .i64 0,.int .i64 0] 29)
 rwa [show(w.alloc (.cells #[v] 24)).heap.size=w.heap.size+1 from by simp] at this
theorem err7_box {w:World} {c:Nat} {a b:Value} (h:w.heap[c]? =some (.cells #[a,b] 29 (0,0))):w.cell? ⟨c,0,none⟩=some a∧w.cell? ⟨c,1,none⟩=some b∧w.frozen? ⟨c,0,none⟩=false∧w.frozen? ⟨c,1,none⟩=false:=by
 simp [World.cell?,World.frozen?,h]
theorem err7_below {w W wr:World} {a b:Value} (h0:Below w.heap.size w W) (h:Below W.heap.size W wr):Below w.heap.size w ((wr.setCell ⟨w.heap.size+1,0,none⟩ a).setCell ⟨w.heap.size+1,1,none⟩ b):=
 ((below_step h0 h).setCell (p:=⟨w.heap.size+1,0,none⟩) (Nat.le_succ _) a).setCell (p:=⟨w.heap.size+1,1,none⟩) (Nat.le_succ _) b
theorem whole_try (p:List Fun) (ao:Option Addr) (c:Nat) (w:World) (hp:ProgR w p (.slice ao p.length c)) (ht:Tb w) (hO:∀f∈p,OkF f):
  Calls Tryz.prog 37 #[.agg #[.slice ao p.length c]] w fun e w'=>e= .returned (.agg #[.int .i64 (wholeF 0 0 p).1,.int .i64 (wholeF 0 0 p).2])∧Below w.heap.size w w':=by
 obtain⟨b0,h0,h1,hz0⟩:=two7_boxes w (.slice ao p.length c)
 have H0:=hide h0
 have H1:=hide h1
 have T0:=hide (ht.below b0)
 have HP:=hide (hp.below b0)
 have B0:=hide b0
 have HO:=hide hO
 have hpc:p.length≤c∧c≤maxLen:=by
  obtain⟨ao',c',e,h1,h2,_⟩:=hp
  injection e with e1 e2 e3
  subst e3
  exact⟨h1,h2⟩
 unfold maxLen at hpc
 clear b0 h0 h1 ht hp hO
 go_enter Tryz.func37,Tryz.ntmps37
 go_upto_region 1 with fail
 show Code.wp _ _ _ _ ((w.alloc (.cells #[.slice ao p.length c] 24)).alloc (.cells #[.int .i64 0,.int .i64 0] 29))
 generalize (w.alloc (.cells #[.slice ao p.length c] 24)).alloc (.cells #[.int .i64 0,.int .i64 0] 29)=W at *
 have c0:=cell9 H0.out
 go_wp2_with fail
 go_loopw [3,10] (fun mm i wr=>∃(m K:Nat),m≤4096∧mm= .int .i64 m∧K≤p.length∧K≤32∧i= .int .i64 K∧Hid (wholeF 0 0 p=wholeF K m (p.drop K))∧Hid (Below W.heap.size W wr)) (fun _ i _=>p.length - (intOf i).toNat)
 case atStart=>exact⟨0,0,by omega,rfl,Nat.zero_le _,by omega,rfl,hide rfl,hide (Below.refl _ _)⟩
 case round=>
  obtain⟨m,K,hm,rfl,hK,hK32,rfl,HR,HW⟩:=hrel
  by_cases hkt:K < p.length
  ·obtain⟨f,hfK⟩:∃f,p[K]? =some f:=⟨p[K],List.getElem?_eq_some_iff.2 ⟨hkt,rfl⟩⟩
   obtain⟨ao',c',eq',hh1,hh2,hh3⟩:=HP.out
   injection eq' with e1 e2 e3
   subst e1 e3
   rcases hh3 with hh3 | ⟨gb,ob,rfl,hin⟩
   ·subst hh3;simp at hkt
   obtain⟨aoy,boy,cy,cby,hv,q0,q1,q2,q3,q4⟩:=((hin K f hfK).below HW.out).val
   have HV:=hide hv
   have HOf:=hide (HO.out f (List.mem_of_getElem? hfK))
   have hkI:(K:Int) < p.length:=by omega
   have HR2:=hide (HR.out.trans (by rw [wdrop_at hfK]))
   have TK:=hide (T0.out.below HW.out)
   obtain⟨nm,ps,rt,bl,pl⟩:=f
   dsimp only at HV q0 q1 q2 q3 q4
   clear hin hfK hv HR
   have B7:=hide (below_box wr (.cells #[.string (bs nm),.slice aoy ps.length cy,.int .i64 rt,.slice boy bl.length cby,.int .i64 pl] 36))
   have H7:=hide (heap_alloc_new wr (.cells #[.string (bs nm),.slice aoy ps.length cy,.int .i64 rt,.slice boy bl.length cby,.int .i64 pl] 36))
   by_cases h32:K=32
   ·subst h32
    have HE:=hide (HR2.out.trans (whole_many _ _ _))
    have h32':(((32:Nat):Int) == 32)=true:=rfl
    obtain⟨d0,d1,z0,z1⟩:=err7_box (((HW.out.trans (B7.out.mono HW.out.size)).block _ hz0).trans H1.out)
    have hW8:=hide (HW.out.trans (B7.out.mono HW.out.size))
    go_wp2_with fail
    exact bodyPost_ret (v:= .agg #[.int .i64 6,.int .i64 ((32:Nat):Int)]) (by simp [results,Tryz.results37,go_sem,d0,d1]) rfl ⟨by rw [HE.out],err7_below B0.out hW8.out⟩
   ·have h32':((K:Int) == 32)=false:=beq_eq_false_iff_ne.2 (by omega)
    go_wp2_with fail
    refine(head_any (nm,ps,rt,bl,pl) _ _ (HV.out.below B7.out) HOf.out).mono ?_;rintro e w8 ⟨rfl,b8⟩
    have HW8:=hide (below_step HW.out (below_step B7.out b8))
    have hwl:wr.heap.size < w8.heap.size:=Nat.lt_of_lt_of_le (Array.getElem?_eq_some_iff.1 H7.out).1 b8.size
    obtain⟨s0,s1,s2,s3,s4⟩:=box5 ((b8.block _ (Array.getElem?_eq_some_iff.1 H7.out).1).trans H7.out)
    have HV8:=hide (HV.out.below (below_step B7.out b8))
    have T8:=hide (TK.out.below (below_step B7.out b8))
    clear b8 q0 q1 q2 q3 q4
    by_cases hh:headC (nm,ps,rt,bl,pl)=0
    ·have HH:=hide hh
     rw [hh]
     clear hh
     go_wp2_with fail
     refine(body_any m (nm,ps,rt,bl,pl) _ _ HV8.out T8.out HOf.out hm).mono ?_;rintro e w9 ⟨rfl,b9⟩
     have HW9:=hide (below_step HW8.out b9)
     clear b9 s0 s1 s2 s3 s4
     have hle:=runB_le bl m hm
     by_cases hb:(runB m bl).2=0
     ·have HE:=hide (HR2.out.trans (whole_next _ h32 HH.out hb))
      dsimp only
      rw [hb]
      dsimp only at HE
      generalize (runB m bl).1=m2 at *
      clear hb
      go_wp2_with fail
      go_roundw
      case rel=>exact⟨m2,K+1,hle,rfl,by omega,by omega,by go_num,HE,HW9⟩
      case measure=>simp [intOf];omega
     ·have HE:=hide (HR2.out.trans (whole_body _ h32 HH.out hb))
      have hb':((runB m bl).2 != 0)=true:=by simpa using hb
      dsimp only
      dsimp only at HE
      generalize (runB m bl).2=z at *
      generalize (runB m bl).1=m2 at *
      clear hb
      obtain⟨d0,d1,z0,z1⟩:=err7_box ((HW9.out.block _ hz0).trans H1.out)
      go_wp2_with fail
      exact bodyPost_ret (v:= .agg #[.int .i64 z,.int .i64 (K:Int)]) (by simp [results,Tryz.results37,go_sem,d0,d1]) rfl ⟨by rw [HE.out],err7_below B0.out HW9.out⟩
    ·have HE:=hide (HR2.out.trans (whole_head _ _ h32 hh))
     have hh':(headC (nm,ps,rt,bl,pl) == 0)=false:=by simpa using hh
     have hh2:(headC (nm,ps,rt,bl,pl) != 0)=true:=by simpa using hh
     generalize headC (nm,ps,rt,bl,pl)=z at *
     clear hh
     obtain⟨d0,d1,z0,z1⟩:=err7_box ((HW8.out.block _ hz0).trans H1.out)
     go_wp2_with fail
     exact bodyPost_ret (v:= .agg #[.int .i64 z,.int .i64 (K:Int)]) (by simp [results,Tryz.results37,go_sem,d0,d1]) rfl ⟨by rw [HE.out],err7_below B0.out HW8.out⟩
  ·obtain rfl:K=p.length:=by omega
   have HE:Hid (wholeF 0 0 p=(0,0)):=hide (HR.out.trans (by rw [List.drop_length];rfl))
   obtain⟨d0,d1,z0,z1⟩:=err7_box ((HW.out.block _ hz0).trans H1.out)
   go_wp2_with fail
   exact bodyPost_ret (v:= .agg #[.int .i64 0,.int .i64 0]) (by simp [results,Tryz.results37,go_sem,d0,d1]) rfl ⟨by rw [HE.out],err7_below B0.out HW.out⟩
open G (Tok Er Ins Fun peek0 peek1 atOf)
theorem below_drewN {B:Nat} {a w:World} (h:Below B a w) (n:Nat):Below B a (w.drewN n):=⟨h.1,h.2,h.3,h.4,h.5⟩
def tells (s:List UInt8) (t:Int):Bool:=(L5.letter t).toList == s
theorem Tryz.info3:(Tryz.prog.info? 3).map (fun i=>(i.zero,i.size,i.bytes))=some (some (.int .i64 0),1,8):=by kernel_rfl
abbrev ints (l:List Int):List Value:=l.map (Value.int .i64)
def insCells (x:Ins) (va vt:Value):List Value:= [.int .i64 x.1,.int .i64 x.2.1,.int .i64 x.2.2.1,.int .i64 x.2.2.2.1,va,vt,.string (bs x.2.2.2.2.2.2.1),.int .i64 x.2.2.2.2.2.2.2]
def InsAt (B c:Nat) (x:Ins) (w:World):Prop:=
 ∃va vt,w.heap[c]? =some (.cells (insCells x va vt).toArray 47 (0,0))∧w.ownsRow B 3 1 va x.2.2.2.2.1.length (ints x.2.2.2.2.1)∧w.ownsRow B 3 1 vt x.2.2.2.2.2.1.length (ints x.2.2.2.2.2.1)∧
  (va.ownBlock=none∨va.ownBlock≠vt.ownBlock)∧B≤c
theorem InsAt.keep {B c:Nat} {x:Ins} {w w':World} (h:InsAt B c x w) (hb:∀k,B≤k→k < w.heap.size→w'.heap[k]? =w.heap[k]?):InsAt B c x w':=by
 obtain⟨va,vt,h1,h2,h3,h4,h5⟩:=h
 have key:∀ {v:Value} {n:Nat} {xs:List Value},w.ownsRow B 3 1 v n xs→w'.ownsRow B 3 1 v n xs:=by
  intro v n xs ho
  refine⟨ho.1,?_⟩
  rcases ho.2 with hn | ⟨g,cap,cur,hv2,hbb,hg,rest⟩
  ·exact .inl hn
  ·exact .inr ⟨g,cap,cur,hv2,hbb,(hb g hbb (Array.getElem?_eq_some_iff.1 hg).1).trans hg,rest⟩
 exact⟨va,vt,(hb c h5 (Array.getElem?_eq_some_iff.1 h1).1).trans h1,key h2,key h3,h4,h5⟩
theorem InsAt.step {B c:Nat} {x:Ins} {w w':World} (h:InsAt B c x w) (hk:Below w.heap.size w w'):InsAt B c x w':=h.keep fun k _ h2=>hk.block k h2
theorem InsAt.lt {B c:Nat} {x:Ins} {w:World} (h:InsAt B c x w):c < w.heap.size∧B≤c:=by
 obtain⟨va,vt,h1,h2,h3,h4,h5⟩:=h
 exact⟨(Array.getElem?_eq_some_iff.1 h1).1,h5⟩
def addArg (x:Ins) (v:Int):Ins:=(x.1,x.2.1,x.2.2.1,x.2.2.2.1,x.2.2.2.2.1 ++ [v],x.2.2.2.2.2.1,x.2.2.2.2.2.2.1,x.2.2.2.2.2.2.2)
def addTo (x:Ins) (v:Int):Ins:=(x.1,x.2.1,x.2.2.1,x.2.2.2.1,x.2.2.2.2.1,x.2.2.2.2.2.1 ++ [v],x.2.2.2.2.2.2.1,x.2.2.2.2.2.2.2)
def setN (x:Ins) (v:Int):Ins:=(x.1,x.2.1,v,x.2.2.2.1,x.2.2.2.2.1,x.2.2.2.2.2.1,x.2.2.2.2.2.2.1,x.2.2.2.2.2.2.2)
def setName (x:Ins) (s:List UInt8):Ins:=(x.1,x.2.1,x.2.2.1,x.2.2.2.1,x.2.2.2.2.1,x.2.2.2.2.2.1,s,x.2.2.2.2.2.2.2)
def byWord {α:Type} (x:Ins) (f:Ins→α→Ins) (r:Except Er (α × List Tok)):Except Er (Ins × List Tok):=G.andThen r fun v l=> .ok (f x v,l)
def Cel (w:World) (c i:Nat) (v:Value):Prop:=w.cell? ⟨c,i,none⟩=some v∧w.frozen? ⟨c,i,none⟩=false
theorem Cel.below {B:Nat} {w w':World} (k:Below B w w') {c i:Nat} {v:Value} (hp:c < B) (h1:w.cell? ⟨c,i,none⟩=some v) (h2:w.frozen? ⟨c,i,none⟩=false):w'.cell? ⟨c,i,none⟩=some v∧w'.frozen? ⟨c,i,none⟩=false:=
 ⟨(k.cell (p:=⟨c,i,none⟩) hp).trans h1,(k.frozen (p:=⟨c,i,none⟩) hp).trans h2⟩
theorem Cel.grown {w w':World} {row:Option Nat} (k:w.grownBy w' row) {c i:Nat} {v:Value} (hp:c < w.heap.size) (hr:row≠some c) (h1:w.cell? ⟨c,i,none⟩=some v) (h2:w.frozen? ⟨c,i,none⟩=false):w'.cell? ⟨c,i,none⟩=some v∧w'.frozen? ⟨c,i,none⟩=false:=
 ⟨(k.cell_far ⟨c,i,none⟩ hp (Ne.symm hr)).trans h1,(k.frozen_far ⟨c,i,none⟩ hp (Ne.symm hr)).trans h2⟩
theorem one_cell {w1:World} {a:Value} {t:TypeId}:∀j u,[a][j]? =some u→(w1.alloc (.cells #[a] t)).cell? ((⟨w1.heap.size,0,none⟩:Addr).add j)=some u:=by
 intro j u hj
 match j,hj with
 |0,hj=>simp at hj;subst hj;simp [Addr.add]
theorem one_one {a:Int}:∀u∈ [Value.int .i64 a],u.oneCell'=true:=by
 intro u hu
 simp only [List.mem_singleton] at hu
 subst hu;rfl
theorem own_setCell {w:World} {b e s n:Nat} {v:Value} {xs:List Value} (h:w.ownsRow b e s v n xs) {p:Addr} (hp:v.ownBlock≠some p.block) (u:Value):(w.setCell p u).ownsRow b e s v n xs:=by
 refine⟨h.1,?_⟩
 rcases h.2 with hn | ⟨g,cap,cur,hv2,hbb,hg,rest⟩
 ·exact .inl hn
 ·refine .inr ⟨g,cap,cur,hv2,hbb,?_,rest⟩
  rw [Below.heap_setCell _ _ _ _ (fun e=>hp (by rw [hv2,←e];rfl))]
  exact hg
theorem InsAt.arg {B c gg cap:Nat} {x:Ins} {k:Int} {va:Value} {w w3:World} (h:InsAt B c x w) (hc:w.cell? ⟨c,4,none⟩=some va)
  (hown:w3.ownsRow B 3 1 (.slice (some ⟨gg,0,none⟩) (x.2.2.2.2.1.length+1) cap) (x.2.2.2.2.1.length+1) (ints x.2.2.2.2.1 ++ [.int .i64 k])) (hg:w.grownBy w3 va.ownBlock) (hat:va.ownBlock=some gg∨gg=w.heap.size):
  InsAt B c (addArg x k) (w3.setCell ⟨c,4,none⟩ (.slice (some ⟨gg,0,none⟩) (x.2.2.2.2.1.length+1) cap)):=by
 obtain⟨va',vt,h1,h2,h3,h4,h5⟩:=h
 have e:va'=va:=by
  have:w.cell? ⟨c,4,none⟩=some va':=by simp [World.cell?,h1,insCells]
  rw [hc] at this;exact(Option.some.inj this).symm
 subst e
 have hcl:c < w.heap.size:=(Array.getElem?_eq_some_iff.1 h1).1
 have n1:va'.ownBlock≠some c:=own_ne h2 h1 (by decide)
 have n2:vt.ownBlock≠some c:=own_ne h3 h1 (by decide)
 have h1':w3.heap[c]? =some (.cells (insCells x va' vt).toArray 47 (0,0)):=(hg.block c hcl (fun e=>n1 e.symm)).trans h1
 have h3':w3.ownsRow B 3 1 vt x.2.2.2.2.2.1.length (ints x.2.2.2.2.2.1):=h3.kept hg (by
  rcases h4 with h4 | h4
  ·rw [h4];cases vt.ownBlock <;> simp
  ·exact .inr (Ne.symm h4))
 have n3:(Value.slice (some ⟨gg,0,none⟩) (x.2.2.2.2.1.length+1) cap).ownBlock≠some c:=own_ne hown h1' (by decide)
 refine⟨_,vt,(heap_setCell_same w3 c 4 _ 47 _ h1').trans rfl,?_,own_setCell h3' n2 _,?_,h5⟩
 ·have:=own_setCell hown (p:=⟨c,4,none⟩) n3 (.slice (some ⟨gg,0,none⟩) (x.2.2.2.2.1.length+1) cap)
  simpa [addArg] using this
 ·refine .inr fun e=> ?_
  have e:some gg=vt.ownBlock:=e
  rcases hat with hat | hat
  ·rcases h4 with h4 | h4
   ·rw [h4] at hat;cases hat
   ·exact h4 (hat.trans e)
  ·have:=(h3.lt gg e.symm).2
   omega
theorem InsAt.to {B c gg cap:Nat} {x:Ins} {k:Int} {vt:Value} {w w3:World} (h:InsAt B c x w) (hc:w.cell? ⟨c,5,none⟩=some vt)
  (hown:w3.ownsRow B 3 1 (.slice (some ⟨gg,0,none⟩) (x.2.2.2.2.2.1.length+1) cap) (x.2.2.2.2.2.1.length+1) (ints x.2.2.2.2.2.1 ++ [.int .i64 k])) (hg:w.grownBy w3 vt.ownBlock) (hat:vt.ownBlock=some gg∨gg=w.heap.size):
  InsAt B c (addTo x k) (w3.setCell ⟨c,5,none⟩ (.slice (some ⟨gg,0,none⟩) (x.2.2.2.2.2.1.length+1) cap)):=by
 obtain⟨va,vt',h1,h2,h3,h4,h5⟩:=h
 have e:vt'=vt:=by
  have:w.cell? ⟨c,5,none⟩=some vt':=by simp [World.cell?,h1,insCells]
  rw [hc] at this;exact(Option.some.inj this).symm
 subst e
 have hcl:c < w.heap.size:=(Array.getElem?_eq_some_iff.1 h1).1
 have n1:va.ownBlock≠some c:=own_ne h2 h1 (by decide)
 have n2:vt'.ownBlock≠some c:=own_ne h3 h1 (by decide)
 have h1':w3.heap[c]? =some (.cells (insCells x va vt').toArray 47 (0,0)):=(hg.block c hcl (fun e=>n2 e.symm)).trans h1
 have h2':w3.ownsRow B 3 1 va x.2.2.2.2.1.length (ints x.2.2.2.2.1):=h2.kept hg h4
 have n3:(Value.slice (some ⟨gg,0,none⟩) (x.2.2.2.2.2.1.length+1) cap).ownBlock≠some c:=own_ne hown h1' (by decide)
 refine⟨va,_,(heap_setCell_same w3 c 5 _ 47 _ h1').trans rfl,own_setCell h2' n1 _,?_,?_,h5⟩
 ·have:=own_setCell hown (p:=⟨c,5,none⟩) n3 (.slice (some ⟨gg,0,none⟩) (x.2.2.2.2.2.1.length+1) cap)
  simpa [addTo] using this
 ·cases hv:va.ownBlock with
  |none=>exact .inl rfl
  |some q=>
   refine .inr fun e=> ?_
   have e:some q=some gg:=e
   rcases hat with hat | hat
   ·rcases h4 with h4 | h4
    ·rw [h4] at hv;cases hv
    ·exact h4 (by rw [hv,e,hat])
   ·have:=(h2.lt q hv).2
    cases e
    omega
theorem InsAt.put {B c i:Nat} {x y:Ins} {w:World} {v:Value} (h:InsAt B c x w) (hy:∀va vt,(insCells x va vt).toArray.setIfInBounds i v=(insCells y va vt).toArray) (ha:y.2.2.2.2.1=x.2.2.2.2.1) (ht:y.2.2.2.2.2.1=x.2.2.2.2.2.1):InsAt B c y (w.setCell ⟨c,i,none⟩ v):=by
 obtain⟨va,vt,h1,h2,h3,h4,h5⟩:=h
 have n1:va.ownBlock≠some c:=own_ne h2 h1 (by decide)
 have n2:vt.ownBlock≠some c:=own_ne h3 h1 (by decide)
 refine⟨va,vt,?_,?_,?_,h4,h5⟩
 ·rw [heap_setCell_same w c i _ 47 _ h1,hy]
 ·rw [ha];exact own_setCell h2 n1 _
 ·rw [ht];exact own_setCell h3 n2 _
theorem InsAt.setN {B c:Nat} {x:Ins} {w:World} (h:InsAt B c x w) (v:Int):InsAt B c (setN x v) (w.setCell ⟨c,2,none⟩ (.int .i64 v)):=h.put (fun _ _=>rfl) rfl rfl
theorem InsAt.setName {B c:Nat} {x:Ins} {w:World} (h:InsAt B c x w) (s:List UInt8):InsAt B c (setName x s) (w.setCell ⟨c,6,none⟩ (.string (bs s))):=h.put (fun _ _=>rfl) rfl rfl
theorem shp_of (s:List UInt8):∃a b:Int,L3.readS (bs s)= .tuple #[.agg #[.int .i64 a,.int .i64 b],.int .i64 (shpF s)]:=by
 have key:∃a b c:Int,L3.readS (bs s)= .tuple #[.agg #[.int .i64 a,.int .i64 b],.int .i64 c]:=by
  unfold L3.readS L3.readL
  split
  ·exact⟨_,_,_,rfl⟩
  ·split
   ·exact⟨_,_,_,rfl⟩
   ·split
    ·exact⟨_,_,_,rfl⟩
    ·exact⟨_,_,_,rfl⟩
 obtain⟨a,b,c,h⟩:=key
 refine⟨a,b,?_⟩
 have e:shpF s=c:=by unfold shpF;rw [h];rfl
 rw [e,h]
theorem Below.undrew {B:Nat} {w w':World} (h:Below B w.drew w'):Below B w w':=⟨h.1,h.2,h.3,h.4,h.5⟩
theorem ne_text (s t:List UInt8):((bs s).toList != t)=decide (s≠t):=by
 rw [ByteArray.toList_eq,bs_data]
 by_cases h:s=t
 ·subst h;simp
 ·simp [h]
theorem taken_no {l:List Tok} (h:begins 37 (peek0 l)=false):G.taken l=false:=by
 unfold G.taken
 unfold begins at h
 rw [h];rfl
theorem taken_yes {l:List Tok} (h:begins 37 (peek0 l)=true):G.taken l=decide (peek1 l≠ [61]):=by
 unfold G.taken
 unfold begins at h
 rw [h,Bool.true_and]
 by_cases h:peek1 l= [61]
 ·rw [h];rfl
 ·simp [h]
abbrev Way:=Ins→List Tok→Except Er (Ins × List Tok)
def valueW (E:Int):Way:=fun x l=>byWord x addArg (G.value idxF E l)
def labelW (E:Int):Way:=fun x l=>byWord x addTo (G.label idxF E l)
theorem tail_bulk {l:List Tok} (h:l≠ []):l.tail.length+1=l.length:=by
 cases l with
 |nil=>exact absurd rfl h
 |cons t r=>simp
def readAt (a:Nat) (w:World):Nat:=(intOf ((w.cell? ⟨a,1,none⟩).getD (.int .i64 0))).toNat
def perhapsValueW (E:Int):Way:=fun x l=>if G.taken l then valueW E x l else .ok (x,l)
def moreV (E:Int):Nat→Way
 |0=>fun x l=> .ok (x,l)
 |f+1=>fun x l=>if G.taken l then G.andThen (valueW E x l) fun x' l'=>moreV E f x' l' else .ok (x,l)
def moreValuesW (E:Int):Way:=fun x l=>moreV E (l.length+1) x l
theorem moreV_stop {E:Int} {f:Nat} {x:Ins} {l:List Tok} (h:G.taken l=false):moreV E (f+1) x l= .ok (x,l):=by
 unfold moreV;rw [h];rfl
theorem is_text (s t:List UInt8):((bs s).toList == t)=decide (s=t):=by
 rw [ByteArray.toList_eq,bs_data]
 by_cases h:s=t
 ·subst h;simp
 ·simp [h]
theorem paired_no {l:List Tok} (h:begins 98 (peek0 l)=false):G.paired l=false:=by
 unfold G.paired
 unfold begins at h
 rw [h];rfl
def pairV (E:Int):Nat→Way
 |0=>fun x l=> .ok (x,l)
 |f+1=>fun x l=>if G.paired l then G.andThen (labelW E x l) fun x' l'=>G.andThen (valueW E x' l') fun x'' l''=>pairV E f x'' l'' else .ok (x,l)
def morePairsW (E:Int):Way:=fun x l=>pairV E (l.length+1) x l
theorem pairV_stop {E:Int} {f:Nat} {x:Ins} {l:List Tok} (h:G.paired l=false):pairV E (f+1) x l= .ok (x,l):=by
 unfold pairV;rw [h];rfl
def perhapsPointW (E:Int):Way:=fun x l=>if begins 64 (peek0 l)then byWord x setN (G.index idxF 64 1048576 3 E l)else .ok (x,l)
def waysN:Int→List Nat
 |1=> [152]
 |2=> [150,150]
 |3=> [150,150]
 |4=> [150,150]
 |5=> [150,150]
 |6=> [150,150]
 |7=> [150,150]
 |8=> []
 |9=> [150,150]
 |10=> [153]
 |11=> [150,154]
 |12=> [150,154]
 |13=> [150,154,150]
 |14=> [150,154,150]
 |15=> [150,154]
 |16=> [150]
 |17=> [150]
 |18=> [150,150]
 |19=> [150,150]
 |20=> [151,150,155]
 |21=> [156,157,158]
 |22=> [150]
 |23=> [159]
 |24=> [150,159]
 |25=> [150]
 |26=> [151]
 |27=> [150,151,151]
 |28=> [160]
 |29=> [161]
 |_=> []
def numberW (E:Int):Way:=fun x l=>byWord x setN (G.anyNum numF E l)
def lettersW (E:Int):Way:=fun x l=>byWord x setName (G.shaped shpF E l)
def uptoW (E most:Int):Way:=fun x l=>byWord x setN (G.number numF E 0 most l)
def calleeW (E:Int):Way:=fun x l=>byWord x setName (G.name namF E l)
def wayW (E:Int):Nat→Way
 |150=>valueW E
 |151=>labelW E
 |152=>numberW E
 |153=>lettersW E
 |154=>uptoW E 15
 |155=>morePairsW E
 |156=>perhapsPointW E
 |157=>calleeW E
 |158=>moreValuesW E
 |159=>uptoW E 1048576
 |160=>perhapsValueW E
 |161=>uptoW E 255
 |_=>fun x l=> .ok (x,l)
def runW (E:Int):List Nat→Way
 |[]=>fun x l=> .ok (x,l)
 |k :: r=>fun x l=>G.andThen (wayW E k x l) (runW E r)
def Far (q:Nat) (u w:World):Prop:=w.os=u.os∧w.tape=u.tape∧w.output=u.output∧w.heap.size=u.heap.size∧∀k,k≠q→w.heap[k]? =u.heap[k]?
theorem Far.refl (q:Nat) (w:World):Far q w w:=⟨rfl,rfl,rfl,rfl,fun _ _=>rfl⟩
theorem Far.set {q:Nat} {u w:World} (h:Far q u w) (i:Nat) (v:Value):Far q u (w.setCell ⟨q,i,none⟩ v):=
 ⟨h.1,h.2.1,h.2.2.1,by rw [←h.2.2.2.1];simp [World.setCell],fun k hk=>(Below.heap_setCell _ _ _ _ hk).trans (h.2.2.2.2 k hk)⟩
theorem Far.own {q b e s n:Nat} {v:Value} {xs:List Value} {u w:World} (h:Far q u w) (ho:u.ownsRow b e s v n xs) (hv:v.ownBlock≠some q):w.ownsRow b e s v n xs:=by
 refine⟨ho.1,?_⟩
 rcases ho.2 with hn | ⟨g,cap,cur,hv2,hb,hg,rest⟩
 ·exact .inl hn
 ·exact .inr ⟨g,cap,cur,hv2,hb,(h.2.2.2.2 g (fun e=>hv (by rw [hv2,←e];rfl))).trans hg,rest⟩
theorem InsAt.cells {B c:Nat} {x:Ins} {w:World} (h:InsAt B c x w):∃va vt,(∀i v,(insCells x va vt)[i]? =some v→w.cell? ⟨c,i,none⟩=some v)∧(∀i,w.frozen? ⟨c,i,none⟩=false)∧
  w.ownsRow B 3 1 va x.2.2.2.2.1.length (ints x.2.2.2.2.1)∧w.ownsRow B 3 1 vt x.2.2.2.2.2.1.length (ints x.2.2.2.2.2.1)∧(∀c':Nat,(∃cs fz,w.heap[c']? =some (.cells cs 47 fz))→va.ownBlock≠some c'∧vt.ownBlock≠some c'):=by
 obtain⟨va,vt,h1,h2,h3,h4,h5⟩:=h
 refine⟨va,vt,fun i v hv=> ?_,fun i=>by simp [World.frozen?,h1],h2,h3,fun c' hc=> ?_⟩
 ·simp only [World.cell?,h1]
  simpa using hv
 ·obtain⟨cs,fz,hc⟩:=hc
  exact⟨own_ne h2 hc (by decide),own_ne h3 hc (by decide)⟩
def InsVal (B:Nat) (x:Ins) (v:Value) (w:World):Prop:=
 ∃va vt,v= .agg (insCells x va vt).toArray∧w.ownsRow B 3 1 va x.2.2.2.2.1.length (ints x.2.2.2.2.1)∧w.ownsRow B 3 1 vt x.2.2.2.2.2.1.length (ints x.2.2.2.2.2.1)
def instrQ (E p id:Int) (l:List Tok):Except Er (Ins × List Tok):=G.andThen (G.opword fndF mksF E id l) fun o r=>runW E (waysN o.1) (o.1,id,0,o.2,[],[],[],p) r
def instrP (E:Int) (l:List Tok):Except Er (Ins × List Tok):=G.andThen (G.ident idxF E l) fun id r=>instrQ E (atOf E l) id r
theorem find_range (s:ByteArray):∀n i,i+n≤116→(L5.findN s n i).1=0∨(1≤(L5.findN s n i).1∧(L5.findN s n i).1≤29):=by
 intro n
 induction n with
 |zero=>intro i _;exact .inl rfl
 |succ n ih=>
  intro i h
  unfold L5.findN
  split
  ·right;constructor <;> (show _≤_;simp;omega)
  ·exact ih (i+1) (by omega)
theorem fnd_range (s:List UInt8):(fndF s).1=0∨(1≤(fndF s).1∧(fndF s).1≤29):=find_range (bs s) 116 0 (by omega)
def setId (x:Ins) (v:Int):Ins:=(x.1,v,x.2.2.1,x.2.2.2.1,x.2.2.2.2.1,x.2.2.2.2.2.1,x.2.2.2.2.2.2.1,x.2.2.2.2.2.2.2)
def setOp (x:Ins) (v:Int):Ins:=(v,x.2.1,x.2.2.1,x.2.2.2.1,x.2.2.2.2.1,x.2.2.2.2.2.1,x.2.2.2.2.2.2.1,x.2.2.2.2.2.2.2)
def setTy (x:Ins) (v:Int):Ins:=(x.1,x.2.1,x.2.2.1,v,x.2.2.2.2.1,x.2.2.2.2.2.1,x.2.2.2.2.2.2.1,x.2.2.2.2.2.2.2)
theorem below_drew (w:World):Below w.heap.size w w.drew:=(Below.refl _ _).drew
def RES8 (g:Nat) (w:World):Prop:=w.cell? ⟨g,0,none⟩=some (.int .i64 0)∧w.cell? ⟨g,1,none⟩=some (.int .i64 0)∧w.cell? ⟨g,2,none⟩=some (.int .i64 0)∧w.cell? ⟨g,3,none⟩=some (.int .i64 0)∧w.cell? ⟨g,4,none⟩=some (.slice none 0 0)∧w.cell? ⟨g,5,none⟩=some (.slice none 0 0)∧w.cell? ⟨g,6,none⟩=some (.string ⟨#[]⟩)∧w.cell? ⟨g,7,none⟩=some (.int .i64 0)∧
 w.frozen? ⟨g,0,none⟩=false∧w.frozen? ⟨g,1,none⟩=false∧w.frozen? ⟨g,2,none⟩=false∧w.frozen? ⟨g,3,none⟩=false∧w.frozen? ⟨g,4,none⟩=false∧w.frozen? ⟨g,5,none⟩=false∧w.frozen? ⟨g,6,none⟩=false∧w.frozen? ⟨g,7,none⟩=false
theorem res8 {g:Nat} {w:World} (h:w.heap[g]? =some (.cells #[.int .i64 0,.int .i64 0,.int .i64 0,.int .i64 0,.slice none 0 0,.slice none 0 0,.string ⟨#[]⟩,.int .i64 0] 47 (0,0))):RES8 g w:=by
 unfold RES8
 simp [World.cell?,World.frozen?,h]
theorem own_slice {w:World} {b e s n:Nat} {v:Value} {xs:List Value} (h:w.ownsRow b e s v n xs):∃(ao:Option Addr) (m cap:Nat),v= .slice ao m cap:=by
 rcases h.2 with ⟨hv,_⟩ | ⟨g,cap,cur,hv,_⟩
 ·exact⟨_,_,_,hv⟩
 ·exact⟨_,_,_,hv⟩
end Go.Proofs.YtljkgcfnoegibaaGreatDoor
namespace Go.Proofs.YtljkgcfnoegibaaGreatDoor.G
theorem then_ok {α β:Type} {x:Except Er (α × List Tok)} {f:α→Rd β} {y:β × List Tok} (h:andThen x f= .ok y):∃v q,x= .ok (v,q)∧f v q= .ok y:=by
 cases x with
 |error e=>cases h
 |ok p=>exact⟨p.1,p.2,rfl,h⟩
theorem tail_len {l:List Tok} {f:Nat} (h:l.length < f+1) (hl:l≠ []):l.tail.length < f:=by
 cases l with
 |nil=>exact absurd rfl hl
 |cons t r=>simp at *;omega
section
variable {d:Int} {m:List Tok} {E E':Int} {num:List UInt8→Int × Int} {idx:List UInt8→Int→Option Int} {nam:List UInt8→Bool} {shp:List UInt8→Int} {tks:Int→Nat} {fnd:List UInt8→Int × Int} {mks:Int→Int→Int} {prt:Nat→List UInt8→Bool}
theorem taken_sh {l:List Tok} (h:l.tail≠ []):taken (sh d l ++ m)=taken l:=by
 unfold taken;rw [peek0_sh (ne_of_tail h),peek1_sh h]
theorem taken_not {l:List Tok} (hl:l≠ []) (h:taken l=false):taken (sh d l ++ m)=false:=by
 by_cases ht:l.tail= []
 ·match l,hl,ht with
  |[x],_,_=>
   have h1:(x.1.head? == some 37 && ([]:List UInt8) != [61])=false:=h
   have h2:(x.1.head? == some 37)=false:=by simpa using h1
   show(x.1.head? == some 37 && peek1 (sh d [x] ++ m) != [61])=false
   rw [h2];rfl
 ·rw [taken_sh ht];exact h
theorem paired_sh {l:List Tok} (h:l.tail≠ []):paired (sh d l ++ m)=paired l:=by
 unfold paired;rw [peek0_sh (ne_of_tail h),peek1_sh h]
theorem paired_not {l:List Tok} (hl:l≠ []) (h:paired l=false):paired (sh d l ++ m)=false:=by
 by_cases ht:l.tail= []
 ·match l,hl,ht with
  |[x],_,_=>
   have h1:(x.1.head? == some 98 && x.1 != [98,114] && ([]:List UInt8) != [58])=false:=h
   have h2:(x.1.head? == some 98 && x.1 != [98,114])=false:=by simpa using h1
   show(x.1.head? == some 98 && x.1 != [98,114] && peek1 (sh d [x] ++ m) != [58])=false
   rw [h2];rfl
 ·rw [paired_sh ht];exact h
theorem valuesW_sim:∀f f' acc l v r,f≤f'→l.length < f→valuesW idx E f acc l= .ok (v,r)→r <:+l∧(r≠ []→valuesW idx E' f' acc (sh d l ++ m)= .ok (v,sh d r ++ m)):=by
 intro f
 induction f with
 |zero=>intro f' acc l v r _ h;omega
 |succ f ih=>
  intro f' acc l v r hf hl h
  obtain⟨f',rfl⟩:∃k,f'=k+1:=⟨f' - 1,by omega⟩
  simp only [valuesW] at h ⊢
  cases ht:taken l with
  |true=>
   rw [ht,if_pos rfl] at h
   obtain⟨u,q,h1,h2⟩:=then_ok h
   obtain⟨hne,hq,_⟩:=value_ok h1
   subst hq
   obtain⟨s,c⟩:=ih f' (acc ++ [u]) l.tail v r (by omega) (tail_len hl hne) h2
   refine⟨s.trans (List.tail_suffix l),fun hr=> ?_⟩
   have hq:=ne_of_suffix s hr
   rw [taken_sh hq,ht,if_pos rfl,(value_sim (E:=E) (E':=E') l u l.tail h1).2 hq]
   exact c hr
  |false=>
   rw [ht,if_neg (by simp)] at h
   cases h
   refine⟨List.suffix_refl _,fun hr=> ?_⟩
   rw [taken_not hr ht,if_neg (by simp)]
theorem values_sim:Sim d m id (values idx E) (values idx E'):=by
 intro l v r h
 exact valuesW_sim (E':=E') (l.length+1) ((sh d l ++ m).length+1) [] l v r (by simp [sh]) (by omega) h
theorem valuesN_sim:∀n acc,Sim d m id (valuesN idx E n acc) (valuesN idx E' n acc):=by
 intro n
 induction n with
 |zero=>intro acc;exact Sim.done rfl
 |succ n ih=>intro acc;exact Sim.then value_sim (fun v=>ih (acc ++ [v]))
theorem phiW_sim:∀f f' to args l v r,f≤f'→l.length < f→phiW idx E f to args l= .ok (v,r)→r <:+l∧(r≠ []→phiW idx E' f' to args (sh d l ++ m)= .ok (v,sh d r ++ m)):=by
 intro f
 induction f with
 |zero=>intro f' to args l v r _ h;omega
 |succ f ih=>
  intro f' to args l v r hf hl h
  obtain⟨f',rfl⟩:∃k,f'=k+1:=⟨f' - 1,by omega⟩
  simp only [phiW] at h ⊢
  by_cases hc:to= []∨paired l=true
  ·rw [if_pos hc] at h
   obtain⟨b,q,h1,h2⟩:=then_ok h
   obtain⟨hne,hq,_⟩:=label_ok h1
   subst hq
   obtain⟨u,q,h3,h4⟩:=then_ok h2
   obtain⟨hne2,hq,_⟩:=value_ok h3
   subst hq
   obtain⟨s,c⟩:=ih f' (to ++ [b]) (args ++ [u]) l.tail.tail v r (by omega) (Nat.lt_of_le_of_lt (by simp) (tail_len hl hne)) h4
   refine⟨(s.trans (List.tail_suffix _)).trans (List.tail_suffix l),fun hr=> ?_⟩
   have hq:=ne_of_suffix s hr
   rw [paired_sh hne2,if_pos hc,(label_sim (E:=E) (E':=E') l b l.tail h1).2 hne2]
   show andThen (value idx E' (sh d l.tail ++ m)) _=_
   rw [(value_sim (E:=E) (E':=E') l.tail u l.tail.tail h3).2 hq]
   exact c hr
  ·rw [if_neg hc] at h
   cases h
   refine⟨List.suffix_refl _,fun hr=> ?_⟩
   have h1:¬to= []:=fun e=>hc (.inl e)
   have h2:paired l=false:=by
    cases e:paired l with
    |true=>exact absurd (.inr e) hc
    |false=>rfl
   rw [if_neg (by rw [paired_not hr h2];simp [h1])]
theorem phi_sim:Sim d m id (phi idx E) (phi idx E'):=by
 intro l v r h
 exact phiW_sim (E':=E') (l.length+1) ((sh d l ++ m).length+1) [] [] l v r (by simp [sh]) (by omega) h
theorem ret1_sim:Sim d m id (ret1 idx E) (ret1 idx E'):=by
 intro l v r h
 simp only [ret1] at h ⊢
 cases ht:taken l with
 |true=>
  rw [ht,if_pos rfl] at h
  obtain⟨s,c⟩:=Sim.then (k:=id) (G:=fun v=>done ((0,[v],[],[]):Opd)) (G':=fun v=>done ((0,[v],[],[]):Opd)) (value_sim (d:=d) (m:=m) (E:=E) (E':=E') (idx:=idx)) (fun v=>Sim.done rfl) l v r h
  obtain⟨u,q,h1,h2⟩:=then_ok h
  obtain⟨hne,hq,_⟩:=value_ok h1
  subst hq
  refine⟨s,fun hr=> ?_⟩
  have:l.tail≠ []:=by cases h2;exact hr
  rw [taken_sh this,ht,if_pos rfl]
  exact c hr
 |false=>
  rw [ht,if_neg (by simp)] at h
  cases h
  refine⟨List.suffix_refl _,fun hr=> ?_⟩
  rw [taken_not hr ht,if_neg (by simp)];rfl
theorem spot_sim:Sim d m id (spot idx E) (spot idx E'):=by
 intro l v r h
 simp only [spot] at h ⊢
 by_cases hc:(peek0 l).head? =some 64
 ·rw [if_pos hc] at h
  obtain⟨hne,hq,_⟩:=index_ok h
  obtain⟨s,c⟩:=index_sim (d:=d) (m:=m) (E:=E) (E':=E') l v r h
  refine⟨s,fun hr=> ?_⟩
  rw [peek0_sh hne,if_pos hc]
  exact c hr
 ·rw [if_neg hc] at h
  cases h
  refine⟨List.suffix_refl _,fun hr=> ?_⟩
  rw [peek0_sh hr,if_neg hc];rfl
theorem operands_sim (hn:nam []=false) (hnum:(num []).2≠0) (hshp:shp []≠0) (op:Int):Sim d m id (operands num idx nam shp tks E op) (operands num idx nam shp tks E' op):=by
 unfold operands
 by_cases h:op=1
 ·simp only [h,if_true];exact Sim.then (anyNum_sim hnum) (fun _=>Sim.done rfl)
 simp only [h,if_false];clear h
 by_cases h:op=29
 ·simp only [h,if_true];exact Sim.then (number_sim hnum) (fun _=>Sim.done rfl)
 simp only [h,if_false];clear h
 by_cases h:op=10
 ·simp only [h,if_true];exact Sim.then (shaped_sim hshp) (fun _=>Sim.done rfl)
 simp only [h,if_false];clear h
 by_cases h:op=20
 ·simp only [h,if_true];exact Sim.then phi_sim (fun _=>Sim.done rfl)
 simp only [h,if_false];clear h
 by_cases h:op=21
 ·simp only [h,if_true];exact Sim.then spot_sim (fun _=>Sim.then (name_sim hn) (fun _=>Sim.then values_sim (fun _=>Sim.done rfl)))
 simp only [h,if_false];clear h
 by_cases h:op=28
 ·simp only [h,if_true];exact ret1_sim
 simp only [h,if_false];clear h
 by_cases h:op=11∨op=12∨op=15
 ·simp only [h,if_true];exact Sim.then value_sim (fun _=>Sim.then (number_sim hnum) (fun _=>Sim.done rfl))
 simp only [h,if_false];clear h
 by_cases h:op=13∨op=14
 ·simp only [h,if_true];exact Sim.then value_sim (fun _=>Sim.then (number_sim hnum) (fun _=>Sim.then value_sim (fun _=>Sim.done rfl)))
 simp only [h,if_false];clear h
 by_cases h:op=23
 ·simp only [h,if_true];exact Sim.then (number_sim hnum) (fun _=>Sim.done rfl)
 simp only [h,if_false];clear h
 by_cases h:op=24
 ·simp only [h,if_true];exact Sim.then value_sim (fun _=>Sim.then (number_sim hnum) (fun _=>Sim.done rfl))
 simp only [h,if_false];clear h
 by_cases h:op=26
 ·simp only [h,if_true];exact Sim.then label_sim (fun _=>Sim.done rfl)
 simp only [h,if_false];clear h
 by_cases h:op=27
 ·simp only [h,if_true];exact Sim.then value_sim (fun _=>Sim.then label_sim (fun _=>Sim.then label_sim (fun _=>Sim.done rfl)))
 simp only [h,if_false];clear h
 exact Sim.then (valuesN_sim _ _) (fun _=>Sim.done rfl)
end
end Go.Proofs.YtljkgcfnoegibaaGreatDoor.G
