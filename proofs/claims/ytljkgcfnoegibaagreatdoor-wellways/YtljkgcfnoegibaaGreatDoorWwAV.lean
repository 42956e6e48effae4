/- Texts of one chain, joined. -/
import Derived.Test.YtljkgcfnoegibaaGreatDoorWwAE
import Derived.Test.YtljkgcfnoegibaaGreatDoorWwAF
import Derived.Test.YtljkgcfnoegibaaGreatDoorWwAM
import Derived.Test.YtljkgcfnoegibaaGreatDoorWwAN
import Derived.Test.YtljkgcfnoegibaaGreatDoorWwAO
import Derived.Test.YtljkgcfnoegibaaGreatDoorWwAU
namespace Go.Proofs.YtljkgcfnoegibaaGreatDoor
open Go Go.RowKit
open G (Tok Er Ins Fun)
theorem prog_fun {w:World} {p:List Fun} {po:Option Addr} {n pc i:Nat} (h:ProgR w p (.slice po n pc)) (hi:i < p.length):∃g o,po=some ⟨g,o,none⟩∧FunR w (funN p i) g (o+i * 5):=by
 obtain⟨po',pc',e,_,_,h3⟩:=h
 injection e with e1 e2 e3
 subst e1
 rcases h3 with h3 | ⟨g,o,rfl,h4⟩
 ·rw [h3] at hi;simp at hi
 ·exact⟨g,o,rfl,h4 i _ (funN_at hi)⟩
theorem five_at {w:World} {b t:Nat} {a0 a1 a2 a3 a4:Value} (h:w.heap[b]? =some (.cells #[a0,a1,a2,a3,a4] t (0,0))):(w.cell? ⟨b,0,none⟩=some a0∧w.cell? ⟨b,1,none⟩=some a1∧w.cell? ⟨b,2,none⟩=some a2∧w.cell? ⟨b,3,none⟩=some a3∧w.cell? ⟨b,4,none⟩=some a4)∧(w.frozen? ⟨b,0,none⟩=false∧w.frozen? ⟨b,1,none⟩=false∧w.frozen? ⟨b,2,none⟩=false∧w.frozen? ⟨b,3,none⟩=false∧w.frozen? ⟨b,4,none⟩=false)∧b < w.heap.size:=by
 refine⟨⟨?_,?_,?_,?_,?_⟩,⟨?_,?_,?_,?_,?_⟩,(Array.getElem?_eq_some_iff.1 h).1⟩ <;> simp [World.cell?,World.frozen?,h]
theorem nm_ne {a b:List UInt8} (h:¬a=b):((bs a).toList == (bs b).toList)=false:=by rw [ByteArray.toList_eq,ByteArray.toList_eq,bs_data,bs_data];simpa using h
theorem fun0_val (w:World):FunV w fun0 (.agg #[.string ⟨#[]⟩,.slice none 0 0,.int .i64 0,.slice none 0 0,.int .i64 0]):=
 ⟨_,_,rfl,⟨none,0,rfl,.inl rfl,Nat.le_refl _,by unfold maxLen;omega⟩,⟨none,0,rfl,Nat.le_refl _,by unfold maxLen;omega,.inl rfl⟩⟩
theorem one_at {w:World} {b t:Nat} {a0:Value} (h:w.heap[b]? =some (.cells #[a0] t (0,0))):w.cell? ⟨b,0,none⟩=some a0∧b < w.heap.size:=⟨by simp [World.cell?,h],(Array.getElem?_eq_some_iff.1 h).1⟩
theorem two_at {w:World} {b t:Nat} {a0 a1:Value} (h:w.heap[b]? =some (.cells #[a0,a1] t (0,0))):(w.cell? ⟨b,0,none⟩=some a0∧w.cell? ⟨b,1,none⟩=some a1)∧(w.frozen? ⟨b,0,none⟩=false∧w.frozen? ⟨b,1,none⟩=false)∧b < w.heap.size:=by
 refine⟨⟨?_,?_⟩,⟨?_,?_⟩,(Array.getElem?_eq_some_iff.1 h).1⟩ <;> simp [World.cell?,World.frozen?,h]
theorem headX_call {p:List Fun} {f:Fun} {x:Ins} (h2:x.1=21):headX p f x=if(findF p x.2.2.2.2.2.2.1).isSome then(if((findF p x.2.2.2.2.2.2.1).getD fun0).2.2.1≠x.2.2.2.1 then 9 else if((findF p x.2.2.2.2.2.2.1).getD fun0).2.1.length≠x.2.2.2.2.1.length then 13 else 0)else 12:=by
 unfold headX
 rw [if_neg (by rw [h2];simp),if_neg (by rw [h2];simp)]
 cases findF p x.2.2.2.2.2.2.1 <;> rfl
def WantIn (p:List Fun) (x:Ins) (n:Nat):Prop:=(x.1=21→n < ((findF p x.2.2.2.2.2.2.1).getD fun0).2.1.length)∧(x.1≠20→x.1≠24→x.1≠28→x.1≠21→n < (L5.takes (L5.num x.1)).length)
end Go.Proofs.YtljkgcfnoegibaaGreatDoor
namespace Go.Proofs.YtljkgcfnoegibaaGreatDoor.Mix
open Go Go.RowKit
section
variable (P:Program) (ops:Array Oper) (W:World) (F:Tmp→Up)
def wpAnyL (md:Region.Mode) (n:Nat) (Q:Act→(Tmp→Prop)→Prop):Nat→Array Bool→Act→(Tmp→Prop)→Prop
 |0,listed,a,S=>((∀j∈Region.ready md ops listed,j=n)∧Region.ready md ops listed≠ []∧Region.ready md ops (listed.setIfInBounds n true)= [])∧Q a S
 |fuel+1,listed,a,S=>Region.ready md ops listed≠ []∧∀i∈Region.ready md ops listed,mOp P ops W F i (wpAnyL md n Q fuel (listed.setIfInBounds i true)) a S
end
section
variable {P:Program} {ops:Array Oper} {W:World} {F:Tmp→Up} {md:Region.Mode} {n:Nat}
theorem wpAny_of_L {Q:Act→(Tmp→Prop)→Prop} {Q':Exit→Act→World→Prop} {o:Oper} (ho:ops[n]? =some o)
  (hQ:∀a S w,Below W.heap.size W w→AllK F S a w→Q a S→Region.wanted o (yielded ops a.tmps)=true∧∀K:Act→World→Prop,(∀a' w',Q' .normal a' w'→K a' w')→o.wp P a w K Q'):
  ∀(fuel:Nat) (listed:Array Bool) (a:Act) (S:Tmp→Prop) (w:World),Below W.heap.size W w→AllK F S a w→wpAnyL P ops W F md n Q fuel listed a S→wpAny P md ops Q' (fuel+1) listed a w
 |0,listed,a,S,w,hC,hA,h=>⟨fun h0=>absurd h0 h.1.2.1,fun i hi=>by
   obtain rfl:=h.1.1 i hi
   obtain⟨hw,hk⟩:=hQ a S w hC hA h.2
   unfold wpOp
   simp only [ho]
   rw [if_pos hw]
   exact .inl (hk _ (fun a' w' q=>⟨h.1.2.2,q⟩))⟩
 |fuel+1,listed,a,S,w,hC,hA,h=>⟨fun h0=>absurd h0 h.1,fun i hi=>by
   have hh:=h.2 i hi
   unfold mOp at hh
   unfold wpOp
   split
   ·rename_i ho';simp only [ho'] at hh;exact wpAny_of_L ho hQ fuel _ _ _ _ hC hA hh
   ·rename_i o' ho'
    simp only [ho'] at hh
    unfold body at hh
    split
    ·rename_i hw
     rw [if_pos hw] at hh
     exact .inl (wp_of_body hC hA (fun a' S' w' c k q=>wpAny_of_L ho hQ fuel _ _ _ _ c k q) hh.1 hh.2)
    ·rename_i hw
     rw [if_neg hw] at hh
     exact wpAny_of_L ho hQ fuel _ _ _ _ hC hA.del hh⟩
theorem wpAnyL_first {Q:Act→(Tmp→Prop)→Prop} {i:Nat} {oi on:Oper} (hi:ops[i]? =some oi) (hn:ops[n]? =some on) (hlast:∃e∈on.after,Region.binds md e=true∧e.on=i) (hsel:∀(j:Nat) (o:Oper) cs b,ops[j]? =some o→o.op≠ .select cs b):
  ∀(fuel:Nat) (listed:Array Bool) (a:Act) (S:Tmp→Prop),
   (∀j oj,ops[j]? =some oj→j≠i→listed.getD j true=false→(∀e∈oj.after,Region.binds md e=true→e.on≠i)→oi.apart ops oj=true)→
   i∈Region.ready md ops listed→(Region.wanted oi (yielded ops a.tmps)=true→∃v,Valid W F oi.dst v)→
   body P ops W F oi (wpAnyL P ops W F md n Q fuel (listed.setIfInBounds i true)) a S→wpAnyL P ops W F md n Q (fuel+1) listed a S:=by
 intro fuel
 induction fuel with
 |zero=>
  intro listed a S _ hr hex H
  refine⟨fun h=>(by rw [h] at hr;cases hr),fun j hj=> ?_⟩
  by_cases hji:j=i
  ·subst hji;unfold mOp;simp only [hi];exact H
  ·have hno:=ready_mono hj hji
   have hall:∀j∈Region.ready md ops (listed.setIfInBounds i true),j=n:=by
    unfold body at H
    split at H
    ·rename_i hw
     obtain⟨v,hv⟩:=hex hw
     exact(H.2 v hv).1.1
    ·exact H.1.1
   obtain rfl:=hall j hno
   exfalso
   obtain⟨hjun,oj,hoj,hal⟩:=mem_ready.1 hj
   rw [hn] at hoj
   injection hoj with hoj
   subst hoj
   obtain⟨e,he,hb,heq⟩:=hlast
   have h1:=hal e he hb
   have h0:=(mem_ready.1 hr).1
   rw [heq] at h1
   rcases Nat.lt_or_ge i listed.size with h' | h'
   ·simp [h'] at h0 h1;rw [h0] at h1;cases h1
   ·simp [Array.getElem?_eq_none h'] at h1
 |succ fuel ih=>
  intro listed a S hfree hr hex H
  refine⟨fun h=>(by rw [h] at hr;cases hr),fun j hj=> ?_⟩
  by_cases hji:j=i
  ·subst hji;unfold mOp;simp only [hi];exact H
  ·obtain⟨hjun,oj,hoj,hall⟩:=mem_ready.1 hj
   have hnot:∀e∈oj.after,Region.binds md e=true→e.on≠i:=fun e he hb heq=>by
    have h1:=hall e he hb
    have h0:=(mem_ready.1 hr).1
    rw [heq] at h1
    rcases Nat.lt_or_ge i listed.size with h' | h'
    ·simp [h'] at h0 h1;rw [h0] at h1;cases h1
    ·simp [Array.getElem?_eq_none h'] at h1
   have hap:=hfree j oj hoj hji hjun hnot
   obtain⟨_,_,h3⟩:=Oper.apart_spec hap
   have H1:body P ops W F oi (fun a' S'=>body P ops W F oj (wpAnyL P ops W F md n Q fuel ((listed.setIfInBounds i true).setIfInBounds j true)) a' S') a S:=body_mono (fun a' S' h=>by
    have:=h.2 j (ready_mono hj hji)
    unfold mOp at this
    simp only [hoj] at this
    exact this) H
   have H2:=body_swap hap (fun cs b=>hsel i oi cs b hi) (fun cs b=>hsel j oj cs b hoj) hex H1
   have H3:=wanted_body (A:=fun a'=>Region.wanted oi (yielded ops a'.tmps)=true→∃v,Valid W F oi.dst v) (fun u=>by rw [wanted_put oi a oj.dst u h3];exact hex) H2
   have hfree':∀k ok,ops[k]? =some ok→k≠i→(listed.setIfInBounds j true).getD k true=false→
     (∀e∈ok.after,Region.binds md e=true→e.on≠i)→oi.apart ops ok=true:=fun k ok hk hki hun hno=>by
    refine hfree k ok hk hki ?_ hno
    by_cases hjk:j=k
    ·subst hjk;exact hjun
    ·rw [getD_set_ne true hjk] at hun;exact hun
   unfold mOp
   simp only [hoj]
   refine body_mono (fun a' S' h=>ih (listed.setIfInBounds j true) a' S' hfree' (ready_mono hr (Ne.symm hji)) h.1 ?_) H3
   rw [Array.setIfInBounds_comm _ _ hji]
   exact h.2
theorem wpAnyL_lex {Q:Act→(Tmp→Prop)→Prop} {on:Oper} (hn:ops[n]? =some on) (hs:Region.noSelect ops=true) (hlast:∀i,i < n→∃e∈on.after,Region.binds md e=true∧e.on=i):∀(l:List Oper) (k:Nat) (listed:Array Bool) (a:Act) (S:Tmp→Prop),k+l.length=n→(∀j,j < l.length→l[j]? =ops[k+j]?)→
  Region.lexFrom md ops (l.length+1) k listed=true→wpMix P ops W F Q l a S→wpAnyL P ops W F md n Q l.length listed a S
 |[],k,listed,_,_,hk,_,hB,h=>by
  have hkn:k=n:=by simpa using hk
  subst hkn
  simp only [List.length_nil,Region.lexFrom,Bool.and_eq_true] at hB
  obtain⟨⟨hr,_⟩,he⟩:=hB
  have hr':k∈Region.ready md ops listed:=by simpa using hr
  have he':Region.ready md ops (listed.setIfInBounds k true)= []:=by simpa using he
  refine⟨⟨fun j hj=> ?_,fun h0=>(by rw [h0] at hr';cases hr'),he'⟩,h⟩
  refine Classical.byContradiction fun hne=> ?_
  have:=ready_mono hj hne
  rw [he'] at this
  cases this
 |o :: l,k,listed,a,S,hk,hl,hB,h=>by
  have h0:ops[k]? =some o:=by simpa using (hl 0 (by simp)).symm
  simp only [List.length_cons] at hB hk
  rw [Region.lexFrom] at hB
  simp only [Bool.and_eq_true] at hB
  obtain⟨⟨hr,hf⟩,hB'⟩:=hB
  refine wpAnyL_first h0 hn (hlast k (by omega)) (Region.noSelect_spec hs) l.length listed a S (Region.free_spec h0 hf) (by simpa using hr) h.1 ?_
  exact body_mono (fun a' S' q=>wpAnyL_lex hn hs hlast l (k+1) _ _ _ (by omega) (fun j hj=>by have:=hl (j+1) (by simp;omega);simpa [Nat.add_assoc,Nat.add_comm 1 j] using this) hB' q) h.2
theorem wp_region_last {id:Nat} {Q:Exit→Act→World→Prop} {a:Act} {l:List Oper} (F:Tmp→Up) (n:Nat) (o:Oper) (hn:l.length=n+1) (ho:l[n]? =some o) (hm:P.follows .mixedOrders=true) (hB:Region.lexB .any l.toArray=true)
  (hL:(List.range n).all (fun i=>o.after.any fun e=>Region.binds .any e && e.on == i)=true)
  (h:wpMix P l.toArray W F (fun a' S=>∀w',Below W.heap.size W w'→AllK F S a' w'→Region.wanted o (yielded l.toArray a'.tmps)=true∧∀K:Act→World→Prop,(∀a'' w'',Q .normal a'' w''→K a'' w'')→o.wp P a' w' K Q) (l.take n) a (fun _=>False)):(Code.region id l.toArray true).wp P Q a W:=by
 simp only [Region.lexB,Bool.and_eq_true] at hB
 have hsz:l.toArray.size=n+1:=by simpa using hn
 refine wp_region_any hm ?_
 rw [hsz]
 have hoA:l.toArray[n]? =some o:=by simpa using ho
 refine wpAny_of_L (W:=W) (F:=F) (n:=n) (Q:=fun a' S=>∀w',Below W.heap.size W w'→AllK F S a' w'→Region.wanted o (yielded l.toArray a'.tmps)=true∧∀K:Act→World→Prop,(∀a'' w'',Q .normal a'' w''→K a'' w'')→o.wp P a' w' K Q) hoA (fun _ _ w' hC hA h=>h w' hC hA) n _ _ (fun _=>False) _ (Below.refl _ _).drew (fun t ht=>ht.elim) ?_
 have hlen:(l.take n).length=n:=by rw [List.length_take];omega
 have hlast:∀i,i < n→∃e∈o.after,Region.binds .any e=true∧e.on=i:=fun i hi=>by
  have:=List.all_eq_true.1 hL i (by simpa using hi)
  obtain⟨e,he,h2⟩:=Array.any_eq_true'.1 this
  simp only [Bool.and_eq_true,beq_iff_eq] at h2
  exact⟨e,he,h2.1,h2.2⟩
 have hB2:=hB.2
 rw [hsz] at hB2
 have:=wpAnyL_lex (P:=P) (W:=W) (F:=F) (md:= .any) (n:=n) hoA hB.1 hlast (l.take n) 0 (Array.replicate (n+1) false) a (fun _=>False) (by omega) (fun j hj=>by
  rw [Nat.zero_add,List.getElem?_take,if_pos (by omega)];simp) (by rw [hlen];exact hB2) h
 rw [hlen] at this
 exact this
end
end Go.Proofs.YtljkgcfnoegibaaGreatDoor.Mix
namespace Go.Proofs.YtljkgcfnoegibaaGreatDoor
open Go Go.RowKit
open G (Tok Er Ins Fun)
open Mix (Up)
def PtrI (w:World) (l:List Int) (v:Value):Prop:=∃g o u,v= .pointer (some ⟨g,o,none⟩)∧g < w.heap.size∧w.cell? ⟨g,o,none⟩=some u∧IntsV w l u
theorem PtrI.below {w w':World} {l:List Int} {v:Value} (h:PtrI w l v) (b:Below w.heap.size w w'):PtrI w' l v:=by
 obtain⟨g,o,u,e,hg,hc,hi⟩:=h
 exact⟨g,o,u,e,Nat.lt_of_lt_of_le hg b.size,(b.cell (p:=⟨g,o,none⟩) hg).trans hc,hi.below b⟩
def Up.ptri (l:List Int):Up:=⟨fun v w=>PtrI w l v,fun _ _ _ b h=>h.below b⟩
theorem rows_first {w:World} {ll:List (List Int)} {v:Value} {l:List Int} (h:RowsV w ll v) (hl:ll[0]? =some l):∃g o c u,v= .slice (some ⟨g,o,none⟩) ll.length c∧g < w.heap.size∧w.cell? ⟨g,o,none⟩=some u∧IntsV w l u:=by
 obtain⟨ao,c,rfl,hr,_,_⟩:=h
 rcases hr with he | ⟨g,o,rfl,hg,hc⟩
 ·rw [he] at hl;simp at hl
 ·obtain⟨u,hu,hi⟩:=hc 0 l hl
  exact⟨g,o,c,u,rfl,hg,hu,hi⟩
def BoxZ (B:Nat) (w:World) (v:Value):Prop:=∃b,v= .pointer (some ⟨b,0,none⟩)∧B≤b∧w.heap[b]? =some (.cells #[.int .i64 0,.int .i64 0,.int .i64 0,.bool false] 62 (0,0))
theorem BoxZ.below {B:Nat} {w w':World} {v:Value} (h:BoxZ B w v) (b:Below w.heap.size w w'):BoxZ B w' v:=by
 obtain⟨q,e,hb,hq⟩:=h
 exact⟨q,e,hb,(b.block q (Array.getElem?_eq_some_iff.1 hq).1).trans hq⟩
def Kept (p:List Fun) (f:Fun):Prop:=((shapedF f).1=0→Ful f∧Tos f∧0 < f.2.2.2.1.length)∧∀k i,k < f.2.2.2.1.length→i < (blkN f k).length→headX p f (insN f k i)=0→∀n,n < (insN f k i).2.2.2.2.1.length→WantIn p (insN f k i) n∧((insN f k i).1=20→n < (insN f k i).2.2.2.2.2.1.length)
theorem whole_at:∀(p:List Fun) (i m:Nat),(wholeF i m p).1≠0→∃j:Nat,(wholeF i m p).2=j∧i≤j∧j < i+p.length:=by
 intro p
 induction p with
 |nil=>intro i m h;simp [wholeF] at h
 |cons f r ih=>
  intro i m h
  by_cases hi:i=32
  ·subst hi
   exact⟨32,by rw [whole_many],Nat.le_refl _,by simp⟩
  ·by_cases hh:headC f≠0
   ·exact⟨i,by rw [whole_head m r hi hh],Nat.le_refl _,by simp⟩
   ·have hh':headC f=0:=by simpa using hh
    by_cases hb:(runB m f.2.2.2.1).2≠0
    ·exact⟨i,by rw [whole_body r hi hh' hb],Nat.le_refl _,by simp⟩
    ·have hb':(runB m f.2.2.2.1).2=0:=by simpa using hb
     rw [whole_next r hi hh' hb'] at h ⊢
     obtain⟨j,h1,h2,h3⟩:=ih (i+1) _ h
     exact⟨j,h1,by omega,by simp;omega⟩
def BoxE (B:Nat) (w:World) (v:Value):Prop:=∃b,v= .pointer (some ⟨b,0,none⟩)∧B≤b∧w.heap[b]? =some (.cells #[.int .i64 0,.int .i64 0] 29 (0,0))
theorem BoxE.below {B:Nat} {w w':World} {v:Value} (h:BoxE B w v) (b:Below w.heap.size w w'):BoxE B w' v:=by
 obtain⟨q,e,hb,hq⟩:=h
 exact⟨q,e,hb,(b.block q (Array.getElem?_eq_some_iff.1 hq).1).trans hq⟩
theorem runI_iff (b:List Ins):∀m,m≤4096→((runI m b).2=0↔(∀x∈b,checkC x=0)∧m+b.length≤4096)∧((runI m b).2=0→(runI m b).1=m+b.length):=by
 induction b with
 |nil=>intro m hm;simp [runI,hm]
 |cons x b ih=>
  intro m hm
  by_cases h1:m=4096
  ·subst h1
   simp only [runI,if_true,List.length_cons]
   exact⟨⟨fun k=>(by cases k),fun k=>(by omega)⟩,fun k=>(by cases k)⟩
  ·by_cases h2:checkC x=0
   ·rw [runI,if_neg h1,if_neg (by simp [h2])]
    obtain⟨i1,i2⟩:=ih (m+1) (by omega)
    refine⟨?_,fun k=>by rw [i2 k,List.length_cons];omega⟩
    rw [i1]
    simp only [List.mem_cons,forall_eq_or_imp,h2,true_and,List.length_cons]
    constructor <;> rintro ⟨a,b⟩ <;> exact⟨a,by omega⟩
   ·rw [runI,if_neg h1,if_pos h2]
    refine⟨⟨fun k=>absurd k h2,fun k=>absurd (k.1 x (by simp)) h2⟩,fun k=>absurd k h2⟩
def szB (l:List (List Ins)):Nat:=(l.map List.length).sum
theorem runB_iff (l:List (List Ins)):∀m,m≤4096→((runB m l).2=0↔(∀b∈l,∀x∈b,checkC x=0)∧m+szB l≤4096)∧((runB m l).2=0→(runB m l).1=m+szB l):=by
 induction l with
 |nil=>intro m hm;simp [runB,szB,hm]
 |cons b l ih=>
  intro m hm
  obtain⟨j1,j2⟩:=runI_iff b m hm
  have hs:szB (b :: l)=b.length+szB l:=by simp [szB]
  by_cases h1:(runI m b).2=0
  ·rw [runB,if_neg (by simp [h1]),j2 h1]
   obtain⟨k1,k2⟩:=j1.1 h1
   obtain⟨i1,i2⟩:=ih (m+b.length) k2
   rw [hs]
   refine⟨?_,fun k=>by rw [i2 k];omega⟩
   rw [i1]
   simp only [List.mem_cons,forall_eq_or_imp]
   constructor
   ·rintro ⟨a,c⟩;exact⟨⟨k1,a⟩,by omega⟩
   ·rintro ⟨⟨_,a⟩,c⟩;exact⟨a,by omega⟩
  ·rw [runB,if_pos h1,hs]
   refine⟨⟨fun k=>absurd k h1,fun k=>absurd (j1.2 ⟨k.1 b (by simp),by omega⟩) h1⟩,fun k=>absurd k h1⟩
def szP (p:List Fun):Nat:=(p.map fun x=>szB x.2.2.2.1).sum
theorem whole_iff (p:List Fun):∀i m,i≤32→m≤4096→((wholeF i m p).1=0↔(∀f∈p,headC f=0∧∀b∈f.2.2.2.1,∀x∈b,checkC x=0)∧i+p.length≤32∧m+szP p≤4096)∧((wholeF i m p).1=0→wholeF i m p=(0,0)):=by
 induction p with
 |nil=>intro i m h1 h2;simp [wholeF,szP,h1,h2]
 |cons f p ih=>
  intro i m h1 h2
  have hs:szP (f :: p)=szB f.2.2.2.1+szP p:=by simp [szP]
  obtain⟨j1,j2⟩:=runB_iff f.2.2.2.1 m h2
  rw [hs]
  by_cases k1:i=32
  ·subst k1
   rw [whole_many,List.length_cons]
   exact⟨⟨fun k=>(by cases k),fun k=>(by omega)⟩,fun k=>(by cases k)⟩
  by_cases k2:headC f=0
  ·by_cases k3:(runB m f.2.2.2.1).2=0
   ·rw [whole_next p k1 k2 k3,j2 k3]
    obtain⟨b1,b2⟩:=j1.1 k3
    obtain⟨i1,i2⟩:=ih (i+1) (m+szB f.2.2.2.1) (by omega) b2
    refine⟨?_,i2⟩
    rw [i1]
    simp only [List.mem_cons,forall_eq_or_imp,List.length_cons]
    constructor
    ·rintro ⟨a,c,d⟩;exact⟨⟨⟨k2,b1⟩,a⟩,by omega,by omega⟩
    ·rintro ⟨⟨_,a⟩,c,d⟩;exact⟨a,by omega,by omega⟩
   ·rw [whole_body p k1 k2 k3]
    refine⟨⟨fun k=>absurd k k3,fun k=>absurd (j1.2 ⟨(k.1 f (by simp)).2,by omega⟩) k3⟩,fun k=>absurd k k3⟩
  ·rw [whole_head m p k1 k2]
   refine⟨⟨fun k=>absurd k k2,fun k=>absurd (k.1 f (by simp)).1 k2⟩,fun k=>absurd k k2⟩
def Shp (f:Fun):Prop:=f.2.2.2.1.length≤1000000∧(∀b∈f.2.2.2.1,∀x∈b,x.2.2.2.2.2.1.length≤1000000)∧(shapedF f).1=0
theorem shp_pos {f:Fun} (h:Shp f):0 < f.2.2.2.1.length:=by
 have h3:=h.2.2
 unfold shapedF at h3
 split at h3
 ·cases h3
 ·omega
theorem shp_blk {f:Fun} (h:Shp f):∀b∈f.2.2.2.1,b.length≠0∧blkGo f.2.2.2.1.length b.length 0 b=0:=by
 have h0:=shp_pos h
 have h3:=h.2.2
 unfold shapedF at h3
 rw [if_neg (by omega)] at h3
 intro b hb
 have:=shapedGo_zero _ _ _ h3 b hb
 unfold blkE at this
 split at this
 ·cases this
 ·exact⟨by assumption,this⟩
theorem shp_ful {f:Fun} (h:Shp f):Ful f:=by
 refine⟨Nat.le_trans h.1 (by omega),fun b hb=>⟨fun e=>(shp_blk h b hb).1 (by rw [e];rfl),fun x hx=> ?_⟩⟩
 exact Nat.le_trans (h.2.1 b hb x hx) (by omega)
theorem shp_tos {f:Fun} (h:Shp f):Tos f:=by
 intro j
 by_cases hj:j < f.2.2.2.1.length
 ·have hb:f.2.2.2.1[j]? =some f.2.2.2.1[j]:=List.getElem?_eq_getElem hj
  obtain⟨h1,h2⟩:=shp_blk h _ (List.mem_of_getElem? hb)
  obtain⟨x,hx,hl,_⟩:=(shp_ful h).last (List.mem_of_getElem? hb)
  rw [nextF_at hb,hl]
  obtain⟨k1,k2⟩:=blkGo_zero _ _ _ _ h2 _ x hx
  have hend:endsB x.1=true:=by rw [k1];simp;omega
  have hop:x.1≠20:=by
   intro e
   rw [e] at hend
   simp [endsB] at hend
  have hbt:badT f.2.2.2.1.length x.2.2.2.2.2.1=false:=by
   unfold badI at k2
   simpa [hop] using k2
  intro m hm
  have hm2:m∈x.2.2.2.2.2.1:=by rw [←hasL_mem,hasL_once,hasL_mem] at hm;exact hm
  unfold badT at hbt
  have:=List.any_eq_false.1 hbt m hm2
  simp at this
  omega
 ·have e:nextF f j= []:=by
   unfold nextF
   rw [List.getD_eq_getElem?_getD,List.getElem?_eq_none (by omega)];rfl
  rw [e]
  intro m hm
  cases hm
theorem check_cnt {x:Ins} (h:checkC x=0):cntOk x.1 x.2.2.2.2.1.length x.2.2.2.2.2.1.length=true:=by
 cases hc:cntOk x.1 x.2.2.2.2.1.length x.2.2.2.2.2.1.length with
 |true=>rfl
 |false=>
  exfalso
  unfold checkC at h
  rw [hc] at h
  by_cases h1:(opOk x.1 && L5.may x.1 x.2.2.2.1)=false
  ·rw [if_pos h1] at h;cases h
  ·rw [if_neg h1] at h
   by_cases h2:numOk x.1 x.2.1 x.2.2.2.1=false
   ·rw [if_pos h2] at h;cases h
   ·rw [if_neg h2,if_pos rfl] at h;cases h
theorem takes_if:(L5.takes (L5.num 27)).length=1:=by decide +kernel
theorem want_in {p:List Fun} {f:Fun} {x:Ins} {n:Nat} (hc:checkC x=0) (hh:headX p f x=0) (hn:n < x.2.2.2.2.1.length):WantIn p x n∧(x.1=20→n < x.2.2.2.2.2.1.length):=by
 have hk:=check_cnt hc
 refine⟨⟨fun h21=> ?_,fun h20 h24 h28 h21=> ?_⟩,fun h20=> ?_⟩
 ·rw [headX_call h21] at hh
  cases hs:(findF p x.2.2.2.2.2.2.1).isSome with
  |false=>rw [hs] at hh;simp at hh
  |true=>
   rw [hs,if_pos rfl] at hh
   by_cases h1:((findF p x.2.2.2.2.2.2.1).getD fun0).2.2.1≠x.2.2.2.1
   ·rw [if_pos h1] at hh;cases hh
   ·rw [if_neg h1] at hh
    by_cases h2:((findF p x.2.2.2.2.2.2.1).getD fun0).2.1.length≠x.2.2.2.2.1.length
    ·rw [if_pos h2] at hh;cases hh
    ·have h3:((findF p x.2.2.2.2.2.2.1).getD fun0).2.1.length=x.2.2.2.2.1.length:=by simpa using h2
     omega
 ·unfold cntOk at hk
  rw [if_neg h20,if_neg h21,if_neg h24] at hk
  by_cases h26:x.1=26
  ·rw [if_pos h26] at hk;simp at hk;rw [hk.1] at hn;simp at hn
  ·rw [if_neg h26] at hk
   by_cases h27:x.1=27
   ·rw [if_pos h27] at hk
    simp at hk
    rw [h27,takes_if]
    omega
   ·rw [if_neg h27,if_neg h28] at hk
    simp at hk
    have:=hk.1
    unfold tkN at this
    omega
 ·unfold cntOk at hk
  rw [if_pos h20] at hk
  simp at hk
  omega
theorem kept_of {p:List Fun} (hW:(wholeF 0 0 p).1=0) (hN:∀f∈p,f.2.2.2.1.length≤1000000∧∀b∈f.2.2.2.1,∀x∈b,x.2.2.2.2.2.1.length≤1000000):∀f∈p,Kept p f:=by
 intro f hf
 have hc:=(((whole_iff p 0 0 (by omega) (by omega)).1.1 hW).1 f hf).2
 refine⟨fun hS=> ?_,fun k i hk hi hh n hn=> ?_⟩
 ·have h:Shp f:=⟨(hN f hf).1,(hN f hf).2,hS⟩
  exact⟨shp_ful h,shp_tos h,shp_pos h⟩
 ·exact want_in (hc _ (List.mem_of_getElem? (blkN_at hk)) _ (List.mem_of_getElem? (insN_at hi))) hh hn
theorem fstN_succ {α:Type} (g:Nat→Option α) (n:Nat):fstN g (n+1)=(fstN g n).or (g n):=by
 unfold fstN
 rw [List.range_succ,List.findSome?_append]
 cases h:g n <;> simp [List.findSome?,h]
theorem fstN_congr {α:Type} {g h:Nat→Option α} {n:Nat} (e:∀j,j < n→g j=h j):fstN g n=fstN h n:=by
 induction n with
 |zero=>rfl
 |succ n ih=>rw [fstN_succ,fstN_succ,ih (fun j hj=>e j (by omega)),e n (by omega)]
theorem scanF_first (f:Fun) (id:Int):scanF f id 0 0=none:=by
 unfold scanF
 apply fstN_none
 intro k hk
 have hk0:k=0:=by omega
 subst hk0
 simp [limB,scanB,fstN]
theorem scanF_step {f:Fun} {id:Int} {K J:Nat} (hK:K < f.2.2.2.1.length) (hJ:J < (blkN f K).length):scanF f id K (J+1)=(scanF f id K J).or (scanG f id K J):=by
 unfold scanF
 rw [Nat.min_eq_left (by omega),fstN_succ,fstN_succ]
 have e:fstN (fun k=>scanB f id k (limB f K (J+1) k)) K=fstN (fun k=>scanB f id k (limB f K J k)) K:=fstN_congr fun k hk=>by simp [limB,hk]
 have e1:scanB f id K (limB f K (J+1) K)=(scanB f id K (limB f K J K)).or (scanG f id K J):=by
  simp only [limB,Nat.lt_irrefl,if_false]
  unfold scanB
  rw [Nat.min_eq_left (by omega),Nat.min_eq_left (by omega),fstN_succ]
 rw [e,e1,Option.or_assoc]
theorem scanF_next {f:Fun} {id:Int} {K:Nat} (hK:K < f.2.2.2.1.length):scanF f id (K+1) 0=scanF f id K (blkN f K).length:=by
 have e:fstN (fun k=>scanB f id k (limB f (K+1) 0 k)) (K+1)=fstN (fun k=>scanB f id k (limB f K (blkN f K).length k)) (K+1):=by
  refine fstN_congr fun k hk=> ?_
  have h1:limB f (K+1) 0 k=(blkN f k).length:=by simp [limB,hk]
  have h2:limB f K (blkN f K).length k=(blkN f k).length:=by
   by_cases hkk:k < K
   ·simp [limB,hkk]
   ·have:k=K:=by omega
    subst this
    simp [limB]
  rw [h1,h2]
 unfold scanF
 rw [show min (K+1) f.2.2.2.1.length=K+1 by omega,←e]
 by_cases h:K+1 < f.2.2.2.1.length
 ·rw [show min (K+1+1) f.2.2.2.1.length=K+1+1 by omega,fstN_succ]
  have h0:scanB f id (K+1) (limB f (K+1) 0 (K+1))=none:=by simp [limB,scanB,fstN]
  rw [h0]
  simp
 ·rw [show min (K+1+1) f.2.2.2.1.length=K+1 by omega]
def plF (f:Fun) (id:Int) (K J:Nat):Option (Int × Int × Int):=if isPar f id then some (0,-1,f.2.1.getD id.toNat 0)else(scanF f id K J).map fun m=>(m.1,m.2.1,m.2.2.1)
theorem scanF_is {f:Fun} {id:Int} {K J:Nat} {m:Plc} (h:scanF f id K J=some m):∃k i,k < f.2.2.2.1.length∧i < (blkN f k).length∧hitX id (insN f k i)=true∧m=((k:Int),(i:Int),mkX (insN f k i),true):=by
 obtain⟨k,hk,h1,_⟩:=fstN_at h
 obtain⟨i,hi,h2,_⟩:=fstN_at h1
 unfold scanG at h2
 split at h2
 ·rename_i hh
  cases h2
  exact⟨k,i,by omega,by omega,hh,rfl⟩
 ·cases h2
theorem made_pl (f:Fun) (id:Int) (K J:Nat):madeF f id K J=match plF f id K J with
  |some m=>(m.1,m.2.1,m.2.2,true)
  |none=>(0,0,0,false):=by
 unfold madeF plF
 split
 ·rfl
 ·cases h:scanF f id K J with
  |none=>rfl
  |some m=>
   obtain⟨k,i,_,_,_,rfl⟩:=scanF_is h
   rfl
theorem plF_is {f:Fun} {id:Int} {K J:Nat} {m:Int × Int × Int} (h:plF f id K J=some m):(isPar f id=true∧m=(0,-1,f.2.1.getD id.toNat 0))∨∃k i,k < f.2.2.2.1.length∧i < (blkN f k).length∧hitX id (insN f k i)=true∧m=((k:Int),(i:Int),mkX (insN f k i)):=by
 unfold plF at h
 split at h
 ·rename_i hp
  cases h
  exact .inl ⟨hp,rfl⟩
 ·right
  cases h1:scanF f id K J with
  |none=>simp [h1] at h
  |some m'=>
   obtain⟨k,i,a,b,c,rfl⟩:=scanF_is h1
   simp [h1] at h
   exact⟨k,i,a,b,c,h.symm⟩
theorem plF_first (f:Fun) (id:Int):plF f id 0 0=if isPar f id then some (0,-1,f.2.1.getD id.toNat 0)else none:=by
 unfold plF
 rw [scanF_first]
 rfl
theorem plF_step {f:Fun} {id:Int} {K J:Nat} (hK:K < f.2.2.2.1.length) (hJ:J < (blkN f K).length):plF f id K (J+1)=(plF f id K J).or (if hitX id (insN f K J)then some ((K:Int),(J:Int),mkX (insN f K J))else none):=by
 unfold plF
 split
 ·simp
 ·rw [scanF_step hK hJ]
  cases scanF f id K J with
  |some m=>simp
  |none=>
   simp only [Option.none_or,Option.map_none,scanG]
   split <;> rfl
theorem plF_next {f:Fun} {id:Int} {K:Nat} (hK:K < f.2.2.2.1.length):plF f id (K+1) 0=plF f id K (blkN f K).length:=by
 unfold plF
 rw [scanF_next hK]
def Once (f:Fun) (K J:Nat):Prop:=∀k i,(k < K∨k=K∧i < J)→k < f.2.2.2.1.length→i < (blkN f k).length→mkX (insN f k i)≠0→plF f (insN f k i).2.1 k i=none
theorem hit_iff {id:Int} {x:Ins}:hitX id x=true↔x.2.1=id∧mkX x≠0:=by
 unfold hitX
 simp
theorem plF_put {f:Fun} {K J:Nat} (hK:K < f.2.2.2.1.length) (hJ:J < (blkN f K).length) (h0:mkX (insN f K J)≠0) (hn:plF f (insN f K J).2.1 K J=none) (id:Int):plF f id K (J+1)=if id=(insN f K J).2.1 then some ((K:Int),(J:Int),mkX (insN f K J))else plF f id K J:=by
 rw [plF_step hK hJ]
 by_cases h:id=(insN f K J).2.1
 ·subst h
  rw [hn,if_pos rfl,if_pos (hit_iff.2 ⟨rfl,h0⟩)]
  rfl
 ·rw [if_neg h,if_neg (fun hh=>h (hit_iff.1 hh).1.symm)]
  simp
theorem plF_stay {f:Fun} {K J:Nat} (hK:K < f.2.2.2.1.length) (hJ:J < (blkN f K).length) (h0:mkX (insN f K J)=0) (id:Int):plF f id K (J+1)=plF f id K J:=by
 rw [plF_step hK hJ,if_neg (fun hh=>(hit_iff.1 hh).2 h0)]
 simp
def bigL (f:Fun) (K J:Nat):List Ins:=(f.2.2.2.1.take K).flatten ++ (blkN f K).take J
def tyL (f:Fun) (id:Int) (l:List Ins):Option Int:=l.foldl (fun a x=>if hitX id x then some (mkX x)else a) (if isPar f id then some (f.2.1.getD id.toNat 0)else none)
theorem bigL_first (f:Fun):bigL f 0 0= []:=by simp [bigL]
theorem bigL_step {f:Fun} {K J:Nat} (hJ:J < (blkN f K).length):bigL f K (J+1)=bigL f K J ++ [insN f K J]:=by
 unfold bigL
 rw [List.take_add_one,insN_at hJ]
 simp
theorem bigL_next {f:Fun} {K:Nat} (hK:K < f.2.2.2.1.length):bigL f (K+1) 0=bigL f K (blkN f K).length:=by
 unfold bigL
 rw [List.take_add_one,blkN_at hK]
 simp
theorem tyL_snoc (f:Fun) (id:Int) (l:List Ins) (x:Ins):tyL f id (l ++ [x])=if hitX id x then some (mkX x)else tyL f id l:=by
 simp [tyL,List.foldl_append]
theorem ty_once_row {f:Fun} {id:Int} {K:Nat} (hK:K < f.2.2.2.1.length) (h0:tyL f id (bigL f K 0)=(plF f id K 0).map (·.2.2)):∀J,J≤(blkN f K).length→Once f K J→tyL f id (bigL f K J)=(plF f id K J).map (·.2.2):=by
 intro J
 induction J with
 |zero=>intro _ _;exact h0
 |succ J ih=>
  intro hJ hO
  have hJ':J < (blkN f K).length:=by omega
  have e:=ih (by omega) (fun k i hki=>hO k i (by omega))
  rw [bigL_step hJ',tyL_snoc,plF_step hK hJ',e]
  by_cases hh:hitX id (insN f K J)=true
  ·have hn:=hO K J (by omega) hK hJ' (hit_iff.1 hh).2
   rw [(hit_iff.1 hh).1] at hn
   rw [if_pos hh,if_pos hh,hn]
   rfl
  ·rw [if_neg hh,if_neg hh]
   simp
theorem ty_once {f:Fun} {id:Int}:∀K,K≤f.2.2.2.1.length→Once f K 0→tyL f id (bigL f K 0)=(plF f id K 0).map (·.2.2):=by
 intro K
 induction K with
 |zero=>
  intro _ _
  rw [bigL_first,plF_first]
  unfold tyL
  simp only [List.foldl_nil]
  split <;> rfl
 |succ K ih=>
  intro hK hO
  have e:=ih (by omega) (fun k i hki=>hO k i (by omega))
  rw [bigL_next (by omega),plF_next (by omega)]
  exact ty_once_row (by omega) e _ (Nat.le_refl _) (fun k i hki=>hO k i (by omega))
theorem full_nodup:∀(l m:List Int),l.Nodup→(∀x∈l,x∈m)→m.length≤l.length→m.Nodup∧∀x∈m,x∈l:=by
 intro l
 induction l with
 |nil=>
  intro m _ _ hl
  have:m= []:=List.length_eq_zero_iff.1 (by simpa using hl)
  subst this
  simp
 |cons a l ih=>
  intro m hn hs hl
  obtain⟨s,t,rfl⟩:=List.append_of_mem (hs a (by simp))
  rw [List.nodup_cons] at hn
  obtain⟨h1,h2⟩:=ih (s ++ t) hn.2 (fun x hx=>by
   have:=hs x (by simp [hx])
   simp only [List.mem_append,List.mem_cons] at this ⊢
   rcases this with h | h | h
   ·exact .inl h
   ·subst h;exact absurd hx hn.1
   ·exact .inr h) (by simp at hl ⊢;omega)
  have ha:a ∉ s ++ t:=fun h=>hn.1 (h2 a h)
  refine⟨?_,fun x hx=> ?_⟩
  ·have:(a :: (s ++ t)).Nodup:=List.nodup_cons.2 ⟨ha,h1⟩
   exact List.perm_middle.symm.nodup this
  ·simp only [List.mem_append,List.mem_cons] at hx
   rcases hx with h | h | h
   ·exact List.mem_cons_of_mem _ (h2 x (by simp [h]))
   ·simp [h]
   ·exact List.mem_cons_of_mem _ (h2 x (by simp [h]))
def leftB (ps tt:List Int) (j:Nat):Bool:=hasL ps (tt.getD j 0) && !hasL (tt.take j) (tt.getD j 0)
def joinB (ps tt:List Int):Bool:=(List.range tt.length).all (leftB ps tt) && decide (tt.length=ps.length)
theorem nodup_take {tt:List Int} (h:∀j,j < tt.length→hasL (tt.take j) (tt.getD j 0)=false):tt.Nodup:=by
 unfold List.Nodup
 rw [List.pairwise_iff_getElem]
 intro i j hi hj hij e
 have h1:=h j hj
 rw [hasL_no] at h1
 apply h1
 have h2:tt.getD j 0=tt[j]:=by rw [List.getD_eq_getElem?_getD,List.getElem?_eq_getElem hj];rfl
 rw [h2,←e]
 exact List.mem_take_iff_getElem.2 ⟨i,by omega,rfl⟩
theorem join_iff {ps tt:List Int} (hp:ps.Nodup):joinB ps tt=(decide (tt.length=ps.length) && ps.all fun b=>hasL tt b):=by
 rw [Bool.eq_iff_iff]
 unfold joinB
 simp only [Bool.and_eq_true,List.all_eq_true,decide_eq_true_eq,List.mem_range,leftB,Bool.not_eq_true']
 constructor
 ·rintro ⟨h,hl⟩
  have hn:=nodup_take (fun j hj=>(h j hj).2)
  have hs:∀x∈tt,x∈ps:=by
   intro x hx
   obtain⟨j,hj,rfl⟩:=List.mem_iff_getElem.1 hx
   have:=hasL_mem.1 (h j hj).1
   rwa [List.getD_eq_getElem?_getD,List.getElem?_eq_getElem hj] at this
  obtain⟨_,h2⟩:=full_nodup tt ps hn hs (by omega)
  exact⟨hl,fun x hx=>hasL_mem.2 (h2 x hx)⟩
 ·rintro ⟨hl,h⟩
  obtain⟨h1,h2⟩:=full_nodup ps tt hp (fun x hx=>hasL_mem.1 (h x hx)) (by omega)
  refine⟨fun j hj=> ?_,hl⟩
  have e:tt.getD j 0=tt[j]:=by rw [List.getD_eq_getElem?_getD,List.getElem?_eq_getElem hj];rfl
  exact⟨hasL_mem.2 (h2 _ (by rw [e];exact List.getElem_mem hj)),take_fresh h1 (by rw [List.getElem?_eq_getElem hj,e])⟩
theorem preds_at {f:Fun} {k:Nat} (hk:k < f.2.2.2.1.length):(predsF f)[k]? =some (predTo f k f.2.2.2.1.length):=by
 unfold predsF
 rw [List.getElem?_map,List.getElem?_range hk]
 rfl
theorem preds_getD {f:Fun} {k:Nat} (hk:k < f.2.2.2.1.length):(predsF f).getD k []=predTo f k f.2.2.2.1.length:=by
 rw [List.getD_eq_getElem?_getD,preds_at hk]
 rfl
theorem predTo_nodup (f:Fun) (b k:Nat):(predTo f b k).Nodup:=by
 unfold predTo
 unfold List.Nodup
 rw [List.pairwise_map]
 refine List.Pairwise.imp ?_ ((List.pairwise_lt_range (n:=k)).sublist List.filter_sublist)
 intro a c h e
 simp at e
 omega
theorem predTo_num (f:Fun) (b k:Nat):Num k (predTo f b k):=by
 intro m hm
 unfold predTo at hm
 simp only [List.mem_map,List.mem_filter,List.mem_range] at hm
 obtain⟨a,⟨h,_⟩,rfl⟩:=hm
 simp
 omega
theorem phi_join {f:Fun} {k i:Nat} (hk:k < f.2.2.2.1.length):phiF f k i=((decide (i=0) || decide ((insN f k (i - 1)).1=20)) && joinB (predTo f k f.2.2.2.1.length) (insN f k i).2.2.2.2.2.1):=by
 unfold phiF
 rw [join_iff (predTo_nodup f k _),preds_getD hk,Bool.and_assoc]
theorem join_num {f:Fun} {k:Nat} {tt:List Int} (h:joinB (predTo f k f.2.2.2.1.length) tt=true):Num f.2.2.2.1.length tt:=by
 unfold joinB at h
 simp only [Bool.and_eq_true,List.all_eq_true,decide_eq_true_eq,List.mem_range,leftB,Bool.not_eq_true'] at h
 intro x hx
 obtain⟨j,hj,rfl⟩:=List.mem_iff_getElem.1 hx
 have:=hasL_mem.1 (h.1 j hj).1
 rw [List.getD_eq_getElem?_getD,List.getElem?_eq_getElem hj] at this
 exact predTo_num f k _ _ this
theorem order_le {f:Fun} (hT:Tos f) (h0:0 < f.2.2.2.1.length):(orderF f).length≤f.2.2.2.1.length:=fit_len _ _ (order_num hT h0).1 (order_num hT h0).2
theorem reach_all {f:Fun} (hT:Tos f) (h0:0 < f.2.2.2.1.length) (h:reachB f=true) {k:Nat} (hk:k < f.2.2.2.1.length):All (succsF f) k:=by
 unfold reachB at h
 simp only [Bool.and_eq_true,decide_eq_true_eq] at h
 rw [←mem_order hT h0]
 obtain⟨h1,h2⟩:=order_num hT h0
 refine(full_nodup (orderF f) ((List.range f.2.2.2.1.length).map Int.ofNat) h1 (fun x hx=> ?_) (by simp;omega)).2 _ ?_
 ·have:=h2 x hx
  simp only [List.mem_map,List.mem_range]
  exact⟨x.toNat,by omega,by simp;omega⟩
 ·simp only [List.mem_map,List.mem_range]
  exact⟨k,hk,rfl⟩
def befB (f:Fun) (a:Int × Int) (b:Int × Int):Bool:=if a.1=b.1 then decide (a.2 < b.2)else aheadB (succsF f) a.1 b.1
def tkC (f:Fun) (v t:Int) (b:Int × Int):Int:=match plF f v f.2.2.2.1.length 0 with
 |none=>8
 |some m=>if m.2.2≠t then 9 else if befB f (m.1,m.2.1) b then 0 else 10
def fromX (f:Fun) (k i n:Nat):Int × Int:=if(insN f k i).1=20 then((insN f k i).2.2.2.2.2.1.getD n 0,((blkN f ((insN f k i).2.2.2.2.2.1.getD n 0).toNat).length:Int))else((k:Int),(i:Int))
theorem tk_eq {p:List Fun} {f:Fun} {k i n:Nat} (hT:Tos f) (h0:0 < f.2.2.2.1.length) (hR:reachB f=true) (hk:k < f.2.2.2.1.length)
  (hphi:(insN f k i).1=20→0≤(insN f k i).2.2.2.2.2.1.getD n 0∧(insN f k i).2.2.2.2.2.1.getD n 0 < f.2.2.2.1.length):
  tkC f ((insN f k i).2.2.2.2.1.getD n 0) (wantX p f (insN f k i) n) (fromX f k i n)=takC p f k i n:=by
 have hG:=gr_succs hT h0
 unfold tkC takC
 simp only [made_pl]
 cases hm:plF f ((insN f k i).2.2.2.2.1.getD n 0) f.2.2.2.1.length 0 with
 |none=>simp
 |some m=>
  simp only [Bool.true_eq_false,if_false]
  split
  ·rfl
  ·rcases plF_is hm with ⟨_,rfl⟩ | ⟨b,j,hb,hj,_,rfl⟩
   ·rw [if_pos (show(-1:Int) < 0 by omega)]
    have hbef:befB f (0,-1) (fromX f k i n)=true:=by
     unfold befB fromX
     split
     ·rename_i h20
      obtain⟨g1,g2⟩:=hphi h20
      generalize (insN f k i).2.2.2.2.2.1.getD n 0=q at g1 g2
      split
      ·simp;omega
      ·rw [ahead_iff hG]
       obtain⟨Q,rfl⟩:∃Q:Nat,q=Q:=⟨q.toNat,by omega⟩
       exact Ahd.first (reach_all hT h0 hR (by omega))
     ·split
      ·simp;omega
      ·rw [ahead_iff hG]
       exact Ahd.first (reach_all hT h0 hR hk)
    rw [if_pos hbef]
   ·rw [if_neg (show ¬((j:Int) < 0) by omega)]
    unfold befB fromX
    by_cases h20:(insN f k i).1=20
    ·obtain⟨g1,g2⟩:=hphi h20
     rw [if_pos h20,if_pos h20]
     generalize (insN f k i).2.2.2.2.2.1.getD n 0=q at g1 g2
     obtain⟨Q,rfl⟩:∃Q:Nat,q=Q:=⟨q.toNat,by omega⟩
     by_cases hbq:(b:Int)=Q
     ·have:b=Q:=by omega
      subst this
      have ha:aheadB (succsF f) b b=true:=(ahead_iff hG _ _).2 (Ahd.refl (reach_all hT h0 hR hb))
      simp [ha,hj]
     ·simp [hbq]
    ·rw [if_neg h20,if_neg h20]
     by_cases hbk:(b:Int)=k
     ·simp only [hbk,if_true,decide_true,Bool.true_and,ne_eq,not_true_eq_false,decide_false,Bool.false_and]
      by_cases hji:(j:Int) < i
      ·simp [hji];omega
      ·simp [hji];omega
     ·simp only [hbk,if_false,decide_false,Bool.false_and,ne_eq,not_false_eq_true,decide_true,Bool.true_and]
      cases aheadB (succsF f) b k <;> simp
end Go.Proofs.YtljkgcfnoegibaaGreatDoor
