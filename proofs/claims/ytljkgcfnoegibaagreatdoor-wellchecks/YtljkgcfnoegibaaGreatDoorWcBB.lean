/- Texts of one chain, joined. -/
import Derived.Test.YtljkgcfnoegibaaGreatDoorWcAR
import Derived.Test.YtljkgcfnoegibaaGreatDoorWcAY
import Derived.Test.YtljkgcfnoegibaaGreatDoorWcBA
set_option maxHeartbeats 2000000
set_option maxRecDepth 20000
namespace Go.Proofs.YtljkgcfnoegibaaGreatDoor.Mix
open Go Go.RowKit
section
variable (P:Program) (ops:Array Oper) (W:World) (F:Tmp→Up)
def wpAnyL (md:Region.Mode) (n:Nat) (Q:Act→(Tmp→Prop)→Prop):Nat→Array Bool→Act→(Tmp→Prop)→Prop
 |0,listed,a,S=>((∀j∈Region.ready md ops listed,j=n)∧Region.ready md ops listed≠ []∧Region.ready md ops (listed.setIfInBounds n true)= [])∧Q a S
 |fuel+1,listed,a,S=>Region.ready md ops listed≠ []∧∀i∈Region.ready md ops listed,mOp P ops W F i (wpAnyL md n Q fuel (listed.setIfInBounds i true)) a S
end
section
variable {P:Program} {ops:Array Oper} {W:World} {F:Tmp→Up} {md:Region.Mode} {n:Nat}
theorem wpAny_of_L {Q:Act→(Tmp→Prop)→Prop} {Q':Exit→Act→World→Prop} {o:Oper} (ho:ops[n]? =some o)
  (hQ:∀a S w,Below W.heap.size W w→AllK F S a w→Q a S→Region.wanted o (yielded ops a.tmps)=true∧∀K:Act→World→Prop,(∀a' w',Q' .normal a' w'→K a' w')→o.wp P a w K Q'):
  ∀(fuel:Nat) (listed:Array Bool) (a:Act) (S:Tmp→Prop) (w:World),Below W.heap.size W w→AllK F S a w→wpAnyL P ops W F md n Q fuel listed a S→wpAny P md ops Q' (fuel+1) listed a w
 |0,listed,a,S,w,hC,hA,h=>⟨fun h0=>absurd h0 h.1.2.1,fun i hi=>by
   obtain rfl:=h.1.1 i hi
   obtain⟨hw,hk⟩:=hQ a S w hC hA h.2
   unfold wpOp
   simp only [ho]
   rw [if_pos hw]
   exact .inl (hk _ (fun a' w' q=>⟨h.1.2.2,q⟩))⟩
 |fuel+1,listed,a,S,w,hC,hA,h=>⟨fun h0=>absurd h0 h.1,fun i hi=>by
   have hh:=h.2 i hi
   unfold mOp at hh
   unfold wpOp
   split
   ·rename_i ho';simp only [ho'] at hh;exact wpAny_of_L ho hQ fuel _ _ _ _ hC hA hh
   ·rename_i o' ho'
    simp only [ho'] at hh
    unfold body at hh
    split
    ·rename_i hw
     rw [if_pos hw] at hh
     exact .inl (wp_of_body hC hA (fun a' S' w' c k q=>wpAny_of_L ho hQ fuel _ _ _ _ c k q) hh.1 hh.2)
    ·rename_i hw
     rw [if_neg hw] at hh
     exact wpAny_of_L ho hQ fuel _ _ _ _ hC hA.del hh⟩
theorem wpAnyL_first {Q:Act→(Tmp→Prop)→Prop} {i:Nat} {oi on:Oper} (hi:ops[i]? =some oi) (hn:ops[n]? =some on) (hlast:∃e∈on.after,Region.binds md e=true∧e.on=i) (hsel:∀(j:Nat) (o:Oper) cs b,ops[j]? =some o→o.op≠ .select cs b):
  ∀(fuel:Nat) (listed:Array Bool) (a:Act) (S:Tmp→Prop),
   (∀j oj,ops[j]? =some oj→j≠i→listed.getD j true=false→(∀e∈oj.after,Region.binds md e=true→e.on≠i)→oi.apart ops oj=true)→
   i∈Region.ready md ops listed→(Region.wanted oi (yielded ops a.tmps)=true→∃v,Valid W F oi.dst v)→
   body P ops W F oi (wpAnyL P ops W F md n Q fuel (listed.setIfInBounds i true)) a S→wpAnyL P ops W F md n Q (fuel+1) listed a S:=by
 intro fuel
 induction fuel with
 |zero=>
  intro listed a S _ hr hex H
  refine⟨fun h=>(by rw [h] at hr;cases hr),fun j hj=> ?_⟩
  by_cases hji:j=i
  ·subst hji;unfold mOp;simp only [hi];exact H
  ·have hno:=ready_mono hj hji
   have hall:∀j∈Region.ready md ops (listed.setIfInBounds i true),j=n:=by
    unfold body at H
    split at H
    ·rename_i hw
     obtain⟨v,hv⟩:=hex hw
     exact(H.2 v hv).1.1
    ·exact H.1.1
   obtain rfl:=hall j hno
   exfalso
   obtain⟨hjun,oj,hoj,hal⟩:=mem_ready.1 hj
   rw [hn] at hoj
   injection hoj with hoj
   subst hoj
   obtain⟨e,he,hb,heq⟩:=hlast
   have h1:=hal e he hb
   have h0:=(mem_ready.1 hr).1
   rw [heq] at h1
   rcases Nat.lt_or_ge i listed.size with h' | h'
   ·simp [h'] at h0 h1;rw [h0] at h1;cases h1
   ·simp [Array.getElem?_eq_none h'] at h1
 |succ fuel ih=>
  intro listed a S hfree hr hex H
  refine⟨fun h=>(by rw [h] at hr;cases hr),fun j hj=> ?_⟩
  by_cases hji:j=i
  ·subst hji;unfold mOp;simp only [hi];exact H
  ·obtain⟨hjun,oj,hoj,hall⟩:=mem_ready.1 hj
   have hnot:∀e∈oj.after,Region.binds md e=true→e.on≠i:=fun e he hb heq=>by
    have h1:=hall e he hb
    have h0:=(mem_ready.1 hr).1
    rw [heq] at h1
    rcases Nat.lt_or_ge i listed.size with h' | h'
    ·simp [h'] at h0 h1;rw [h0] at h1;cases h1
    ·simp [Array.getElem?_eq_none h'] at h1
   have hap:=hfree j oj hoj hji hjun hnot
   obtain⟨_,_,h3⟩:=Oper.apart_spec hap
   have H1:body P ops W F oi (fun a' S'=>body P ops W F oj (wpAnyL P ops W F md n Q fuel ((listed.setIfInBounds i true).setIfInBounds j true)) a' S') a S:=body_mono (fun a' S' h=>by
    have:=h.2 j (ready_mono hj hji)
    unfold mOp at this
    simp only [hoj] at this
    exact this) H
   have H2:=body_swap hap (fun cs b=>hsel i oi cs b hi) (fun cs b=>hsel j oj cs b hoj) hex H1
   have H3:=wanted_body (A:=fun a'=>Region.wanted oi (yielded ops a'.tmps)=true→∃v,Valid W F oi.dst v) (fun u=>by rw [wanted_put oi a oj.dst u h3];exact hex) H2
   have hfree':∀k ok,ops[k]? =some ok→k≠i→(listed.setIfInBounds j true).getD k true=false→
     (∀e∈ok.after,Region.binds md e=true→e.on≠i)→oi.apart ops ok=true:=fun k ok hk hki hun hno=>by
    refine hfree k ok hk hki ?_ hno
    by_cases hjk:j=k
    ·subst hjk;exact hjun
    ·rw [getD_set_ne true hjk] at hun;exact hun
   unfold mOp
   simp only [hoj]
   refine body_mono (fun a' S' h=>ih (listed.setIfInBounds j true) a' S' hfree' (ready_mono hr (Ne.symm hji)) h.1 ?_) H3
   rw [Array.setIfInBounds_comm _ _ hji]
   exact h.2
theorem wpAnyL_lex {Q:Act→(Tmp→Prop)→Prop} {on:Oper} (hn:ops[n]? =some on) (hs:Region.noSelect ops=true) (hlast:∀i,i < n→∃e∈on.after,Region.binds md e=true∧e.on=i):∀(l:List Oper) (k:Nat) (listed:Array Bool) (a:Act) (S:Tmp→Prop),k+l.length=n→(∀j,j < l.length→l[j]? =ops[k+j]?)→
  Region.lexFrom md ops (l.length+1) k listed=true→wpMix P ops W F Q l a S→wpAnyL P ops W F md n Q l.length listed a S
 |[],k,listed,_,_,hk,_,hB,h=>by
  have hkn:k=n:=by simpa using hk
  subst hkn
  simp only [List.length_nil,Region.lexFrom,Bool.and_eq_true] at hB
  obtain⟨⟨hr,_⟩,he⟩:=hB
  have hr':k∈Region.ready md ops listed:=by simpa using hr
  have he':Region.ready md ops (listed.setIfInBounds k true)= []:=by simpa using he
  refine⟨⟨fun j hj=> ?_,fun h0=>(by rw [h0] at hr';cases hr'),he'⟩,h⟩
  refine Classical.byContradiction fun hne=> ?_
  have:=ready_mono hj hne
  rw [he'] at this
  cases this
 |o :: l,k,listed,a,S,hk,hl,hB,h=>by
  have h0:ops[k]? =some o:=by simpa using (hl 0 (by simp)).symm
  simp only [List.length_cons] at hB hk
  rw [Region.lexFrom] at hB
  simp only [Bool.and_eq_true] at hB
  obtain⟨⟨hr,hf⟩,hB'⟩:=hB
  refine wpAnyL_first h0 hn (hlast k (by omega)) (Region.noSelect_spec hs) l.length listed a S (Region.free_spec h0 hf) (by simpa using hr) h.1 ?_
  exact body_mono (fun a' S' q=>wpAnyL_lex hn hs hlast l (k+1) _ _ _ (by omega) (fun j hj=>by have:=hl (j+1) (by simp;omega);simpa [Nat.add_assoc,Nat.add_comm 1 j] using this) hB' q) h.2
theorem wp_region_last {id:Nat} {Q:Exit→Act→World→Prop} {a:Act} {l:List Oper} (F:Tmp→Up) (n:Nat) (o:Oper) (hn:l.length=n+1) (ho:l[n]? =some o) (hm:P.follows .mixedOrders=true) (hB:Region.lexB .any l.toArray=true)
  (hL:(List.range n).all (fun i=>o.after.any fun e=>Region.binds .any e && e.on == i)=true)
  (h:wpMix P l.toArray W F (fun a' S=>∀w',Below W.heap.size W w'→AllK F S a' w'→Region.wanted o (yielded l.toArray a'.tmps)=true∧∀K:Act→World→Prop,(∀a'' w'',Q .normal a'' w''→K a'' w'')→o.wp P a' w' K Q) (l.take n) a (fun _=>False)):(Code.region id l.toArray true).wp P Q a W:=by
 simp only [Region.lexB,Bool.and_eq_true] at hB
 have hsz:l.toArray.size=n+1:=by simpa using hn
 refine wp_region_any hm ?_
 rw [hsz]
 have hoA:l.toArray[n]? =some o:=by simpa using ho
 refine wpAny_of_L (W:=W) (F:=F) (n:=n) (Q:=fun a' S=>∀w',Below W.heap.size W w'→AllK F S a' w'→Region.wanted o (yielded l.toArray a'.tmps)=true∧∀K:Act→World→Prop,(∀a'' w'',Q .normal a'' w''→K a'' w'')→o.wp P a' w' K Q) hoA (fun _ _ w' hC hA h=>h w' hC hA) n _ _ (fun _=>False) _ (Below.refl _ _).drew (fun t ht=>ht.elim) ?_
 have hlen:(l.take n).length=n:=by rw [List.length_take];omega
 have hlast:∀i,i < n→∃e∈o.after,Region.binds .any e=true∧e.on=i:=fun i hi=>by
  have:=List.all_eq_true.1 hL i (by simpa using hi)
  obtain⟨e,he,h2⟩:=Array.any_eq_true'.1 this
  simp only [Bool.and_eq_true,beq_iff_eq] at h2
  exact⟨e,he,h2.1,h2.2⟩
 have hB2:=hB.2
 rw [hsz] at hB2
 have:=wpAnyL_lex (P:=P) (W:=W) (F:=F) (md:= .any) (n:=n) hoA hB.1 hlast (l.take n) 0 (Array.replicate (n+1) false) a (fun _=>False) (by omega) (fun j hj=>by
  rw [Nat.zero_add,List.getElem?_take,if_pos (by omega)];simp) (by rw [hlen];exact hB2) h
 rw [hlen] at this
 exact this
end
end Go.Proofs.YtljkgcfnoegibaaGreatDoor.Mix
namespace Go.Proofs.YtljkgcfnoegibaaGreatDoor
open Go Go.RowKit
open G (Tok Er Ins Fun)
open Mix (Up)
def PtrI (w:World) (l:List Int) (v:Value):Prop:=∃g o u,v= .pointer (some ⟨g,o,none⟩)∧g < w.heap.size∧w.cell? ⟨g,o,none⟩=some u∧IntsV w l u
theorem PtrI.below {w w':World} {l:List Int} {v:Value} (h:PtrI w l v) (b:Below w.heap.size w w'):PtrI w' l v:=by
 obtain⟨g,o,u,e,hg,hc,hi⟩:=h
 exact⟨g,o,u,e,Nat.lt_of_lt_of_le hg b.size,(b.cell (p:=⟨g,o,none⟩) hg).trans hc,hi.below b⟩
def Up.ptri (l:List Int):Up:=⟨fun v w=>PtrI w l v,fun _ _ _ b h=>h.below b⟩
theorem rows_first {w:World} {ll:List (List Int)} {v:Value} {l:List Int} (h:RowsV w ll v) (hl:ll[0]? =some l):∃g o c u,v= .slice (some ⟨g,o,none⟩) ll.length c∧g < w.heap.size∧w.cell? ⟨g,o,none⟩=some u∧IntsV w l u:=by
 obtain⟨ao,c,rfl,hr,_,_⟩:=h
 rcases hr with he | ⟨g,o,rfl,hg,hc⟩
 ·rw [he] at hl;simp at hl
 ·obtain⟨u,hu,hi⟩:=hc 0 l hl
  exact⟨g,o,c,u,rfl,hg,hu,hi⟩
def rchUp (fv bv:Value) (f:Fun) (l:List Int) (q lbs:Nat) (b1 b2:Bool) (t:Tmp):Up:=match t with
 |3 | 11=>Up.eq fv
 |4=>Up.ints (orderF f)
 |5=>Up.eq (.int .i64 (orderF f).length)
 |6=>Up.eq (.pointer (some ⟨q,3,none⟩))
 |7=>Up.eq bv
 |8=>Up.eq (.int .i64 lbs)
 |9 | 10=>Up.eq (.bool b1)
 |12=>Up.rows (predsF f)
 |13=>Up.ptri l
 |14=>Up.ints l
 |15=>Up.eq (.int .i64 l.length)
 |16=>Up.eq (.bool b2)
 |17 | 2=>Up.eq (.bool (b1 && b2))
 |_=>Up.any
theorem rreached_any (f:Fun) (v:Value) (w:World) (hv:FunV w f v) (hF:Ful f) (hT:Tos f) (h0:0 < f.2.2.2.1.length):
  Calls Tryz.prog 43 #[v] w fun e w'=>e= .returned (.bool (reachB f))∧Below w.heap.size w w':=by
 have HRb:Hid (reachB f=(decide ((orderF f).length=f.2.2.2.1.length) && decide (((predsF f).getD 0 []).length=0))):=hide rfl
 have HCo:=hide (fun v w hv=>rorder_any f v w hv hF hT h0)
 have HCp:=hide (fun v w hv=>rpreds_any f v w hv hF)
 obtain⟨l,hl⟩:∃l,(predsF f)[0]? =some l:=⟨_,List.getElem?_eq_getElem (by simp [predsF];exact h0)⟩
 have hgd:(predsF f).getD 0 []=l:=by rw [List.getD_eq_getElem?_getD,hl];rfl
 have hpl:0 < (predsF f).length:=by simp [predsF];exact h0
 rw [hgd] at HRb
 have HL:=hide hl
 have hol:(orderF f).length≤1000000:=Nat.le_trans (orderF_len hT h0) hF.1
 have hll:l.length≤1000000:=by
  have hm:=List.mem_of_getElem? hl
  unfold predsF at hm
  obtain⟨b,_,rfl⟩:=List.mem_map.1 hm
  unfold predTo
  rw [List.length_map]
  exact Nat.le_trans (List.length_filter_le _ _) (by simp;exact hF.1)
 have hN:=hF.1
 clear hF hT hgd hl
 obtain⟨lp,cp,lb,cb,rfl,X,b0⟩:=fun_box hv
 have HV:=hide (hv.below b0)
 have X0:=hide X
 have B0:=hide b0
 clear hv X b0
 generalize bs f.1=nm at *
 generalize f.2.1.length=lps at *
 generalize f.2.2.1=rt at *
 generalize hlbs:f.2.2.2.1.length=lbs at *
 generalize f.2.2.2.2=pl at *
 replace hlbs:=hide hlbs
 go_enter Tryz.func43,Tryz.ntmps43
 go_upto_region 1 with fail
 show Code.wp _ _ _ _ (w.alloc (.cells #[.string nm,.slice lp lps cp,.int .i64 rt,.slice lb lbs cb,.int .i64 pl] 36))
 generalize w.alloc (.cells #[.string nm,.slice lp lps cp,.int .i64 rt,.slice lb lbs cb,.int .i64 pl] 36)=W at *
 generalize hq:w.heap.size=q at *
 have CO:∀w,Below W.heap.size W w→Calls Tryz.prog 77 #[(.agg #[.string nm,.slice lp lps cp,.int .i64 rt,.slice lb lbs cb,.int .i64 pl])] w fun e w'=>∃v,e= .returned v∧Below w.heap.size w w'∧IntsV w' (orderF f) v:=fun w b=>(HCo.out _ w (HV.out.below b)).mono fun e w' ⟨u,he,h,b'⟩=>⟨_,he,b',ints_of h⟩
 have CP:∀w,Below W.heap.size W w→Calls Tryz.prog 78 #[(.agg #[.string nm,.slice lp lps cp,.int .i64 rt,.slice lb lbs cb,.int .i64 pl])] w fun e w'=>∃v,e= .returned v∧Below w.heap.size w w'∧RowsV w' (predsF f) v:=fun w b=>HCp.out _ w (HV.out.below b)
 have CX:∃p w',Below W.heap.size W w'∧RowsV w' (predsF f) p:=by
  obtain⟨_,w3,v3,_,b3,h3⟩:=calls_exist (CP W (Below.refl _ _))
  exact⟨v3,w3,b3,h3⟩
 have xs:=fun(w:World) (b:Below W.heap.size W w)=>And.intro ((X0.out.below b).2 0 _ rfl) (And.intro ((X0.out.below b).2 1 _ rfl) (And.intro ((X0.out.below b).2 2 _ rfl) (And.intro ((X0.out.below b).2 3 _ rfl) ((X0.out.below b).2 4 _ rfl))))
 by_cases ho:(orderF f).length=lbs
 ·by_cases hz:l.length=0
  ·have HR:Hid ((true && true)=reachB f):=hide (by rw [HRb.out,decide_eq_true ho,decide_eq_true hz])
   have hob:(((orderF f).length:Int) == (lbs:Int))=true:=beq_iff_eq.2 (by omega)
   have hzb:((l.length:Int) == 0)=true:=beq_iff_eq.2 (by omega)
   refine Mix.wp_region_mix (rchUp (.agg #[.string nm,.slice lp lps cp,.int .i64 rt,.slice lb lbs cb,.int .i64 pl]) (.slice lb lbs cb) f l q lbs true true) (by kernel_rfl) (by kernel_rfl) ?_
   refine Mix.mix_step rfl (valid_eq (.agg #[.string nm,.slice lp lps cp,.int .i64 rt,.slice lb lbs cb,.int .i64 pl]) rfl) ?_ ?_
   ·intro w b k
    obtain⟨x0,x1,x2,x3,x4⟩:=xs w b
    clear k
    simp [go_sem,x0,x1,x2,x3,x4]
    exact⟨Below.refl _ _,fun d hd=>by cases hd;rfl⟩
   rintro v ⟨_,_,h⟩
   obtain rfl:v=(.agg #[.string nm,.slice lp lps cp,.int .i64 rt,.slice lb lbs cb,.int .i64 pl]):=h _ rfl
   clear h
   simp only [Act.put,sU1,sU2,sU3]
   refine Mix.mix_step rfl (valid_of (CO W (Below.refl _ _))) ?_ ?_
   ·intro w b k
    clear k
    simp [go_sem]
    exact Calls.mono (CO w b) fun e w' ⟨v,he,hb,hf⟩=>⟨v,he,hb,fun d hd=>by cases hd;exact hf⟩
   rintro p4 -
   simp only [Act.put,sU1,sU2,sU3]
   refine Mix.mix_step rfl (valid_eq (.int .i64 (orderF f).length) rfl) ?_ ?_
   ·intro w b k
    have f4:IntsV w (orderF f) p4:=k 4 (by decide +kernel) (by simp [Mix.add]) p4 rfl
    obtain⟨so,sc,rfl,_,_,_⟩:=f4
    clear k
    simp [go_sem]
    exact⟨Below.refl _ _,fun d hd=>by cases hd;rfl⟩
   rintro v ⟨_,_,h⟩
   obtain rfl:v=(.int .i64 (orderF f).length):=h _ rfl
   clear h
   simp only [Act.put,sU1,sU2,sU3]
   refine Mix.mix_step rfl (valid_eq (.pointer (some ⟨q,3,none⟩)) rfl) ?_ ?_
   ·intro w b k
    clear k
    simp [go_sem]
    exact⟨Below.refl _ _,fun d hd=>by cases hd;rfl⟩
   rintro v ⟨_,_,h⟩
   obtain rfl:v=(.pointer (some ⟨q,3,none⟩)):=h _ rfl
   clear h
   simp only [Act.put,sU1,sU2,sU3]
   refine Mix.mix_step rfl (valid_eq (.slice lb lbs cb) rfl) ?_ ?_
   ·intro w b k
    obtain⟨x0,x1,x2,x3,x4⟩:=xs w b
    clear k
    simp [go_sem,x3]
    exact⟨Below.refl _ _,fun d hd=>by cases hd;rfl⟩
   rintro v ⟨_,_,h⟩
   obtain rfl:v=(.slice lb lbs cb):=h _ rfl
   clear h
   simp only [Act.put,sU1,sU2,sU3]
   refine Mix.mix_step rfl (valid_eq (.int .i64 lbs) rfl) ?_ ?_
   ·intro w b k
    clear k
    simp [go_sem]
    exact⟨Below.refl _ _,fun d hd=>by cases hd;rfl⟩
   rintro v ⟨_,_,h⟩
   obtain rfl:v=(.int .i64 lbs):=h _ rfl
   clear h
   simp only [Act.put,sU1,sU2,sU3]
   refine Mix.mix_step rfl (valid_eq (.bool true) rfl) ?_ ?_
   ·intro w b k
    clear k
    simp [go_sem,hob]
    exact⟨Below.refl _ _,fun d hd=>by cases hd;rfl⟩
   rintro v ⟨_,_,h⟩
   obtain rfl:v=(.bool true):=h _ rfl
   clear h
   simp only [Act.put,sU1,sU2,sU3]
   refine Mix.mix_step rfl (valid_eq (.bool true) rfl) ?_ ?_
   ·intro w b k
    clear k
    simp [go_sem]
    exact⟨Below.refl _ _,fun d hd=>by cases hd;rfl⟩
   rintro v ⟨_,_,h⟩
   obtain rfl:v=(.bool true):=h _ rfl
   clear h
   simp only [Act.put,sU1,sU2,sU3]
   refine Mix.mix_step rfl (valid_eq (.agg #[.string nm,.slice lp lps cp,.int .i64 rt,.slice lb lbs cb,.int .i64 pl]) rfl) ?_ ?_
   ·intro w b k
    obtain⟨x0,x1,x2,x3,x4⟩:=xs w b
    clear k
    simp [go_sem,x0,x1,x2,x3,x4]
    exact⟨Below.refl _ _,fun d hd=>by cases hd;rfl⟩
   rintro v ⟨_,_,h⟩
   obtain rfl:v=(.agg #[.string nm,.slice lp lps cp,.int .i64 rt,.slice lb lbs cb,.int .i64 pl]):=h _ rfl
   clear h
   simp only [Act.put,sU1,sU2,sU3]
   refine Mix.mix_step rfl (valid_of (CP W (Below.refl _ _))) ?_ ?_
   ·intro w b k
    clear k
    simp [go_sem]
    exact Calls.mono (CP w b) fun e w' ⟨v,he,hb,hf⟩=>⟨v,he,hb,fun d hd=>by cases hd;exact hf⟩
   rintro p12 -
   simp only [Act.put,sU1,sU2,sU3]
   refine Mix.mix_step rfl (by
    obtain⟨pv,w',b,h⟩:=CX
    obtain⟨g,o,c,u,_,hg,hu,hi⟩:=rows_first h HL.out
    exact⟨.pointer (some ⟨g,o,none⟩),w',b,fun d hd=>by cases hd;exact⟨g,o,u,rfl,hg,hu,hi⟩⟩) ?_ ?_
   ·intro w b k
    have f12:RowsV w (predsF f) p12:=k 12 (by decide +kernel) (by simp [Mix.add]) p12 rfl
    obtain⟨g,o,c,u,rfl,hg,hu,hi⟩:=rows_first f12 HL.out
    clear k
    simp [go_sem,hpl]
    exact⟨Below.refl _ _,fun d hd=>by cases hd;exact⟨g,o,u,rfl,hg,hu,hi⟩⟩
   rintro p13 -
   simp only [Act.put,sU1,sU2,sU3]
   refine Mix.mix_step rfl (by
    obtain⟨pv,w',b,h⟩:=CX
    obtain⟨g,o,c,u,_,hg,hu,hi⟩:=rows_first h HL.out
    exact⟨u,w',b,fun d hd=>by cases hd;exact hi⟩) ?_ ?_
   ·intro w b k
    have f13:PtrI w l p13:=k 13 (by decide +kernel) (by simp [Mix.add]) p13 rfl
    obtain⟨g,o,u,rfl,hg,hu,hi⟩:=f13
    clear k
    obtain⟨so,sc,rfl,hi2⟩:=id hi
    simp [go_sem,hu]
    exact⟨Below.refl _ _,fun d hd=>by cases hd;exact hi⟩
   rintro p14 -
   simp only [Act.put,sU1,sU2,sU3]
   refine Mix.mix_step rfl (valid_eq (.int .i64 l.length) rfl) ?_ ?_
   ·intro w b k
    have f14:IntsV w l p14:=k 14 (by decide +kernel) (by simp [Mix.add]) p14 rfl
    obtain⟨so,sc,rfl,_,_,_⟩:=f14
    clear k
    simp [go_sem]
    exact⟨Below.refl _ _,fun d hd=>by cases hd;rfl⟩
   rintro v ⟨_,_,h⟩
   obtain rfl:v=(.int .i64 l.length):=h _ rfl
   clear h
   simp only [Act.put,sU1,sU2,sU3]
   refine Mix.mix_step rfl (valid_eq (.bool true) rfl) ?_ ?_
   ·intro w b k
    clear k
    simp [go_sem,hzb]
    exact⟨Below.refl _ _,fun d hd=>by cases hd;rfl⟩
   rintro v ⟨_,_,h⟩
   obtain rfl:v=(.bool true):=h _ rfl
   clear h
   simp only [Act.put,sU1,sU2,sU3]
   refine Mix.mix_step rfl (valid_eq (.bool (true && true)) rfl) ?_ ?_
   ·intro w b k
    clear k
    simp [go_sem]
    exact⟨Below.refl _ _,fun d hd=>by cases hd;rfl⟩
   rintro v ⟨_,_,h⟩
   obtain rfl:v=(.bool (true && true)):=h _ rfl
   clear h
   simp only [Act.put,sU1,sU2,sU3]
   refine Mix.mix_step rfl (valid_eq (.bool (true && true)) rfl) ?_ ?_
   ·intro w b k
    clear k
    simp [go_sem]
    exact⟨Below.refl _ _,fun d hd=>by cases hd;rfl⟩
   rintro v ⟨_,_,h⟩
   obtain rfl:v=(.bool (true && true)):=h _ rfl
   clear h
   simp only [Act.put,sU1,sU2,sU3]
   refine Mix.mix_nil ?_
   intro w2 b2 hk
   clear CO CP CX xs hk HCo HCp
   have HE:Hid (Below w.heap.size w w2):=hide (by have h:=B0.out;rw [←hq] at h;exact below_step h b2)
   go_wp2_with fail
   go_ret
   exact⟨L5.ret_bool HR.out,by first | exact HE.out | (rw [←hq];exact HE.out)⟩
  ·have HR:Hid ((true && false)=reachB f):=hide (by rw [HRb.out,decide_eq_true ho,decide_eq_false hz])
   have hob:(((orderF f).length:Int) == (lbs:Int))=true:=beq_iff_eq.2 (by omega)
   have hzb:((l.length:Int) == 0)=false:=beq_eq_false_iff_ne.2 (by omega)
   refine Mix.wp_region_mix (rchUp (.agg #[.string nm,.slice lp lps cp,.int .i64 rt,.slice lb lbs cb,.int .i64 pl]) (.slice lb lbs cb) f l q lbs true false) (by kernel_rfl) (by kernel_rfl) ?_
   refine Mix.mix_step rfl (valid_eq (.agg #[.string nm,.slice lp lps cp,.int .i64 rt,.slice lb lbs cb,.int .i64 pl]) rfl) ?_ ?_
   ·intro w b k
    obtain⟨x0,x1,x2,x3,x4⟩:=xs w b
    clear k
    simp [go_sem,x0,x1,x2,x3,x4]
    exact⟨Below.refl _ _,fun d hd=>by cases hd;rfl⟩
   rintro v ⟨_,_,h⟩
   obtain rfl:v=(.agg #[.string nm,.slice lp lps cp,.int .i64 rt,.slice lb lbs cb,.int .i64 pl]):=h _ rfl
   clear h
   simp only [Act.put,sU1,sU2,sU3]
   refine Mix.mix_step rfl (valid_of (CO W (Below.refl _ _))) ?_ ?_
   ·intro w b k
    clear k
    simp [go_sem]
    exact Calls.mono (CO w b) fun e w' ⟨v,he,hb,hf⟩=>⟨v,he,hb,fun d hd=>by cases hd;exact hf⟩
   rintro p4 -
   simp only [Act.put,sU1,sU2,sU3]
   refine Mix.mix_step rfl (valid_eq (.int .i64 (orderF f).length) rfl) ?_ ?_
   ·intro w b k
    have f4:IntsV w (orderF f) p4:=k 4 (by decide +kernel) (by simp [Mix.add]) p4 rfl
    obtain⟨so,sc,rfl,_,_,_⟩:=f4
    clear k
    simp [go_sem]
    exact⟨Below.refl _ _,fun d hd=>by cases hd;rfl⟩
   rintro v ⟨_,_,h⟩
   obtain rfl:v=(.int .i64 (orderF f).length):=h _ rfl
   clear h
   simp only [Act.put,sU1,sU2,sU3]
   refine Mix.mix_step rfl (valid_eq (.pointer (some ⟨q,3,none⟩)) rfl) ?_ ?_
   ·intro w b k
    clear k
    simp [go_sem]
    exact⟨Below.refl _ _,fun d hd=>by cases hd;rfl⟩
   rintro v ⟨_,_,h⟩
   obtain rfl:v=(.pointer (some ⟨q,3,none⟩)):=h _ rfl
   clear h
   simp only [Act.put,sU1,sU2,sU3]
   refine Mix.mix_step rfl (valid_eq (.slice lb lbs cb) rfl) ?_ ?_
   ·intro w b k
    obtain⟨x0,x1,x2,x3,x4⟩:=xs w b
    clear k
    simp [go_sem,x3]
    exact⟨Below.refl _ _,fun d hd=>by cases hd;rfl⟩
   rintro v ⟨_,_,h⟩
   obtain rfl:v=(.slice lb lbs cb):=h _ rfl
   clear h
   simp only [Act.put,sU1,sU2,sU3]
   refine Mix.mix_step rfl (valid_eq (.int .i64 lbs) rfl) ?_ ?_
   ·intro w b k
    clear k
    simp [go_sem]
    exact⟨Below.refl _ _,fun d hd=>by cases hd;rfl⟩
   rintro v ⟨_,_,h⟩
   obtain rfl:v=(.int .i64 lbs):=h _ rfl
   clear h
   simp only [Act.put,sU1,sU2,sU3]
   refine Mix.mix_step rfl (valid_eq (.bool true) rfl) ?_ ?_
   ·intro w b k
    clear k
    simp [go_sem,hob]
    exact⟨Below.refl _ _,fun d hd=>by cases hd;rfl⟩
   rintro v ⟨_,_,h⟩
   obtain rfl:v=(.bool true):=h _ rfl
   clear h
   simp only [Act.put,sU1,sU2,sU3]
   refine Mix.mix_step rfl (valid_eq (.bool true) rfl) ?_ ?_
   ·intro w b k
    clear k
    simp [go_sem]
    exact⟨Below.refl _ _,fun d hd=>by cases hd;rfl⟩
   rintro v ⟨_,_,h⟩
   obtain rfl:v=(.bool true):=h _ rfl
   clear h
   simp only [Act.put,sU1,sU2,sU3]
   refine Mix.mix_step rfl (valid_eq (.agg #[.string nm,.slice lp lps cp,.int .i64 rt,.slice lb lbs cb,.int .i64 pl]) rfl) ?_ ?_
   ·intro w b k
    obtain⟨x0,x1,x2,x3,x4⟩:=xs w b
    clear k
    simp [go_sem,x0,x1,x2,x3,x4]
    exact⟨Below.refl _ _,fun d hd=>by cases hd;rfl⟩
   rintro v ⟨_,_,h⟩
   obtain rfl:v=(.agg #[.string nm,.slice lp lps cp,.int .i64 rt,.slice lb lbs cb,.int .i64 pl]):=h _ rfl
   clear h
   simp only [Act.put,sU1,sU2,sU3]
   refine Mix.mix_step rfl (valid_of (CP W (Below.refl _ _))) ?_ ?_
   ·intro w b k
    clear k
    simp [go_sem]
    exact Calls.mono (CP w b) fun e w' ⟨v,he,hb,hf⟩=>⟨v,he,hb,fun d hd=>by cases hd;exact hf⟩
   rintro p12 -
   simp only [Act.put,sU1,sU2,sU3]
   refine Mix.mix_step rfl (by
    obtain⟨pv,w',b,h⟩:=CX
    obtain⟨g,o,c,u,_,hg,hu,hi⟩:=rows_first h HL.out
    exact⟨.pointer (some ⟨g,o,none⟩),w',b,fun d hd=>by cases hd;exact⟨g,o,u,rfl,hg,hu,hi⟩⟩) ?_ ?_
   ·intro w b k
    have f12:RowsV w (predsF f) p12:=k 12 (by decide +kernel) (by simp [Mix.add]) p12 rfl
    obtain⟨g,o,c,u,rfl,hg,hu,hi⟩:=rows_first f12 HL.out
    clear k
    simp [go_sem,hpl]
    exact⟨Below.refl _ _,fun d hd=>by cases hd;exact⟨g,o,u,rfl,hg,hu,hi⟩⟩
   rintro p13 -
   simp only [Act.put,sU1,sU2,sU3]
   refine Mix.mix_step rfl (by
    obtain⟨pv,w',b,h⟩:=CX
    obtain⟨g,o,c,u,_,hg,hu,hi⟩:=rows_first h HL.out
    exact⟨u,w',b,fun d hd=>by cases hd;exact hi⟩) ?_ ?_
   ·intro w b k
    have f13:PtrI w l p13:=k 13 (by decide +kernel) (by simp [Mix.add]) p13 rfl
    obtain⟨g,o,u,rfl,hg,hu,hi⟩:=f13
    clear k
    obtain⟨so,sc,rfl,hi2⟩:=id hi
    simp [go_sem,hu]
    exact⟨Below.refl _ _,fun d hd=>by cases hd;exact hi⟩
   rintro p14 -
   simp only [Act.put,sU1,sU2,sU3]
   refine Mix.mix_step rfl (valid_eq (.int .i64 l.length) rfl) ?_ ?_
   ·intro w b k
    have f14:IntsV w l p14:=k 14 (by decide +kernel) (by simp [Mix.add]) p14 rfl
    obtain⟨so,sc,rfl,_,_,_⟩:=f14
    clear k
    simp [go_sem]
    exact⟨Below.refl _ _,fun d hd=>by cases hd;rfl⟩
   rintro v ⟨_,_,h⟩
   obtain rfl:v=(.int .i64 l.length):=h _ rfl
   clear h
   simp only [Act.put,sU1,sU2,sU3]
   refine Mix.mix_step rfl (valid_eq (.bool false) rfl) ?_ ?_
   ·intro w b k
    clear k
    simp [go_sem,hzb]
    exact⟨Below.refl _ _,fun d hd=>by cases hd;rfl⟩
   rintro v ⟨_,_,h⟩
   obtain rfl:v=(.bool false):=h _ rfl
   clear h
   simp only [Act.put,sU1,sU2,sU3]
   refine Mix.mix_step rfl (valid_eq (.bool (true && false)) rfl) ?_ ?_
   ·intro w b k
    clear k
    simp [go_sem]
    exact⟨Below.refl _ _,fun d hd=>by cases hd;rfl⟩
   rintro v ⟨_,_,h⟩
   obtain rfl:v=(.bool (true && false)):=h _ rfl
   clear h
   simp only [Act.put,sU1,sU2,sU3]
   refine Mix.mix_step rfl (valid_eq (.bool (true && false)) rfl) ?_ ?_
   ·intro w b k
    clear k
    simp [go_sem]
    exact⟨Below.refl _ _,fun d hd=>by cases hd;rfl⟩
   rintro v ⟨_,_,h⟩
   obtain rfl:v=(.bool (true && false)):=h _ rfl
   clear h
   simp only [Act.put,sU1,sU2,sU3]
   refine Mix.mix_nil ?_
   intro w2 b2 hk
   clear CO CP CX xs hk HCo HCp
   have HE:Hid (Below w.heap.size w w2):=hide (by have h:=B0.out;rw [←hq] at h;exact below_step h b2)
   go_wp2_with fail
   go_ret
   exact⟨L5.ret_bool HR.out,by first | exact HE.out | (rw [←hq];exact HE.out)⟩
 ·have HR:Hid ((false && false)=reachB f):=hide (by rw [HRb.out,decide_eq_false ho];simp)
  have hob:(((orderF f).length:Int) == (lbs:Int))=false:=beq_eq_false_iff_ne.2 (by omega)
  refine Mix.wp_region_mix (rchUp (.agg #[.string nm,.slice lp lps cp,.int .i64 rt,.slice lb lbs cb,.int .i64 pl]) (.slice lb lbs cb) f l q lbs false false) (by kernel_rfl) (by kernel_rfl) ?_
  refine Mix.mix_step rfl (valid_eq (.agg #[.string nm,.slice lp lps cp,.int .i64 rt,.slice lb lbs cb,.int .i64 pl]) rfl) ?_ ?_
  ·intro w b k
   obtain⟨x0,x1,x2,x3,x4⟩:=xs w b
   clear k
   simp [go_sem,x0,x1,x2,x3,x4]
   exact⟨Below.refl _ _,fun d hd=>by cases hd;rfl⟩
  rintro v ⟨_,_,h⟩
  obtain rfl:v=(.agg #[.string nm,.slice lp lps cp,.int .i64 rt,.slice lb lbs cb,.int .i64 pl]):=h _ rfl
  clear h
  simp only [Act.put,sU1,sU2,sU3]
  refine Mix.mix_step rfl (valid_of (CO W (Below.refl _ _))) ?_ ?_
  ·intro w b k
   clear k
   simp [go_sem]
   exact Calls.mono (CO w b) fun e w' ⟨v,he,hb,hf⟩=>⟨v,he,hb,fun d hd=>by cases hd;exact hf⟩
  rintro p4 -
  simp only [Act.put,sU1,sU2,sU3]
  refine Mix.mix_step rfl (valid_eq (.int .i64 (orderF f).length) rfl) ?_ ?_
  ·intro w b k
   have f4:IntsV w (orderF f) p4:=k 4 (by decide +kernel) (by simp [Mix.add]) p4 rfl
   obtain⟨so,sc,rfl,_,_,_⟩:=f4
   clear k
   simp [go_sem]
   exact⟨Below.refl _ _,fun d hd=>by cases hd;rfl⟩
  rintro v ⟨_,_,h⟩
  obtain rfl:v=(.int .i64 (orderF f).length):=h _ rfl
  clear h
  simp only [Act.put,sU1,sU2,sU3]
  refine Mix.mix_step rfl (valid_eq (.pointer (some ⟨q,3,none⟩)) rfl) ?_ ?_
  ·intro w b k
   clear k
   simp [go_sem]
   exact⟨Below.refl _ _,fun d hd=>by cases hd;rfl⟩
  rintro v ⟨_,_,h⟩
  obtain rfl:v=(.pointer (some ⟨q,3,none⟩)):=h _ rfl
  clear h
  simp only [Act.put,sU1,sU2,sU3]
  refine Mix.mix_step rfl (valid_eq (.slice lb lbs cb) rfl) ?_ ?_
  ·intro w b k
   obtain⟨x0,x1,x2,x3,x4⟩:=xs w b
   clear k
   simp [go_sem,x3]
   exact⟨Below.refl _ _,fun d hd=>by cases hd;rfl⟩
  rintro v ⟨_,_,h⟩
  obtain rfl:v=(.slice lb lbs cb):=h _ rfl
  clear h
  simp only [Act.put,sU1,sU2,sU3]
  refine Mix.mix_step rfl (valid_eq (.int .i64 lbs) rfl) ?_ ?_
  ·intro w b k
   clear k
   simp [go_sem]
   exact⟨Below.refl _ _,fun d hd=>by cases hd;rfl⟩
  rintro v ⟨_,_,h⟩
  obtain rfl:v=(.int .i64 lbs):=h _ rfl
  clear h
  simp only [Act.put,sU1,sU2,sU3]
  refine Mix.mix_step rfl (valid_eq (.bool false) rfl) ?_ ?_
  ·intro w b k
   clear k
   simp [go_sem,hob]
   exact⟨Below.refl _ _,fun d hd=>by cases hd;rfl⟩
  rintro v ⟨_,_,h⟩
  obtain rfl:v=(.bool false):=h _ rfl
  clear h
  simp only [Act.put,sU1,sU2,sU3]
  refine Mix.mix_step rfl (valid_eq (.bool false) rfl) ?_ ?_
  ·intro w b k
   clear k
   simp [go_sem]
   exact⟨Below.refl _ _,fun d hd=>by cases hd;rfl⟩
  rintro v ⟨_,_,h⟩
  obtain rfl:v=(.bool false):=h _ rfl
  clear h
  simp only [Act.put,sU1,sU2,sU3]
  refine Mix.mix_skip rfl ?_
  simp only [Act.put,sU1,sU2,sU3]
  refine Mix.mix_skip rfl ?_
  simp only [Act.put,sU1,sU2,sU3]
  refine Mix.mix_skip rfl ?_
  simp only [Act.put,sU1,sU2,sU3]
  refine Mix.mix_skip rfl ?_
  simp only [Act.put,sU1,sU2,sU3]
  refine Mix.mix_skip rfl ?_
  simp only [Act.put,sU1,sU2,sU3]
  refine Mix.mix_skip rfl ?_
  simp only [Act.put,sU1,sU2,sU3]
  refine Mix.mix_step rfl (valid_eq (.bool (false && false)) rfl) ?_ ?_
  ·intro w b k
   clear k
   simp [go_sem]
   exact⟨Below.refl _ _,fun d hd=>by cases hd;rfl⟩
  rintro v ⟨_,_,h⟩
  obtain rfl:v=(.bool (false && false)):=h _ rfl
  clear h
  simp only [Act.put,sU1,sU2,sU3]
  refine Mix.mix_step rfl (valid_eq (.bool (false && false)) rfl) ?_ ?_
  ·intro w b k
   clear k
   simp [go_sem]
   exact⟨Below.refl _ _,fun d hd=>by cases hd;rfl⟩
  rintro v ⟨_,_,h⟩
  obtain rfl:v=(.bool (false && false)):=h _ rfl
  clear h
  simp only [Act.put,sU1,sU2,sU3]
  refine Mix.mix_nil ?_
  intro w2 b2 hk
  clear CO CP CX xs hk HCo HCp
  have HE:Hid (Below w.heap.size w w2):=hide (by have h:=B0.out;rw [←hq] at h;exact below_step h b2)
  go_wp2_with fail
  go_ret
  exact⟨L5.ret_bool HR.out,by first | exact HE.out | (rw [←hq];exact HE.out)⟩
end Go.Proofs.YtljkgcfnoegibaaGreatDoor
