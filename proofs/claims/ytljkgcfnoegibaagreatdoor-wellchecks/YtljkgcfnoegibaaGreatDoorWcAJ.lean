/- Texts of one chain, joined. -/
import Derived.Test.YtljkgcfnoegibaaGreatDoorWcAF
import Derived.Test.YtljkgcfnoegibaaGreatDoorWcAI
import Derived.Laws.AppendOwnNone
set_option maxHeartbeats 4000000
set_option maxRecDepth 20000
namespace Go.Proofs.YtljkgcfnoegibaaGreatDoor
open Go Go.RowKit
open G (Tok Er Ins Fun)
def hasL (l:List Int) (n:Int):Bool:=l.any fun m=>decide (m=n)
theorem hasL_snoc (l:List Int) (m n:Int):hasL (l ++ [m]) n=(hasL l n || decide (m=n)):=by simp [hasL]
theorem hasL_mem {l:List Int} {n:Int}:hasL l n=true↔n∈l:=by simp [hasL]
theorem hasL_at {l:List Int} {k:Nat} {n:Int} (h:l[k]? =some n):hasL l n=true:=hasL_mem.2 (List.mem_of_getElem? h)
theorem take_more {α:Type} {l:List α} {k:Nat} {n:α} (h:l[k]? =some n):l.take (k+1)=l.take k ++ [n]:=by rw [List.take_add_one,h];rfl
theorem rhas_any (l:List Int) (n:Int) (ao:Option Addr) (c:Nat) (w:World) (hs:Sl w ao l) (hl:l.length≤maxLen):
  Calls Tryz.prog 17 #[.slice ao l.length c,.int .i64 n] w fun e w'=>e= .returned (.bool (hasL l n))∧w'=w:=by
 unfold maxLen at hl
 have HS:=hide hs
 clear hs
 go_enter Tryz.func17,Tryz.ntmps17
 go_wp2
 go_loopw [5] (fun i wr=>∃k:Nat,k≤l.length∧i= .int .i64 k∧wr=w∧Hid (hasL (l.take k) n=false)) (fun i _=>l.length - (intOf i).toNat)
 case atStart=>exact⟨0,Nat.zero_le _,rfl,rfl,hide rfl⟩
 case round=>
  obtain⟨k,hk,rfl,hw,HF⟩:=hrel
  subst hw
  by_cases hlt:k < l.length
  ·obtain⟨m,hm⟩:∃m,l[k]? =some m:=⟨l[k],List.getElem?_eq_getElem hlt⟩
   rcases HS.out with he | ⟨a,oa,rfl,hal,ha⟩
   ·subst he;simp at hlt
   have c1:=ha k m hm
   by_cases he:m=n
   ·have HE:Hid (true=hasL l n):=hide (by subst he;exact(hasL_at hm).symm)
    have he':(m == n)=true:=by simpa using he
    clear ha hm he
    go_wp2_with fail
    go_ret
    exact⟨L5.ret_bool HE.out,rfl⟩
   ·have HE:Hid (hasL (l.take (k+1)) n=false):=hide (by rw [take_more hm,hasL_snoc,HF.out];simp [he])
    have he':(m == n)=false:=by simpa using he
    clear ha hm he
    go_wp2_with fail
    go_roundw
    case rel=>exact⟨k+1,by omega,by go_num,trivial,HE⟩
    case measure=>simp [intOf];omega
  ·obtain rfl:k=l.length:=by omega
   have HE:Hid (false=hasL l n):=hide (by have:=HF.out;rw [List.take_length] at this;exact this.symm)
   go_wp2_with fail
   go_ret
   exact⟨L5.ret_bool HE.out,rfl⟩
def Grw (w:World) (l:List Int) (v:Value) (wr:World):Prop:=wr.ownsRow w.heap.size 3 1 v l.length (ints l)∧Below w.heap.size w wr
theorem Grw.start (w:World):Grw w [] (.slice none 0 0) w:=⟨World.ownsRow_nil _ _ _ _,Below.refl _ _⟩
theorem Grw.step {w wr w2:World} {l:List Int} {v v':Value} {x:Int} {o:Obj} (h:Grw w l v wr) (own:w2.ownsRow w.heap.size 3 1 v' (l.length+1) (ints l ++ [.int .i64 x])) (hg:(wr.alloc o).grownBy w2 v.ownBlock):Grw w (l ++ [x]) v' w2:=by
 refine⟨by simpa [ints] using own,?_⟩
 refine Below.grown (h.2.alloc h.2.size o) hg (by simp;have:=h.2.size;omega) ?_
 intro k hk
 exact(h.1.lt k hk).1
theorem Grw.slice {w wr:World} {l:List Int} {v:Value} (h:Grw w l v wr):∃ao c,v= .slice ao l.length c∧Sl wr ao l∧l.length≤maxLen:=by
 obtain⟨ao,c,rfl,h1,h2,h3⟩:=ints_of h.1
 exact⟨ao,c,rfl,h1,Nat.le_trans h2 h3⟩
def addL (acc:List Int) (n:Int):List Int:=if hasL acc n then acc else acc ++ [n]
theorem addL_yes {acc:List Int} {n:Int} (h:hasL acc n=true):addL acc n=acc:=by unfold addL;rw [if_pos h]
theorem addL_no {acc:List Int} {n:Int} (h:hasL acc n=false):addL acc n=acc ++ [n]:=by unfold addL;rw [if_neg (by simp [h])]
theorem addL_len (acc:List Int) (n:Int):(addL acc n).length≤acc.length+1:=by
 unfold addL
 split
 ·omega
 ·simp
def onceL (l:List Int):List Int:=l.foldl addL []
theorem onceL_take {l:List Int} {k:Nat} {n:Int} (h:l[k]? =some n):onceL (l.take (k+1))=addL (onceL (l.take k)) n:=by
 rw [take_more h];simp [onceL]
theorem onceL_len (l:List Int):(onceL l).length≤l.length:=by
 have key:∀(l acc:List Int),(l.foldl addL acc).length≤acc.length+l.length:=by
  intro l
  induction l with
  |nil=>intro acc;simp
  |cons n l ih=>
   intro acc
   rw [List.foldl_cons,List.length_cons]
   have h1:=ih (addL acc n)
   have h2:=addL_len acc n
   omega
 simpa [onceL] using key l []
theorem next_try (nm:List UInt8) (ps:List Int) (rt pl:Int) (bl:List (List Ins)) (ao bo:Option Addr) (c cb:Nat) (k:Nat) (b:List Ins) (op id nn ty pp:Int) (ar tt:List Int) (na:List UInt8) (w:World)
  (hb:BlksR w bl (.slice bo bl.length cb)) (hk:bl[k]? =some b) (hx:b[b.length - 1]? =some (op,id,nn,ty,ar,tt,na,pp)) (h63:tt.length≤1000000):
  Calls Tryz.prog 19 #[.agg #[.string (bs nm),.slice ao ps.length c,.int .i64 rt,.slice bo bl.length cb,.int .i64 pl],.int .i64 k] w fun e w'=>∃v,e= .returned v∧w'.ownsRow w.heap.size 3 1 v (onceL tt).length (ints (onceL tt))∧Below w.heap.size w w':=by
 obtain⟨i0,hi0,hz0,hz1,hz2⟩:=info_parts Tryz.info3
 have b0:=below_box w (.cells #[.string (bs nm),.slice ao ps.length c,.int .i64 rt,.slice bo bl.length cb,.int .i64 pl] 36)
 have X0:=hide (L5.Box.new w [.string (bs nm),.slice ao ps.length c,.int .i64 rt,.slice bo bl.length cb,.int .i64 pl] 36)
 have HB:=hide (hb.below b0)
 have B0:=hide b0
 clear b0 hb
 go_enter Tryz.func19,Tryz.ntmps19
 go_upto_region 1 with fail
 show Code.wp _ _ _ _ (w.alloc (.cells #[.string (bs nm),.slice ao ps.length c,.int .i64 rt,.slice bo bl.length cb,.int .i64 pl] 36))
 replace X0:Hid (L5.Box (w.alloc (.cells #[.string (bs nm),.slice ao ps.length c,.int .i64 rt,.slice bo bl.length cb,.int .i64 pl] 36)) w.heap.size [.string (bs nm),.slice ao ps.length c,.int .i64 rt,.slice bo bl.length cb,.int .i64 pl]):=X0
 generalize w.alloc (.cells #[.string (bs nm),.slice ao ps.length c,.int .i64 rt,.slice bo bl.length cb,.int .i64 pl] 36)=W at *
 obtain⟨_,_,e0,l1,l2,h2⟩:=HB.out
 injection e0 with e1 e2 e3
 subst e1 e3
 clear e2
 have hkt:k < bl.length:=(List.getElem?_eq_some_iff.1 hk).1
 have hkI:(k:Int) < bl.length:=by omega
 rcases h2 with h2 | ⟨gc,oc,rfl,gk,h2⟩
 ·subst h2;simp at hkt
 obtain⟨vk,kd,aok,capk,rfl,m1,m2,kk⟩:=h2 k b hk
 have hjt:b.length - 1 < b.length:=(List.getElem?_eq_some_iff.1 hx).1
 rcases kk with kk | ⟨gi,oi,rfl,kk⟩
 ·subst kk;simp at hjt
 obtain⟨ai,ti,ca,ct,hv,r0,r1,r2,r3,r4,r5,r6,r7⟩:=(kk (b.length - 1) _ hx).val
 dsimp only at hv r0 r1 r2 r3 r4 r5 r6 r7
 have HSt:Hid (Sl W ti tt):=hide (by
  obtain⟨a1,t1,c1,c2,e,s1,s2,_⟩:=hv
  injection e with e
  have e2:=congrArg (fun a=>a[5]?) e
  simp at e2
  rw [e2.1];exact s2)
 obtain⟨J,hJ⟩:∃J,J=b.length - 1:=⟨_,rfl⟩
 rw [←hJ] at r0 r1 r2 r3 r4 r5 r6 r7
 have hJI:(b.length:Int) - 1=(J:Int):=by omega
 have hJl:(J:Int) < b.length:=by omega
 unfold maxLen at m2 l2
 have hgi:gi < W.heap.size:=(kk (b.length - 1) _ hx).1
 have x3:=fun x=>(L5.grew_box X0.out x).2 3 _ rfl
 have kd':=fun x=>((L5.grewTo_below W x).cell (p:=⟨gc,oc+k,none⟩) gk).trans kd
 have r5':=fun x=>((L5.grewTo_below W x).cell (p:=⟨gi,oi+J * 8+5,none⟩) hgi).trans r5
 have hwr:IntKind.i64.wrap ((b.length:Int) - 1)=(J:Int):=by
  rw [hJI];exact IntWalk.i64_in _ ⟨by omega,by omega⟩
 clear hv kk h2 hx hk r0 r1 r2 r3 r4 r5 r6 r7 kd hJ
 go_wp2_with fail
 refine L5.region_grew (by kernel_rfl) (by kernel_rfl) ?_
 repeat (go_big_quiet_step (fail))
 refine wpQuiet_nil ?_
 rintro _ ⟨x,rfl⟩
 clear x3 kd' r5'
 have HX:=hide (L5.grewTo_below W x)
 obtain⟨w8,hw8⟩:∃w8:World,w8=L5.grewTo W x:=⟨_,rfl⟩
 rw [←hw8] at HX ⊢
 clear hw8
 go_wp2_with fail
 go_loopw [5,7] (fun v i wr=>∃I:Nat,I≤tt.length∧i= .int .i64 I∧Hid (Grw W (onceL (tt.take I)) v wr)) (fun _ i _=>tt.length - (intOf i).toNat)
 case atStart=>exact⟨0,Nat.zero_le _,rfl,hide ⟨World.ownsRow_nil _ _ _ _,HX.out⟩⟩
 case round=>
  obtain⟨I,hI,rfl,HG⟩:=hrel
  by_cases hit:I < tt.length
  ·have hiI:(I:Int) < tt.length:=by omega
   obtain⟨n,hn⟩:∃n,tt[I]? =some n:=⟨tt[I],List.getElem?_eq_getElem hit⟩
   rcases HSt.out with he | ⟨gt,ot,rfl,gtl,ht⟩
   ·subst he;simp at hit
   have c1:=(HG.out.2.cell (p:=⟨gt,ot+I,none⟩) gtl).trans (ht I n hn)
   obtain⟨vo,vc,rfl,vs,vl⟩:=HG.out.slice
   have HV:=hide vs
   have HN:=hide (onceL_take hn)
   have hlen:=onceL_len (tt.take I)
   rw [List.length_take] at hlen
   generalize onceL (tt.take I)=acc at *
   clear ht hn vs
   go_wp2_with fail
   refine(rhas_any acc n vo vc wr HV.out vl).mono ?_;rintro e w1 ⟨rfl,hw1⟩
   rw [hw1]
   clear hw1
   cases hh:hasL acc n with
   |true=>
    have HE:Hid (Grw W (onceL (tt.take (I+1))) (.slice vo acc.length vc) wr):=hide (by rw [HN.out,addL_yes hh];exact HG.out)
    replace hh:=hide hh
    go_wp2_with fail
    go_roundw
    case rel=>exact⟨I+1,by omega,by go_num,HE⟩
    case measure=>simp [intOf];omega
   |false=>
    have HA:=hide (HN.out.trans (addL_no hh))
    replace hh:=hide hh
    have hWs:=HG.out.2.size
    go_wp2_with (at_builtin;refine wpList_append_own _ rfl (.tmp 36) (.tmp 41) 33 rfl W.heap.size 3 i0 _ 1 8 Tryz.underlying33 hi0 hz0 hz1 hz2 rfl (by decide) _ _ _ rfl (HG.out.1.alloc _) ⟨wr.heap.size,0,none⟩ 1 1 [.int .i64 n] rfl rfl one_cell one_one (by unfold maxLen;omega) (by omega) (by simp;omega) ?_;intro v2 w2 own2 grow2 _)
    have HE:Hid (Grw W (onceL (tt.take (I+1))) v2 w2):=hide (by rw [HA.out];exact HG.out.step own2 grow2)
    clear own2 grow2
    go_wp2_with fail
    go_roundw
    case rel=>exact⟨I+1,by omega,by go_num,HE⟩
    case measure=>simp [intOf];omega
  ·obtain rfl:I=tt.length:=by omega
   have HE:Hid (Grw W (onceL tt) _ wr):=hide (by have:=HG.out;rwa [List.take_length] at this)
   have HF:=hide (own_base HE.out.1 B0.out.size)
   go_wp2_with fail
   go_ret
   exact⟨_,rfl,HF.out,below_step B0.out HE.out.2⟩
def lastTo (b:List Ins):List Int:=match b[b.length - 1]? with
 |some x=>x.2.2.2.2.2.1
 |none=> []
def nextF (f:Fun) (k:Nat):List Int:=onceL (lastTo (f.2.2.2.1.getD k []))
def succsF (f:Fun):List (List Int):=f.2.2.2.1.map fun b=>onceL (lastTo b)
def Ful (f:Fun):Prop:=f.2.2.2.1.length≤1000000∧∀b∈f.2.2.2.1,b≠ []∧∀x∈b,x.2.2.2.2.2.1.length≤1000000
theorem nextF_at {f:Fun} {k:Nat} {b:List Ins} (h:f.2.2.2.1[k]? =some b):nextF f k=onceL (lastTo b):=by
 unfold nextF;rw [List.getD_eq_getElem?_getD,h];rfl
theorem Ful.last {f:Fun} (h:Ful f) {b:List Ins} (hb:b∈f.2.2.2.1):∃x,b[b.length - 1]? =some x∧lastTo b=x.2.2.2.2.2.1∧x.2.2.2.2.2.1.length≤1000000:=by
 obtain⟨h1,h2⟩:=h.2 b hb
 have:b.length - 1 < b.length:=by
  have:b.length≠0:=fun e=>h1 (List.length_eq_zero_iff.1 e)
  omega
 refine⟨b[b.length - 1],List.getElem?_eq_getElem this,?_,h2 _ (List.getElem_mem this)⟩
 unfold lastTo
 rw [List.getElem?_eq_getElem this]
theorem next_any (f:Fun) (k:Nat) (v:Value) (w:World) (hv:FunV w f v) (hF:Ful f) (hk:k < f.2.2.2.1.length):
  Calls Tryz.prog 19 #[v,.int .i64 k] w fun e w'=>∃u,e= .returned u∧w'.ownsRow w.heap.size 3 1 u (nextF f k).length (ints (nextF f k))∧Below w.heap.size w w':=by
 obtain⟨b,hb⟩:∃b,f.2.2.2.1[k]? =some b:=⟨_,List.getElem?_eq_getElem hk⟩
 obtain⟨x,hx,hl,h63⟩:=hF.last (List.mem_of_getElem? hb)
 rw [nextF_at hb,hl]
 obtain⟨nm,ps,rt,bl,pl⟩:=f
 obtain⟨vp,vb,rfl,⟨ao,c,rfl,h1,_⟩,h2⟩:=hv
 have h2':=h2
 obtain⟨bo,cb,rfl,_⟩:=h2
 obtain⟨op,id,nn,ty,ar,tt,na,pp⟩:=x
 exact next_try nm ps rt pl bl ao bo c cb k b op id nn ty pp ar tt na w h2' hb hx h63
theorem Tryz.info33:(Tryz.prog.info? 33).map (fun i=>(i.zero,i.size,i.bytes))=some (some (.slice none 0 0),1,24):=by kernel_rfl
def RowsO (B:Nat) (w:World) (ll:List (List Int)) (v:Value):Prop:=∃us:List Value,w.ownsRow B 33 1 v ll.length us∧us.length=ll.length∧∀(i:Nat) (l:List Int),ll[i]? =some l→∃u,us[i]? =some u∧w.ownsRow B 3 1 u l.length (ints l)
theorem RowsO.nil (B:Nat) (w:World):RowsO B w [] (.slice none 0 0):=⟨[],World.ownsRow_nil _ _ _ _,rfl,fun i l h=>by simp at h⟩
theorem RowsO.below {B:Nat} {w w':World} {ll:List (List Int)} {v:Value} (h:RowsO B w ll v) (b:Below w.heap.size w w'):RowsO B w' ll v:=by
 obtain⟨us,h1,h2,h3⟩:=h
 refine⟨us,own_below b B _ _ _ _ _ h1,h2,fun i l hl=> ?_⟩
 obtain⟨u,k1,k2⟩:=h3 i l hl
 exact⟨u,k1,own_below b B _ _ _ _ _ k2⟩
theorem RowsO.base {B B':Nat} {w:World} {ll:List (List Int)} {v:Value} (h:RowsO B w ll v) (hB:B'≤B):RowsO B' w ll v:=by
 obtain⟨us,h1,h2,h3⟩:=h
 refine⟨us,own_base h1 hB,h2,fun i l hl=> ?_⟩
 obtain⟨u,k1,k2⟩:=h3 i l hl
 exact⟨u,k1,own_base k2 hB⟩
theorem RowsO.len {B:Nat} {w:World} {ll:List (List Int)} {v:Value} (h:RowsO B w ll v):∃ao c,v= .slice ao ll.length c:=by
 obtain⟨us,h1,_⟩:=h
 exact own_len h1
theorem RowsO.step {B:Nat} {wr w2:World} {ll:List (List Int)} {l:List Int} {v v' u:Value} {us:List Value} {o:Obj} (h1:wr.ownsRow B 33 1 v ll.length us)
  (h:us.length=ll.length∧∀(i:Nat) (l:List Int),ll[i]? =some l→∃u,us[i]? =some u∧wr.ownsRow B 3 1 u l.length (ints l)) (hu:wr.ownsRow B 3 1 u l.length (ints l))
  (own:w2.ownsRow B 33 1 v' (ll.length+1) (us ++ [u])) (hg:(wr.alloc o).grownBy w2 v.ownBlock):RowsO B w2 (ll ++ [l]) v':=by
 obtain⟨h2,h3⟩:=h
 refine⟨us ++ [u],by simpa using own,by simp [h2],fun i m hm=> ?_⟩
 have other:∀(x:Value) (n:Nat) (xs:List Value),wr.ownsRow B 3 1 x n xs→w2.ownsRow B 3 1 x n xs:=fun x n xs hx=>own_other hg (h1.alloc o) (by decide) x n xs (hx.alloc o)
 by_cases hi:i < ll.length
 ·rw [List.getElem?_append_left hi] at hm
  obtain⟨y,k1,k2⟩:=h3 i m hm
  exact⟨y,by rw [List.getElem?_append_left (by omega)];exact k1,other _ _ _ k2⟩
 ·rw [List.getElem?_append_right (by omega)] at hm
  have hi2:i - ll.length=0:=by
   have:=(List.getElem?_eq_some_iff.1 hm).1
   simp at this
   omega
  rw [hi2] at hm
  simp at hm
  subst hm
  exact⟨u,by rw [List.getElem?_append_right (by omega),h2,hi2];rfl,other _ _ _ hu⟩
theorem one_any {a:Value} (h:a.oneCell'=true):∀u∈ [a],u.oneCell'=true:=by
 intro u hu
 simp only [List.mem_singleton] at hu
 subst hu;exact h
theorem rsuccs_try (nm:List UInt8) (ps:List Int) (rt pl:Int) (bl:List (List Ins)) (ao bo:Option Addr) (c cb:Nat) (w:World)
  (hv:FunV w (nm,ps,rt,bl,pl) (.agg #[.string (bs nm),.slice ao ps.length c,.int .i64 rt,.slice bo bl.length cb,.int .i64 pl])) (hF:Ful (nm,ps,rt,bl,pl)):
  Calls Tryz.prog 81 #[.agg #[.string (bs nm),.slice ao ps.length c,.int .i64 rt,.slice bo bl.length cb,.int .i64 pl]] w fun e w'=>∃v,e= .returned v∧RowsO w.heap.size w' (succsF (nm,ps,rt,bl,pl)) v∧Below w.heap.size w w':=by
 obtain⟨i0,hi0,hz0,hz1,hz2⟩:=info_parts Tryz.info33
 have b0:=below_box w (.cells #[.string (bs nm),.slice ao ps.length c,.int .i64 rt,.slice bo bl.length cb,.int .i64 pl] 36)
 have X0:=hide (L5.Box.new w [.string (bs nm),.slice ao ps.length c,.int .i64 rt,.slice bo bl.length cb,.int .i64 pl] 36)
 have HV:=hide (hv.below b0)
 have B0:=hide b0
 have HFu:=hide hF
 have hbl:bl.length≤1000000:=hF.1
 clear b0 hv hF
 go_enter Tryz.func81,Tryz.ntmps81
 go_upto_region 1 with fail
 show Code.wp _ _ _ _ (w.alloc (.cells #[.string (bs nm),.slice ao ps.length c,.int .i64 rt,.slice bo bl.length cb,.int .i64 pl] 36))
 replace X0:Hid (L5.Box (w.alloc (.cells #[.string (bs nm),.slice ao ps.length c,.int .i64 rt,.slice bo bl.length cb,.int .i64 pl] 36)) w.heap.size [.string (bs nm),.slice ao ps.length c,.int .i64 rt,.slice bo bl.length cb,.int .i64 pl]):=X0
 generalize w.alloc (.cells #[.string (bs nm),.slice ao ps.length c,.int .i64 rt,.slice bo bl.length cb,.int .i64 pl] 36)=W at *
 go_wp2_with fail
 go_loopw [3,4] (fun v i wr=>∃K:Nat,K≤bl.length∧i= .int .i64 K∧Hid (RowsO W.heap.size wr ((succsF (nm,ps,rt,bl,pl)).take K) v)∧Hid (Below W.heap.size W wr)) (fun _ i _=>bl.length - (intOf i).toNat)
 case atStart=>exact⟨0,Nat.zero_le _,rfl,hide (RowsO.nil _ _),hide (Below.refl _ _)⟩
 case round=>
  obtain⟨K,hK,rfl,HR,HW⟩:=hrel
  obtain⟨x0,x1,x2,x3,x4⟩:_∧_∧_∧_∧_:=⟨(X0.out.below HW.out).2 0 _ rfl,(X0.out.below HW.out).2 1 _ rfl,(X0.out.below HW.out).2 2 _ rfl,(X0.out.below HW.out).2 3 _ rfl,(X0.out.below HW.out).2 4 _ rfl⟩
  by_cases hkt:K < bl.length
  ·have hkI:(K:Int) < bl.length:=by omega
   have hsk:Hid ((succsF (nm,ps,rt,bl,pl)).take (K+1)=(succsF (nm,ps,rt,bl,pl)).take K ++ [nextF (nm,ps,rt,bl,pl) K]):=hide (by
    have hb:bl[K]? =some bl[K]:=List.getElem?_eq_getElem hkt
    refine take_more ?_
    rw [nextF_at (f:=(nm,ps,rt,bl,pl)) hb]
    show(bl.map _)[K]? =_
    rw [List.getElem?_map,hb];rfl)
   have hlen:((succsF (nm,ps,rt,bl,pl)).take K).length=K:=by simp [succsF];omega
   obtain⟨vo,vc,rfl⟩:=HR.out.len
   have HN:=hide (next_any (nm,ps,rt,bl,pl) K _ wr (HV.out.below HW.out) HFu.out hkt)
   generalize nextF (nm,ps,rt,bl,pl) K=l at *
   go_wp2_with fail
   refine HN.out.mono ?_;rintro e w1 ⟨u,rfl,hu,b1⟩
   have HR1:=hide (HR.out.below b1)
   have HW1:=hide (below_step HW.out b1)
   have HU:=hide (own_base hu HW.out.size)
   obtain⟨us,ho,hus⟩:=HR1.out
   obtain⟨uo,uc,rfl⟩:=own_len hu
   have hWs:=HW1.out.size
   clear x0 x1 x2 x3 x4 hu b1
   have ho2:=ho
   rw [hlen] at ho2
   go_wp2_with (at_builtin;refine wpList_append_own _ rfl (.tmp 12) (.tmp 16) 105 rfl W.heap.size 33 i0 _ 1 24 Tryz.underlying105 hi0 hz0 hz1 hz2 rfl (by decide) _ _ _ rfl (ho2.alloc _) ⟨w1.heap.size,0,none⟩ 1 1 [.slice uo l.length uc] rfl rfl one_cell (one_any rfl) (by unfold maxLen;omega) (by omega) (by simp;omega) ?_;intro v2 w2 own2 grow2 _)
   have HE:Hid (RowsO W.heap.size w2 ((succsF (nm,ps,rt,bl,pl)).take (K+1)) v2):=hide (by
    rw [hsk.out]
    exact RowsO.step ho hus HU.out (by rw [hlen];exact own2) (by rw [hlen];exact grow2))
   have HW2:Hid (Below W.heap.size W w2):=hide (by
    refine Below.grown (HW1.out.alloc HW1.out.size _) grow2 (by simp;omega) ?_
    intro k hk
    exact(ho2.lt k hk).1)
   clear own2 grow2
   go_wp2_with fail
   go_roundw
   case rel=>exact⟨K+1,by omega,by go_num,HE,HW2⟩
   case measure=>simp [intOf];omega
  ·obtain rfl:K=bl.length:=by omega
   have HE:Hid (RowsO W.heap.size wr (succsF (nm,ps,rt,bl,pl)) _):=hide (by have:=HR.out;rwa [List.take_of_length_le (by simp [succsF])] at this)
   have HE2:=hide (HE.out.base B0.out.size)
   go_wp2_with fail
   go_ret
   exact⟨_,rfl,HE2.out,below_step B0.out HW.out⟩
def Num (n:Nat) (l:List Int):Prop:=∀m∈l,0≤m∧m < n
theorem fit_len:∀(n:Nat) (l:List Int),l.Nodup→Num n l→l.length≤n:=by
 intro n
 induction n with
 |zero=>
  intro l _ h
  cases l with
  |nil=>simp
  |cons m l=>have:=h m (by simp);omega
 |succ n ih=>
  intro l hn h
  have h1:=ih (l.erase (n:Int)) (hn.erase _) (fun m hm=>by
   have h2:=(hn.mem_erase_iff).1 hm
   have h3:=h m h2.2
   have h4:m≠(n:Int):=h2.1
   omega)
  have h2:=List.length_erase (a:=(n:Int)) (l:=l)
  split at h2 <;> omega
def postF (f:Fun):Nat→Int→List Int→List Int→List Int
 |0,_,done,_=>done
 |N+1,k,done,op=>(nextF f k.toNat).foldl (fun out m=>if hasL out m || hasL (op ++ [k]) m then out else postF f N m out (op ++ [k])) done ++ [k]
def stepF (f:Fun) (N:Nat) (path out:List Int) (m:Int):List Int:=if hasL out m || hasL path m then out else postF f N m out path
def walkF (f:Fun) (N:Nat) (path done l:List Int):List Int:=l.foldl (stepF f N path) done
theorem postF_succ (f:Fun) (N:Nat) (k:Int) (done op:List Int):postF f (N+1) k done op=walkF f N (op ++ [k]) done (nextF f k.toNat) ++ [k]:=rfl
theorem walkF_take {f:Fun} {N:Nat} {path done l:List Int} {i:Nat} {m:Int} (h:l[i]? =some m):walkF f N path done (l.take (i+1))=stepF f N path (walkF f N path done (l.take i)) m:=by
 unfold walkF;rw [take_more h,List.foldl_append];rfl
theorem stepF_no {f:Fun} {N:Nat} {path out:List Int} {m:Int} (h:hasL out m=true∨hasL path m=true):stepF f N path out m=out:=by
 unfold stepF;rcases h with h | h <;> simp [h]
theorem stepF_yes {f:Fun} {N:Nat} {path out:List Int} {m:Int} (h1:hasL out m=false) (h2:hasL path m=false):stepF f N path out m=postF f N m out path:=by
 unfold stepF;simp [h1,h2]
def Tos (f:Fun):Prop:=∀j,Num f.2.2.2.1.length (nextF f j)
def Ext (n:Nat) (done op out:List Int):Prop:=∃e,out=done ++ e∧e.Nodup∧∀m∈e,(0≤m∧m < n)∧m ∉ done∧m ∉ op
theorem Ext.refl (n:Nat) (done op:List Int):Ext n done op done:=⟨[],by simp,List.nodup_nil,by simp⟩
theorem Ext.trans {n:Nat} {a b c op:List Int} (h:Ext n a op b) (k:Ext n b op c):Ext n a op c:=by
 obtain⟨e,rfl,h1,h2⟩:=h
 obtain⟨d,rfl,k1,k2⟩:=k
 refine⟨e ++ d,by simp,List.nodup_append.2 ⟨h1,k1,?_⟩,?_⟩
 ·rintro x hx y hy rfl
  exact(k2 x hy).2.1 (by simp [hx])
 ·intro m hm
  rcases List.mem_append.1 hm with hm | hm
  ·exact h2 m hm
  ·exact⟨(k2 m hm).1,fun h=>(k2 m hm).2.1 (by simp [h]),(k2 m hm).2.2⟩
theorem Ext.one {n:Nat} {a b op:List Int} {k:Int} (h:Ext n a (op ++ [k]) b) (hk:0≤k∧k < n) (ha:k ∉ a) (ho:k ∉ op):Ext n a op (b ++ [k]):=by
 obtain⟨e,rfl,h1,h2⟩:=h
 refine⟨e ++ [k],by simp,List.nodup_append.2 ⟨h1,by simp,?_⟩,?_⟩
 ·rintro x hx y hy rfl
  simp at hy
  exact(h2 x hx).2.2 (by simp [hy])
 ·intro m hm
  rcases List.mem_append.1 hm with hm | hm
  ·exact⟨(h2 m hm).1,(h2 m hm).2.1,fun h=>(h2 m hm).2.2 (by simp [h])⟩
  ·simp at hm;subst hm;exact⟨hk,ha,ho⟩
theorem hasL_no {l:List Int} {n:Int}:hasL l n=false↔n ∉ l:=by
 rw [←hasL_mem];simp
theorem post_ext {f:Fun} (hT:Tos f):∀(N:Nat) (k:Int) (done op:List Int),(0≤k∧k < f.2.2.2.1.length)→k ∉ done→k ∉ op→Ext f.2.2.2.1.length done op (postF f N k done op):=by
 intro N
 induction N with
 |zero=>intro k done op _ _ _;exact Ext.refl _ _ _
 |succ N ih=>
  intro k done op hk hd ho
  rw [postF_succ]
  refine Ext.one ?_ hk hd ho
  have key:∀(l out:List Int),Num f.2.2.2.1.length l→Ext f.2.2.2.1.length done (op ++ [k]) out→Ext f.2.2.2.1.length done (op ++ [k]) (walkF f N (op ++ [k]) out l):=by
   intro l
   induction l with
   |nil=>intro out _ h;exact h
   |cons m l ih2=>
    intro out hl h
    refine ih2 _ (fun x hx=>hl x (by simp [hx])) ?_
    by_cases hc:hasL out m=true∨hasL (op ++ [k]) m=true
    ·rw [stepF_no hc];exact h
    ·have hc1:hasL out m=false:=by simpa using fun e=>hc (.inl e)
     have hc2:hasL (op ++ [k]) m=false:=by simpa using fun e=>hc (.inr e)
     rw [stepF_yes hc1 hc2]
     exact h.trans (ih m out (op ++ [k]) (hl m (by simp)) (hasL_no.1 hc1) (hasL_no.1 hc2))
  exact key _ _ (hT _) (Ext.refl _ _ _)
theorem walk_ext {f:Fun} (hT:Tos f) (N:Nat) (path done:List Int):∀(l out:List Int),Num f.2.2.2.1.length l→Ext f.2.2.2.1.length done path out→Ext f.2.2.2.1.length done path (walkF f N path out l):=by
 intro l
 induction l with
 |nil=>intro out _ h;exact h
 |cons m l ih2=>
  intro out hl h
  refine ih2 _ (fun x hx=>hl x (by simp [hx])) ?_
  by_cases hc:hasL out m=true∨hasL path m=true
  ·rw [stepF_no hc];exact h
  ·have hc1:hasL out m=false:=by simpa using fun e=>hc (.inl e)
   have hc2:hasL path m=false:=by simpa using fun e=>hc (.inr e)
   rw [stepF_yes hc1 hc2]
   exact h.trans (post_ext hT N m out path (hl m (by simp)) (hasL_no.1 hc1) (hasL_no.1 hc2))
theorem Ext.num {n:Nat} {done op out:List Int} (h:Ext n done op out) (hd:done.Nodup) (hn:Num n done):out.Nodup∧Num n out:=by
 obtain⟨e,rfl,h1,h2⟩:=h
 refine⟨List.nodup_append.2 ⟨hd,h1,?_⟩,?_⟩
 ·rintro x hx y hy rfl
  exact(h2 x hy).2.1 hx
 ·intro m hm
  rcases List.mem_append.1 hm with hm | hm
  ·exact hn m hm
  ·exact(h2 m hm).1
theorem oneCell_ints (l:List Int):∀u∈ints l,u.oneCell'=true:=by
 intro u hu
 obtain⟨m,_,rfl⟩:=List.mem_map.1 hu
 rfl
theorem append_ints {w:World} {ops:Array Oper} {rest:List Oper} {o:Oper} {a:Act} {Q:Exit→Act→World→Prop} (hgd:o.guard=none) (s x:Operand)
  (ho:o.op= .call {callee:= .builtin .append,args:= #[s,x],argTypes:= #[33,33]}) (base B:Nat) (v vx:Value) (n:Nat) (xs:List Value) (l:List Int)
  (hs:a.eval s=v) (hown:w.ownsRow base 3 1 v n xs) (hx:a.eval x=vx) (hl:w.ownsRow B 3 1 vx l.length (ints l)) (h63:n+l.length≤4000000) (hbase:base≤w.heap.size)
  (h:∀v' w',w'.ownsRow base 3 1 v' (n+l.length) (xs ++ ints l)→w.grownBy w' v.ownBlock→wpList Tryz.prog ops Q rest (a.put o.dst v') w'):wpList Tryz.prog ops Q (o :: rest) a w:=by
 obtain⟨i0,hi0,hz0,hz1,hz2⟩:=info_parts Tryz.info3
 rcases own_view hl with ⟨rfl,hn⟩ | ⟨g,cap,rfl,h1,h2,h3,h4,h5,h6⟩
 ·refine wpList_append_own_none hgd s x 33 ho base 3 i0 1 Tryz.underlying33 hi0 v n xs hs hown hx ?_
  refine h v w ?_ (World.grownBy.refl _ _)
  have e:l= []:=List.length_eq_zero_iff.1 hn
  subst e
  simpa [ints] using hown
 ·refine wpList_append_own w hgd s x 33 ho base 3 i0 _ 1 8 Tryz.underlying33 hi0 hz0 hz1 hz2 rfl (by decide) v n xs hs hown ⟨g,0,none⟩ l.length cap (ints l) hx (by simp [ints]) ?_ (oneCell_ints l) (by unfold maxLen;omega) (by omega) hbase ?_
  ·intro j u hj
   rw [Addr.add_lit,Nat.zero_add]
   exact h5 j u hj
  ·intro v' w' k1 k2 _
   exact h v' w' k1 k2
def RowsR (w:World) (ao:Option Addr) (ll:List (List Int)):Prop:=ll= []∨∃b o,ao=some ⟨b,o,none⟩∧b < w.heap.size∧∀(i:Nat) (l:List Int),ll[i]? =some l→∃u,w.cell? ⟨b,o+i,none⟩=some u∧IntsV w l u
def RowsV (w:World) (ll:List (List Int)) (v:Value):Prop:=∃ao c,v= .slice ao ll.length c∧RowsR w ao ll∧ll.length≤c∧c≤maxLen
theorem RowsR.below {w w':World} {ao:Option Addr} {ll:List (List Int)} (h:RowsR w ao ll) (hb:Below w.heap.size w w'):RowsR w' ao ll:=by
 rcases h with h | ⟨b,o,e,hl,hc⟩
 ·exact .inl h
 ·refine .inr ⟨b,o,e,Nat.lt_of_lt_of_le hl hb.size,fun i l hi=> ?_⟩
  obtain⟨u,h1,h2⟩:=hc i l hi
  exact⟨u,(hb.cell (p:=⟨b,o+i,none⟩) hl).trans h1,h2.below hb⟩
theorem RowsV.below {w w':World} {ll:List (List Int)} {v:Value} (h:RowsV w ll v) (hb:Below w.heap.size w w'):RowsV w' ll v:=by
 obtain⟨ao,c,e,h1,h2⟩:=h
 exact⟨ao,c,e,h1.below hb,h2⟩
theorem RowsO.read {B:Nat} {w:World} {ll:List (List Int)} {v:Value} (h:RowsO B w ll v):RowsV w ll v:=by
 obtain⟨us,h1,h2,h3⟩:=h
 rcases own_view h1 with ⟨rfl,hn⟩ | ⟨g,cap,rfl,k1,k2,k3,k4,k5,k6⟩
 ·have e:ll= []:=List.length_eq_zero_iff.1 hn
  subst e
  exact⟨none,0,rfl,.inl rfl,Nat.le_refl _,Nat.zero_le _⟩
 ·refine⟨some ⟨g,0,none⟩,cap,rfl,.inr ⟨g,0,rfl,k4,fun i l hi=> ?_⟩,k1,k2⟩
  obtain⟨u,m1,m2⟩:=h3 i l hi
  exact⟨u,by rw [Nat.zero_add];exact k5 i u m1,ints_of m2⟩
def addB (but:Int) (met:List Int) (m:Int):List Int:=if m=but then met else addL met m
theorem addB_but {but m:Int} {met:List Int} (h:m=but):addB but met m=met:=if_pos h
theorem addB_has {but m:Int} {met:List Int} (h:m≠but) (hh:hasL met m=true):addB but met m=met:=(if_neg h).trans (addL_yes hh)
theorem addB_new {but m:Int} {met:List Int} (h:m≠but) (hh:hasL met m=false):addB but met m=met ++ [m]:=(if_neg h).trans (addL_no hh)
def NumD (n:Nat) (l:List Int):Prop:=l.Nodup∧Num n l
theorem NumD.nil (n:Nat):NumD n []:=⟨List.nodup_nil,fun m hm=>by simp at hm⟩
theorem NumD.addB {n:Nat} {met:List Int} (h:NumD n met) (but:Int) {m:Int} (hm:0≤m∧m < n):NumD n (addB but met m):=by
 by_cases h1:m=but
 ·rw [addB_but h1];exact h
 ·cases h2:hasL met m with
  |true=>rw [addB_has h1 h2];exact h
  |false=>
   rw [addB_new h1 h2]
   refine⟨List.nodup_append.2 ⟨h.1,by simp,?_⟩,?_⟩
   ·rintro x hx y hy rfl
    simp at hy;subst hy;exact hasL_no.1 h2 hx
   ·intro x hx
    rcases List.mem_append.1 hx with hx | hx
    ·exact h.2 x hx
    ·simp at hx;subst hx;exact hm
def addsB (but:Int) (met l:List Int):List Int:=l.foldl (addB but) met
theorem addsB_take {but m:Int} {met l:List Int} {i:Nat} (h:l[i]? =some m):addsB but met (l.take (i+1))=addB but (addsB but met (l.take i)) m:=by
 unfold addsB;rw [take_more h,List.foldl_append];rfl
theorem NumD.addsB {n:Nat} (but:Int):∀(l met:List Int),NumD n met→Num n l→NumD n (addsB but met l):=by
 intro l
 induction l with
 |nil=>intro met h _;exact h
 |cons m l ih=>intro met h hl;exact ih _ (h.addB but (hl m (by simp))) (fun x hx=>hl x (by simp [hx]))
theorem addL_ge (met:List Int) (m:Int):met.length≤(addL met m).length:=by
 unfold addL;split
 ·omega
 ·simp
theorem addB_ge (but:Int) (met:List Int) (m:Int):met.length≤(addB but met m).length:=by
 unfold addB;split
 ·omega
 ·exact addL_ge _ _
theorem addsB_len (but:Int):∀(l met:List Int),met.length≤(addsB but met l).length:=by
 intro l
 induction l with
 |nil=>intro met;exact Nat.le_refl _
 |cons m l ih=>intro met;exact Nat.le_trans (addB_ge but met m) (ih _)
theorem Num.take {n:Nat} {l:List Int} (h:Num n l) (k:Nat):Num n (l.take k):=fun x hx=>h x (List.mem_of_mem_take hx)
def growE (ll:List (List Int)) (but:Int):Nat→Nat→List Int→List Int
 |0,_,met=>met
 |N+1,i,met=>match met[i]? with
  |none=>met
  |some m=>growE ll but N (i+1) (addsB but met (ll.getD m.toNat []))
def metE (ll:List (List Int)) (frm:List Int) (but:Int):List Int:=growE ll but (ll.length+1) 0 (addsB but [] frm)
theorem growE_end {ll:List (List Int)} {but:Int} {N i:Nat} {met:List Int} (h:met.length≤i):growE ll but N i met=met:=by
 cases N with
 |zero=>rfl
 |succ N=>rw [growE,List.getElem?_eq_none h]
theorem growE_step {ll:List (List Int)} {but m:Int} {N i:Nat} {met:List Int} (h:met[i]? =some m):growE ll but (N+1) i met=growE ll but N (i+1) (addsB but met (ll.getD m.toNat [])):=by
 rw [growE,h]
end Go.Proofs.YtljkgcfnoegibaaGreatDoor
