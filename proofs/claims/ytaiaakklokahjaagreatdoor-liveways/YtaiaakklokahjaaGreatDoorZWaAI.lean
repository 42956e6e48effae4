/- Texts of one chain, joined. -/
import Derived.Test.YtaiaakklokahjaaGreatDoorZWaAG
import Derived.Test.YtaiaakklokahjaaGreatDoorZWaAH
set_option maxHeartbeats 4000000
set_option maxRecDepth 20000
namespace Go.Proofs.YtaiaakklokahjaaGreatDoor
open Go Go.RowKit
open G (Tok Er Ins Fun ah bk fk)
theorem ints_at {l:List Int} {i:Nat} {n:Int} (h:l[i]? =some n):(ints l)[i]? =some (.int .i64 n):=by
 show(l.map _)[i]? =_;rw [List.getElem?_map,h];rfl
theorem fe {B:Nat} {w:World} {l:List Int} {v:Value} (h:w.ownsRow B 3 1 v l.length (ints l)):bT w l v:=by
 rcases bY h with ⟨rfl,hn⟩ | ⟨g,cap,rfl,h1,h2,h3,h4,h5,h6⟩
 ·have e:l= []:=List.length_eq_zero_iff.1 hn;subst e;exact⟨none,0,rfl,.inl rfl,Nat.le_refl _,Nat.zero_le _⟩
 ·exact⟨some ⟨g,0,none⟩,cap,rfl,.inr ⟨g,0,rfl,h4,fun i n hi=>by rw [Nat.zero_add];exact h5 i _ (ints_at hi)⟩,h1,h2⟩
theorem JW {B:Nat} {w:World} {l:List Ins} {v:Value} (h:bR B l v w):iR w l v:=by
 obtain⟨cs,h0,hR⟩:=h;rcases bY h0 with ⟨rfl,hn⟩ | ⟨g,cap,rfl,h1,h2,h3,h4,h5,h6⟩
 ·have e:l= []:=List.length_eq_zero_iff.1 hn;subst e;exact⟨none,0,rfl,Nat.le_refl _,Nat.zero_le _,.inl rfl⟩
 ·refine⟨some ⟨g,0,none⟩,cap,rfl,h1,h2,.inr ⟨g,0,rfl,fun i x hi=> ?_⟩⟩;obtain⟨va,vt,k1,k2,k3⟩:=dj.at _ _ i x hR hi;exact⟨h4,va,vt,fun j t hj=>by rw [Nat.zero_add];exact h5 _ _ (k1 j t hj),fe k2,fe k3⟩
theorem Fu {B:Nat} {w:World} {l:List (List Ins)} {v:Value} (h:cZ B l v w):fj w l v:=by
 obtain⟨cs,h0,hR⟩:=h;rcases bY h0 with ⟨rfl,hn⟩ | ⟨g,cap,rfl,h1,h2,h3,h4,h5,h6⟩
 ·have e:l= []:=List.length_eq_zero_iff.1 hn;subst e;exact⟨none,0,rfl,Nat.le_refl _,Nat.zero_le _,.inl rfl⟩
 ·refine⟨some ⟨g,0,none⟩,cap,rfl,h1,h2,.inr ⟨g,0,rfl,h4,fun i b hi=> ?_⟩⟩;obtain⟨u,k1,k2⟩:=kj.at _ _ i b hR hi;exact⟨u,by rw [Nat.zero_add];exact h5 _ _ k1,JW k2⟩
theorem yk {B:Nat} {w:World} {l:List Fun} {v:Value} (h:eH B l v w):eg w l v:=by
 obtain⟨cs,h0,hR⟩:=h;rcases bY h0 with ⟨rfl,hn⟩ | ⟨g,cap,rfl,h1,h2,h3,h4,h5,h6⟩
 ·have e:l= []:=List.length_eq_zero_iff.1 hn;subst e;exact⟨none,0,rfl,Nat.le_refl _,Nat.zero_le _,.inl rfl⟩
 ·refine⟨some ⟨g,0,none⟩,cap,rfl,h1,h2,.inr ⟨g,0,rfl,fun i x hi=> ?_⟩⟩;obtain⟨vp,vb,k1,k2,k3⟩:=jt.at _ _ i x hR hi;exact⟨h4,vp,vb,fun j t hj=>by rw [Nat.zero_add];exact h5 _ _ (k1 j t hj),fe k2,Fu k3⟩
open G (Tok Er Ins Fun)
def ay (l:List Int) (n:Int):Bool:=l.any fun m=>decide (m=n)
theorem fQ (l:List Int) (m n:Int):ay (l ++ [m]) n=(ay l n || decide (m=n)):=by simp [ay]
theorem aZ {l:List Int} {n:Int}:ay l n=true↔n∈l:=by simp [ay]
theorem GW {l:List Int} {k:Nat} {n:Int} (h:l[k]? =some n):ay l n=true:=aZ.2 (List.mem_of_getElem? h)
theorem aR {α:Type} {l:List α} {k:Nat} {n:α} (h:l[k]? =some n):l.take (k+1)=l.take k ++ [n]:=by rw [List.take_add_one,h];rfl
theorem dr (l:List Int) (n:Int) (ao:Option Addr) (c:Nat) (w:World) (hs:Sl w ao l) (hl:l.length≤maxLen):
  Calls Tryz.prog 35 #[.slice ao l.length c,.int .i64 n] w fun e w'=>e= .returned (.bool (ay l n))∧w'=w:=by
 unfold maxLen at hl;have HS:=aa hs;clear hs;go_enter Tryz.func35,Tryz.ntmps35
 go_wp2
 go_loopw [5] (fun i wr=>∃k:Nat,k≤l.length∧i= .int .i64 k∧wr=w∧Hid (ay (l.take k) n=false)) (fun i _=>l.length - (intOf i).toNat)
 case atStart=>exact⟨0,Nat.zero_le _,rfl,rfl,aa rfl⟩
 case round=>
  obtain⟨k,hk,rfl,hw,HF⟩:=hrel;subst hw;by_cases hlt:k < l.length
  ·obtain⟨m,hm⟩:∃m,l[k]? =some m:=⟨l[k],List.getElem?_eq_getElem hlt⟩;rcases HS.out with he | ⟨a,oa,rfl,hal,ha⟩
   ·subst he;simp at hlt
   have c1:=ha k m hm;by_cases he:m=n
   ·have HE:Hid (true=ay l n):=aa (by subst he;exact(GW hm).symm);have he':(m == n)=true:=(by simpa using he);clear ha hm he;go_wp2_with fail
    go_ret;exact⟨L5.aw HE.out,rfl⟩
   ·have HE:Hid (ay (l.take (k+1)) n=false):=aa (by rw [aR hm,fQ,HF.out];simp [he]);have he':(m == n)=false:=(by simpa using he);clear ha hm he;go_wp2_with fail
    go_roundw
    case rel=>exact⟨k+1,by omega,by go_num,trivial,HE⟩
    case measure=>simp [intOf];omega
  ·obtain rfl:k=l.length:=(by omega);have HE:Hid (false=ay l n):=aa (by have:=HF.out;rw [List.take_length] at this;exact this.symm);go_wp2_with fail
   go_ret;exact⟨L5.aw HE.out,rfl⟩
def Grw (w:World) (l:List Int) (v:Value) (wr:World):Prop:=wr.ownsRow w.heap.size 3 1 v l.length (ints l)∧Below w.heap.size w wr
theorem Grw.start (w:World):Grw w [] (.slice none 0 0) w:=⟨World.ownsRow_nil _ _ _ _,Below.refl _ _⟩
theorem Grw.step {w wr w2:World} {l:List Int} {v v':Value} {x:Int} {o:Obj} (h:Grw w l v wr) (own:w2.ownsRow w.heap.size 3 1 v' (l.length+1) (ints l ++ [.int .i64 x])) (hg:(wr.alloc o).grownBy w2 v.ownBlock):Grw w (l ++ [x]) v' w2:=by
 refine⟨by simpa [ints] using own,?_⟩;refine Below.grown (h.2.alloc h.2.size o) hg (by simp;have:=h.2.size;omega) ?_;intro k hk;exact(h.1.lt k hk).1
theorem Grw.slice {w wr:World} {l:List Int} {v:Value} (h:Grw w l v wr):∃ao c,v= .slice ao l.length c∧Sl wr ao l∧l.length≤maxLen:=by
 obtain⟨ao,c,rfl,h1,h2,h3⟩:=fe h.1;exact⟨ao,c,rfl,h1,Nat.le_trans h2 h3⟩
def iB (acc:List Int) (n:Int):List Int:=if ay acc n then acc else acc ++ [n]
theorem jO {acc:List Int} {n:Int} (h:ay acc n=true):iB acc n=acc:=by unfold iB;rw [if_pos h]
theorem lZ {acc:List Int} {n:Int} (h:ay acc n=false):iB acc n=acc ++ [n]:=by unfold iB;rw [if_neg (by simp [h])]
theorem Ey (acc:List Int) (n:Int):(iB acc n).length≤acc.length+1:=by
 unfold iB;split
 ·omega
 ·simp
def cG (l:List Int):List Int:=l.foldl iB []
theorem nS {l:List Int} {k:Nat} {n:Int} (h:l[k]? =some n):cG (l.take (k+1))=iB (cG (l.take k)) n:=by
 rw [aR h];simp [cG]
theorem mY (l:List Int):(cG l).length≤l.length:=by
 have key:∀(l acc:List Int),(l.foldl iB acc).length≤acc.length+l.length:=by
  intro l;induction l with
  |nil=>intro acc;simp
  |cons n l ih=>
   intro acc;rw [List.foldl_cons,List.length_cons];have h1:=ih (iB acc n);have h2:=Ey acc n;omega
 simpa [cG] using key l []
theorem Eu (nm:List UInt8) (ps:List Int) (rt pl:Int) (bl:List (List Ins)) (ao bo:Option Addr) (c cb:Nat) (k:Nat) (b:List Ins) (op id nn ty pp:Int) (ar tt:List Int) (na:List UInt8) (w:World)
  (hb:fj w bl (.slice bo bl.length cb)) (hk:bl[k]? =some b) (hx:b[b.length - 1]? =some (op,id,nn,ty,ar,tt,na,pp)) (h63:tt.length≤1000000):
  Calls Tryz.prog 8 #[.agg #[.string (bs nm),.slice ao ps.length c,.int .i64 rt,.slice bo bl.length cb,.int .i64 pl],.int .i64 k] w fun e w'=>∃v,e= .returned v∧w'.ownsRow w.heap.size 3 1 v (cG tt).length (ints (cG tt))∧Below w.heap.size w w':=by
 obtain⟨i0,hi0,hz0,hz1,hz2⟩:=info_parts Tryz.cU;have b0:=af w (.cells #[.string (bs nm),.slice ao ps.length c,.int .i64 rt,.slice bo bl.length cb,.int .i64 pl] 29);have X0:=aa (L5.Box.new w [.string (bs nm),.slice ao ps.length c,.int .i64 rt,.slice bo bl.length cb,.int .i64 pl] 29);have HB:=aa (hb.below b0);have B0:=aa b0;clear b0 hb;go_enter Tryz.func8,Tryz.ntmps8
 go_upto_region 1 with fail
 show Code.wp _ _ _ _ (w.alloc (.cells #[.string (bs nm),.slice ao ps.length c,.int .i64 rt,.slice bo bl.length cb,.int .i64 pl] 29));replace X0:Hid (L5.Box (w.alloc (.cells #[.string (bs nm),.slice ao ps.length c,.int .i64 rt,.slice bo bl.length cb,.int .i64 pl] 29)) w.heap.size [.string (bs nm),.slice ao ps.length c,.int .i64 rt,.slice bo bl.length cb,.int .i64 pl]):=X0;generalize w.alloc (.cells #[.string (bs nm),.slice ao ps.length c,.int .i64 rt,.slice bo bl.length cb,.int .i64 pl] 29)=W at *;obtain⟨_,_,e0,l1,l2,h2⟩:=HB.out;injection e0 with e1 e2 e3;subst e1 e3;clear e2;have hkt:k < bl.length:=(List.getElem?_eq_some_iff.1 hk).1;have hkI:(k:Int) < bl.length:=by omega
 rcases h2 with h2 | ⟨gc,oc,rfl,gk,h2⟩
 ·subst h2;simp at hkt
 obtain⟨vk,kd,aok,capk,rfl,m1,m2,kk⟩:=h2 k b hk;have hjt:b.length - 1 < b.length:=(List.getElem?_eq_some_iff.1 hx).1;rcases kk with kk | ⟨gi,oi,rfl,kk⟩
 ·subst kk;simp at hjt
 obtain⟨ai,ti,ca,ct,hv,r0,r1,r2,r3,r4,r5,r6,r7⟩:=(kk (b.length - 1) _ hx).val;dsimp only at hv r0 r1 r2 r3 r4 r5 r6 r7
 have HSt:Hid (Sl W ti tt):=aa (by
  obtain⟨a1,t1,c1,c2,e,s1,s2,_⟩:=hv;injection e with e;have e2:=congrArg (fun a=>a[5]?) e;simp at e2;rw [e2.1];exact s2)
 obtain⟨J,hJ⟩:∃J,J=b.length - 1:=⟨_,rfl⟩;rw [←hJ] at r0 r1 r2 r3 r4 r5 r6 r7;have hJI:(b.length:Int) - 1=(J:Int):=by omega
 have hJl:(J:Int) < b.length:=by omega
 unfold maxLen at m2 l2;have hgi:gi < W.heap.size:=(kk (b.length - 1) _ hx).1;have x3:=fun x=>(L5.bG X0.out x).2 3 _ rfl;have kd':=fun x=>((L5.aD W x).cell (p:=⟨gc,oc+k,none⟩) gk).trans kd;have r5':=fun x=>((L5.aD W x).cell (p:=⟨gi,oi+J * 8+5,none⟩) hgi).trans r5;have hwr:IntKind.i64.wrap ((b.length:Int) - 1)=(J:Int):=by
  rw [hJI];exact IntWalk.i64_in _ ⟨by omega,by omega⟩
 clear hv kk h2 hx hk r0 r1 r2 r3 r4 r5 r6 r7 kd hJ;go_wp2_with fail
 refine L5.aM (by kernel_rfl) (by kernel_rfl) ?_;repeat (go_big_quiet_step (fail))
 refine wpQuiet_nil ?_;rintro _ ⟨x,rfl⟩;clear x3 kd' r5';have HX:=aa (L5.aD W x);obtain⟨w8,hw8⟩:∃w8:World,w8=L5.bM W x:=⟨_,rfl⟩;rw [←hw8] at HX ⊢;clear hw8;go_wp2_with fail
 go_loopw [5,7] (fun v i wr=>∃I:Nat,I≤tt.length∧i= .int .i64 I∧Hid (Grw W (cG (tt.take I)) v wr)) (fun _ i _=>tt.length - (intOf i).toNat)
 case atStart=>exact⟨0,Nat.zero_le _,rfl,aa ⟨World.ownsRow_nil _ _ _ _,HX.out⟩⟩
 case round=>
  obtain⟨I,hI,rfl,HG⟩:=hrel;by_cases hit:I < tt.length
  ·have hiI:(I:Int) < tt.length:=(by omega);obtain⟨n,hn⟩:∃n,tt[I]? =some n:=⟨tt[I],List.getElem?_eq_getElem hit⟩;rcases HSt.out with he | ⟨gt,ot,rfl,gtl,ht⟩
   ·subst he;simp at hit
   have c1:=(HG.out.2.cell (p:=⟨gt,ot+I,none⟩) gtl).trans (ht I n hn);obtain⟨vo,vc,rfl,vs,vl⟩:=HG.out.slice;have HV:=aa vs;have HN:=aa (nS hn);have hlen:=mY (tt.take I);rw [List.length_take] at hlen;generalize cG (tt.take I)=acc at *;clear ht hn vs;go_wp2_with fail
   refine(dr acc n vo vc wr HV.out vl).mono ?_;rintro e w1 ⟨rfl,hw1⟩;rw [hw1];clear hw1
   cases hh:ay acc n with
   |true=>
    have HE:Hid (Grw W (cG (tt.take (I+1))) (.slice vo acc.length vc) wr):=aa (by rw [HN.out,jO hh];exact HG.out);replace hh:=aa hh;go_wp2_with fail
    go_roundw
    case rel=>exact⟨I+1,by omega,by go_num,HE⟩
    case measure=>simp [intOf];omega
   |false=>
    have HA:=aa (HN.out.trans (lZ hh));replace hh:=aa hh;have hWs:=HG.out.2.size;go_wp2_with (at_builtin;refine wpList_append_own _ rfl (.tmp 36) (.tmp 41) 26 rfl W.heap.size 3 i0 _ 1 8 Tryz.underlying26 hi0 hz0 hz1 hz2 rfl (by decide) _ _ _ rfl (HG.out.1.alloc _) ⟨wr.heap.size,0,none⟩ 1 1 [.int .i64 n] rfl rfl one_cell one_one (by unfold maxLen;omega) (by omega) (by simp;omega) ?_;intro v2 w2 own2 grow2 _)
    have HE:Hid (Grw W (cG (tt.take (I+1))) v2 w2):=aa (by rw [HA.out];exact HG.out.step own2 grow2);clear own2 grow2;go_wp2_with fail
    go_roundw
    case rel=>exact⟨I+1,by omega,by go_num,HE⟩
    case measure=>simp [intOf];omega
  ·obtain rfl:I=tt.length:=(by omega);have HE:Hid (Grw W (cG tt) _ wr):=aa (by have:=HG.out;rwa [List.take_length] at this);have HF:=aa (aL HE.out.1 B0.out.size);go_wp2_with fail
   go_ret;exact⟨_,rfl,HF.out,ae B0.out HE.out.2⟩
def o7 (b:List Ins):List Int:=match b[b.length - 1]? with
 |some x=>x.2.2.2.2.2.1
 |none=> []
def aB (f:Fun) (k:Nat):List Int:=cG (o7 (f.2.2.2.1.getD k []))
def aC (f:Fun):List (List Int):=f.2.2.2.1.map fun b=>cG (o7 b)
def Ful (f:Fun):Prop:=f.2.2.2.1.length≤1000000∧∀b∈f.2.2.2.1,b≠ []∧∀x∈b,x.2.2.2.2.2.1.length≤1000000
theorem hU {f:Fun} {k:Nat} {b:List Ins} (h:f.2.2.2.1[k]? =some b):aB f k=cG (o7 b):=by
 unfold aB;rw [List.getD_eq_getElem?_getD,h];rfl
theorem Ful.last {f:Fun} (h:Ful f) {b:List Ins} (hb:b∈f.2.2.2.1):∃x,b[b.length - 1]? =some x∧o7 b=x.2.2.2.2.2.1∧x.2.2.2.2.2.1.length≤1000000:=by
 obtain⟨h1,h2⟩:=h.2 b hb;have:b.length - 1 < b.length:=by
  have:b.length≠0:=fun e=>h1 (List.length_eq_zero_iff.1 e);omega
 refine⟨b[b.length - 1],List.getElem?_eq_getElem this,?_,h2 _ (List.getElem_mem this)⟩;unfold o7;rw [List.getElem?_eq_getElem this]
theorem mg (f:Fun) (k:Nat) (v:Value) (w:World) (hv:bS w f v) (hF:Ful f) (hk:k < f.2.2.2.1.length):
  Calls Tryz.prog 8 #[v,.int .i64 k] w fun e w'=>∃u,e= .returned u∧w'.ownsRow w.heap.size 3 1 u (aB f k).length (ints (aB f k))∧Below w.heap.size w w':=by
 obtain⟨b,hb⟩:∃b,f.2.2.2.1[k]? =some b:=⟨_,List.getElem?_eq_getElem hk⟩;obtain⟨x,hx,hl,h63⟩:=hF.last (List.mem_of_getElem? hb);rw [hU hb,hl];obtain⟨nm,ps,rt,bl,pl⟩:=f;obtain⟨vp,vb,rfl,⟨ao,c,rfl,h1,_⟩,h2⟩:=hv;have h2':=h2;obtain⟨bo,cb,rfl,_⟩:=h2;obtain⟨op,id,nn,ty,ar,tt,na,pp⟩:=x;exact Eu nm ps rt pl bl ao bo c cb k b op id nn ty pp ar tt na w h2' hb hx h63
theorem Tryz.sx:(Tryz.prog.info? 26).map (fun i=>(i.zero,i.size,i.bytes))=some (some (.slice none 0 0),1,24):=by kernel_rfl
def bf (B:Nat) (w:World) (ll:List (List Int)) (v:Value):Prop:=∃us:List Value,w.ownsRow B 26 1 v ll.length us∧us.length=ll.length∧∀(i:Nat) (l:List Int),ll[i]? =some l→∃u,us[i]? =some u∧w.ownsRow B 3 1 u l.length (ints l)
theorem bf.nil (B:Nat) (w:World):bf B w [] (.slice none 0 0):=⟨[],World.ownsRow_nil _ _ _ _,rfl,fun i l h=>by simp at h⟩
theorem bf.below {B:Nat} {w w':World} {ll:List (List Int)} {v:Value} (h:bf B w ll v) (b:Below w.heap.size w w'):bf B w' ll v:=by
 obtain⟨us,h1,h2,h3⟩:=h;refine⟨us,az b B _ _ _ _ _ h1,h2,fun i l hl=> ?_⟩;obtain⟨u,k1,k2⟩:=h3 i l hl;exact⟨u,k1,az b B _ _ _ _ _ k2⟩
theorem bf.base {B B':Nat} {w:World} {ll:List (List Int)} {v:Value} (h:bf B w ll v) (hB:B'≤B):bf B' w ll v:=by
 obtain⟨us,h1,h2,h3⟩:=h;refine⟨us,aL h1 hB,h2,fun i l hl=> ?_⟩;obtain⟨u,k1,k2⟩:=h3 i l hl;exact⟨u,k1,aL k2 hB⟩
theorem bf.len {B:Nat} {w:World} {ll:List (List Int)} {v:Value} (h:bf B w ll v):∃ao c,v= .slice ao ll.length c:=by
 obtain⟨us,h1,_⟩:=h;exact aI h1
theorem bf.step {B:Nat} {wr w2:World} {ll:List (List Int)} {l:List Int} {v v' u:Value} {us:List Value} {o:Obj} (h1:wr.ownsRow B 26 1 v ll.length us)
  (h:us.length=ll.length∧∀(i:Nat) (l:List Int),ll[i]? =some l→∃u,us[i]? =some u∧wr.ownsRow B 3 1 u l.length (ints l)) (hu:wr.ownsRow B 3 1 u l.length (ints l))
  (own:w2.ownsRow B 26 1 v' (ll.length+1) (us ++ [u])) (hg:(wr.alloc o).grownBy w2 v.ownBlock):bf B w2 (ll ++ [l]) v':=by
 obtain⟨h2,h3⟩:=h;refine⟨us ++ [u],by simpa using own,by simp [h2],fun i m hm=> ?_⟩;have other:∀(x:Value) (n:Nat) (xs:List Value),wr.ownsRow B 3 1 x n xs→w2.ownsRow B 3 1 x n xs:=fun x n xs hx=>eP hg (h1.alloc o) (by decide) x n xs (hx.alloc o);by_cases hi:i < ll.length
 ·rw [List.getElem?_append_left hi] at hm;obtain⟨y,k1,k2⟩:=h3 i m hm;exact⟨y,by rw [List.getElem?_append_left (by omega)];exact k1,other _ _ _ k2⟩
 ·rw [List.getElem?_append_right (by omega)] at hm;have hi2:i - ll.length=0:=by
   have:=(List.getElem?_eq_some_iff.1 hm).1;simp at this;omega
  rw [hi2] at hm;simp at hm;subst hm;exact⟨u,by rw [List.getElem?_append_right (by omega),h2,hi2];rfl,other _ _ _ hu⟩
theorem sB {a:Value} (h:a.oneCell'=true):∀u∈ [a],u.oneCell'=true:=by
 intro u hu;simp only [List.mem_singleton] at hu;subst hu;exact h
theorem wY (nm:List UInt8) (ps:List Int) (rt pl:Int) (bl:List (List Ins)) (ao bo:Option Addr) (c cb:Nat) (w:World)
  (hv:bS w (nm,ps,rt,bl,pl) (.agg #[.string (bs nm),.slice ao ps.length c,.int .i64 rt,.slice bo bl.length cb,.int .i64 pl])) (hF:Ful (nm,ps,rt,bl,pl)):
  Calls Tryz.prog 138 #[.agg #[.string (bs nm),.slice ao ps.length c,.int .i64 rt,.slice bo bl.length cb,.int .i64 pl]] w fun e w'=>∃v,e= .returned v∧bf w.heap.size w' (aC (nm,ps,rt,bl,pl)) v∧Below w.heap.size w w':=by
 obtain⟨i0,hi0,hz0,hz1,hz2⟩:=info_parts Tryz.sx;have b0:=af w (.cells #[.string (bs nm),.slice ao ps.length c,.int .i64 rt,.slice bo bl.length cb,.int .i64 pl] 29);have X0:=aa (L5.Box.new w [.string (bs nm),.slice ao ps.length c,.int .i64 rt,.slice bo bl.length cb,.int .i64 pl] 29);have HV:=aa (hv.below b0);have B0:=aa b0;have HFu:=aa hF;have hbl:bl.length≤1000000:=hF.1;clear b0 hv hF;go_enter Tryz.func138,Tryz.ntmps138
 go_upto_region 1 with fail
 show Code.wp _ _ _ _ (w.alloc (.cells #[.string (bs nm),.slice ao ps.length c,.int .i64 rt,.slice bo bl.length cb,.int .i64 pl] 29));replace X0:Hid (L5.Box (w.alloc (.cells #[.string (bs nm),.slice ao ps.length c,.int .i64 rt,.slice bo bl.length cb,.int .i64 pl] 29)) w.heap.size [.string (bs nm),.slice ao ps.length c,.int .i64 rt,.slice bo bl.length cb,.int .i64 pl]):=X0;generalize w.alloc (.cells #[.string (bs nm),.slice ao ps.length c,.int .i64 rt,.slice bo bl.length cb,.int .i64 pl] 29)=W at *;go_wp2_with fail
 go_loopw [3,4] (fun v i wr=>∃K:Nat,K≤bl.length∧i= .int .i64 K∧Hid (bf W.heap.size wr ((aC (nm,ps,rt,bl,pl)).take K) v)∧Hid (Below W.heap.size W wr)) (fun _ i _=>bl.length - (intOf i).toNat)
 case atStart=>exact⟨0,Nat.zero_le _,rfl,aa (bf.nil _ _),aa (Below.refl _ _)⟩
 case round=>
  obtain⟨K,hK,rfl,HR,HW⟩:=hrel;obtain⟨x0,x1,x2,x3,x4⟩:_∧_∧_∧_∧_:=⟨(X0.out.below HW.out).2 0 _ rfl,(X0.out.below HW.out).2 1 _ rfl,(X0.out.below HW.out).2 2 _ rfl,(X0.out.below HW.out).2 3 _ rfl,(X0.out.below HW.out).2 4 _ rfl⟩;by_cases hkt:K < bl.length
  ·have hkI:(K:Int) < bl.length:=(by omega);have hsk:Hid ((aC (nm,ps,rt,bl,pl)).take (K+1)=(aC (nm,ps,rt,bl,pl)).take K ++ [aB (nm,ps,rt,bl,pl) K]):=aa (by
    have hb:bl[K]? =some bl[K]:=List.getElem?_eq_getElem hkt;refine aR ?_;rw [hU (f:=(nm,ps,rt,bl,pl)) hb];show(bl.map _)[K]? =_;rw [List.getElem?_map,hb];rfl)
   have hlen:((aC (nm,ps,rt,bl,pl)).take K).length=K:=(by simp [aC];omega);obtain⟨vo,vc,rfl⟩:=HR.out.len;have HN:=aa (mg (nm,ps,rt,bl,pl) K _ wr (HV.out.below HW.out) HFu.out hkt);generalize aB (nm,ps,rt,bl,pl) K=l at *;go_wp2_with fail
   refine HN.out.mono ?_;rintro e w1 ⟨u,rfl,hu,b1⟩;have HR1:=aa (HR.out.below b1);have HW1:=aa (ae HW.out b1);have HU:=aa (aL hu HW.out.size);obtain⟨us,ho,hus⟩:=HR1.out;obtain⟨uo,uc,rfl⟩:=aI hu;have hWs:=HW1.out.size;clear x0 x1 x2 x3 x4 hu b1;have ho2:=ho;rw [hlen] at ho2;go_wp2_with (at_builtin;refine wpList_append_own _ rfl (.tmp 12) (.tmp 16) 65 rfl W.heap.size 26 i0 _ 1 24 Tryz.underlying65 hi0 hz0 hz1 hz2 rfl (by decide) _ _ _ rfl (ho2.alloc _) ⟨w1.heap.size,0,none⟩ 1 1 [.slice uo l.length uc] rfl rfl one_cell (sB rfl) (by unfold maxLen;omega) (by omega) (by simp;omega) ?_;intro v2 w2 own2 grow2 _)
   have HE:Hid (bf W.heap.size w2 ((aC (nm,ps,rt,bl,pl)).take (K+1)) v2):=aa (by
    rw [hsk.out];exact bf.step ho hus HU.out (by rw [hlen];exact own2) (by rw [hlen];exact grow2))
   have HW2:Hid (Below W.heap.size W w2):=aa (by
    refine Below.grown (HW1.out.alloc HW1.out.size _) grow2 (by simp;omega) ?_;intro k hk;exact(ho2.lt k hk).1)
   clear own2 grow2;go_wp2_with fail
   go_roundw
   case rel=>exact⟨K+1,by omega,by go_num,HE,HW2⟩
   case measure=>simp [intOf];omega
  ·obtain rfl:K=bl.length:=(by omega);have HE:Hid (bf W.heap.size wr (aC (nm,ps,rt,bl,pl)) _):=aa (by have:=HR.out;rwa [List.take_of_length_le (by simp [aC])] at this);have HE2:=aa (HE.out.base B0.out.size);go_wp2_with fail
   go_ret;exact⟨_,rfl,HE2.out,ae B0.out HW.out⟩
def Num (n:Nat) (l:List Int):Prop:=∀m∈l,0≤m∧m < n
theorem cH:∀(n:Nat) (l:List Int),l.Nodup→Num n l→l.length≤n:=by
 intro n;induction n with
 |zero=>
  intro l _ h
  cases l with
  |nil=>simp
  |cons m l=>have:=h m (by simp);omega
 |succ n ih=>
  intro l hn h;have h1:=ih (l.erase (n:Int)) (hn.erase _) (fun m hm=>by
   have h2:=(hn.mem_erase_iff).1 hm;have h3:=h m h2.2;have h4:m≠(n:Int):=h2.1;omega)
  have h2:=List.length_erase (a:=(n:Int)) (l:=l);split at h2 <;> omega
def cg (f:Fun):Nat→Int→List Int→List Int→List Int
 |0,_,done,_=>done
 |N+1,k,done,op=>(aB f k.toNat).foldl (fun out m=>if ay out m || ay (op ++ [k]) m then out else cg f N m out (op ++ [k])) done ++ [k]
def ky (f:Fun) (N:Nat) (path out:List Int) (m:Int):List Int:=if ay out m || ay path m then out else cg f N m out path
def cO (f:Fun) (N:Nat) (path done l:List Int):List Int:=l.foldl (ky f N path) done
theorem ek (f:Fun) (N:Nat) (k:Int) (done op:List Int):cg f (N+1) k done op=cO f N (op ++ [k]) done (aB f k.toNat) ++ [k]:=rfl
theorem xa {f:Fun} {N:Nat} {path done l:List Int} {i:Nat} {m:Int} (h:l[i]? =some m):cO f N path done (l.take (i+1))=ky f N path (cO f N path done (l.take i)) m:=by
 unfold cO;rw [aR h,List.foldl_append];rfl
theorem iq {f:Fun} {N:Nat} {path out:List Int} {m:Int} (h:ay out m=true∨ay path m=true):ky f N path out m=out:=by
 unfold ky;rcases h with h | h <;> simp [h]
theorem ij {f:Fun} {N:Nat} {path out:List Int} {m:Int} (h1:ay out m=false) (h2:ay path m=false):ky f N path out m=cg f N m out path:=by
 unfold ky;simp [h1,h2]
def Tos (f:Fun):Prop:=∀j,Num f.2.2.2.1.length (aB f j)
def Ext (n:Nat) (done op out:List Int):Prop:=∃e,out=done ++ e∧e.Nodup∧∀m∈e,(0≤m∧m < n)∧m ∉ done∧m ∉ op
theorem Ext.refl (n:Nat) (done op:List Int):Ext n done op done:=⟨[],by simp,List.nodup_nil,by simp⟩
theorem Ext.trans {n:Nat} {a b c op:List Int} (h:Ext n a op b) (k:Ext n b op c):Ext n a op c:=by
 obtain⟨e,rfl,h1,h2⟩:=h;obtain⟨d,rfl,k1,k2⟩:=k;refine⟨e ++ d,by simp,List.nodup_append.2 ⟨h1,k1,?_⟩,?_⟩
 ·rintro x hx y hy rfl;exact(k2 x hy).2.1 (by simp [hx])
 ·intro m hm;rcases List.mem_append.1 hm with hm | hm
  ·exact h2 m hm
  ·exact⟨(k2 m hm).1,fun h=>(k2 m hm).2.1 (by simp [h]),(k2 m hm).2.2⟩
theorem Ext.one {n:Nat} {a b op:List Int} {k:Int} (h:Ext n a (op ++ [k]) b) (hk:0≤k∧k < n) (ha:k ∉ a) (ho:k ∉ op):Ext n a op (b ++ [k]):=by
 obtain⟨e,rfl,h1,h2⟩:=h;refine⟨e ++ [k],by simp,List.nodup_append.2 ⟨h1,by simp,?_⟩,?_⟩
 ·rintro x hx y hy rfl;simp at hy;exact(h2 x hx).2.2 (by simp [hy])
 ·intro m hm;rcases List.mem_append.1 hm with hm | hm
  ·exact⟨(h2 m hm).1,(h2 m hm).2.1,fun h=>(h2 m hm).2.2 (by simp [h])⟩
  ·simp at hm;subst hm;exact⟨hk,ha,ho⟩
theorem eE {l:List Int} {n:Int}:ay l n=false↔n ∉ l:=by
 rw [←aZ];simp
theorem uV {f:Fun} (hT:Tos f):∀(N:Nat) (k:Int) (done op:List Int),(0≤k∧k < f.2.2.2.1.length)→k ∉ done→k ∉ op→Ext f.2.2.2.1.length done op (cg f N k done op):=by
 intro N;induction N with
 |zero=>intro k done op _ _ _;exact Ext.refl _ _ _
 |succ N ih=>
  intro k done op hk hd ho;rw [ek];refine Ext.one ?_ hk hd ho;have key:∀(l out:List Int),Num f.2.2.2.1.length l→Ext f.2.2.2.1.length done (op ++ [k]) out→Ext f.2.2.2.1.length done (op ++ [k]) (cO f N (op ++ [k]) out l):=by
   intro l;induction l with
   |nil=>intro out _ h;exact h
   |cons m l ih2=>
    intro out hl h;refine ih2 _ (fun x hx=>hl x (by simp [hx])) ?_;by_cases hc:ay out m=true∨ay (op ++ [k]) m=true
    ·rw [iq hc];exact h
    ·have hc1:ay out m=false:=(by simpa using fun e=>hc (.inl e));have hc2:ay (op ++ [k]) m=false:=(by simpa using fun e=>hc (.inr e));rw [ij hc1 hc2];exact h.trans (ih m out (op ++ [k]) (hl m (by simp)) (eE.1 hc1) (eE.1 hc2))
  exact key _ _ (hT _) (Ext.refl _ _ _)
theorem sZ {f:Fun} (hT:Tos f) (N:Nat) (path done:List Int):∀(l out:List Int),Num f.2.2.2.1.length l→Ext f.2.2.2.1.length done path out→Ext f.2.2.2.1.length done path (cO f N path out l):=by
 intro l;induction l with
 |nil=>intro out _ h;exact h
 |cons m l ih2=>
  intro out hl h;refine ih2 _ (fun x hx=>hl x (by simp [hx])) ?_;by_cases hc:ay out m=true∨ay path m=true
  ·rw [iq hc];exact h
  ·have hc1:ay out m=false:=(by simpa using fun e=>hc (.inl e));have hc2:ay path m=false:=(by simpa using fun e=>hc (.inr e));rw [ij hc1 hc2];exact h.trans (uV hT N m out path (hl m (by simp)) (eE.1 hc1) (eE.1 hc2))
theorem Ext.num {n:Nat} {done op out:List Int} (h:Ext n done op out) (hd:done.Nodup) (hn:Num n done):out.Nodup∧Num n out:=by
 obtain⟨e,rfl,h1,h2⟩:=h;refine⟨List.nodup_append.2 ⟨hd,h1,?_⟩,?_⟩
 ·rintro x hx y hy rfl;exact(h2 x hy).2.1 hx
 ·intro m hm;rcases List.mem_append.1 hm with hm | hm
  ·exact hn m hm
  ·exact(h2 m hm).1
theorem lM (l:List Int):∀u∈ints l,u.oneCell'=true:=by
 intro u hu;obtain⟨m,_,rfl⟩:=List.mem_map.1 hu;rfl
theorem jJ {w:World} {ops:Array Oper} {rest:List Oper} {o:Oper} {a:Act} {Q:Exit→Act→World→Prop} (hgd:o.guard=none) (s x:Operand)
  (ho:o.op= .call {callee:= .builtin .append,args:= #[s,x],argTypes:= #[26,26]}) (base B:Nat) (v vx:Value) (n:Nat) (xs:List Value) (l:List Int)
  (hs:a.eval s=v) (hown:w.ownsRow base 3 1 v n xs) (hx:a.eval x=vx) (hl:w.ownsRow B 3 1 vx l.length (ints l)) (h63:n+l.length≤4000000) (hbase:base≤w.heap.size)
  (h:∀v' w',w'.ownsRow base 3 1 v' (n+l.length) (xs ++ ints l)→w.grownBy w' v.ownBlock→wpList Tryz.prog ops Q rest (a.put o.dst v') w'):wpList Tryz.prog ops Q (o :: rest) a w:=by
 obtain⟨i0,hi0,hz0,hz1,hz2⟩:=info_parts Tryz.cU;rcases bY hl with ⟨rfl,hn⟩ | ⟨g,cap,rfl,h1,h2,h3,h4,h5,h6⟩
 ·refine wpList_append_own_none hgd s x 26 ho base 3 i0 1 Tryz.underlying26 hi0 v n xs hs hown hx ?_;refine h v w ?_ (World.grownBy.refl _ _);have e:l= []:=List.length_eq_zero_iff.1 hn;subst e;simpa [ints] using hown
 ·refine wpList_append_own w hgd s x 26 ho base 3 i0 _ 1 8 Tryz.underlying26 hi0 hz0 hz1 hz2 rfl (by decide) v n xs hs hown ⟨g,0,none⟩ l.length cap (ints l) hx (by simp [ints]) ?_ (lM l) (by unfold maxLen;omega) (by omega) hbase ?_
  ·intro j u hj;rw [Addr.add_lit,Nat.zero_add];exact h5 j u hj
  ·intro v' w' k1 k2 _;exact h v' w' k1 k2
theorem j8 {f:Fun} (hF:Ful f) {k:Nat} (hk:k < f.2.2.2.1.length):(aB f k).length≤1000000:=by
 have hb:f.2.2.2.1[k]? =some f.2.2.2.1[k]:=List.getElem?_eq_getElem hk;obtain⟨x,hx,hl,h63⟩:=hF.last (List.mem_of_getElem? hb);rw [hU hb,hl];exact Nat.le_trans (mY _) h63
theorem zL (nm:List UInt8) (ps:List Int) (rt pl:Int) (bl:List (List Ins)) (ao bo:Option Addr) (c cb:Nat) (hF:Ful (nm,ps,rt,bl,pl)) (hT:Tos (nm,ps,rt,bl,pl)):∀(N k:Nat) (done op:List Int) (vd vo:Value) (w:World),
  bS w (nm,ps,rt,bl,pl) (.agg #[.string (bs nm),.slice ao ps.length c,.int .i64 rt,.slice bo bl.length cb,.int .i64 pl])→
  w.ownsRow 0 3 1 vd done.length (ints done)→w.ownsRow 0 3 1 vo op.length (ints op)→N+op.length=bl.length→(op.Nodup∧Num bl.length op)→(done.Nodup∧Num bl.length done)→k < bl.length→(k:Int) ∉ done→(k:Int) ∉ op→
  Calls Tryz.prog 170 #[.agg #[.string (bs nm),.slice ao ps.length c,.int .i64 rt,.slice bo bl.length cb,.int .i64 pl],.int .i64 k,vd,vo] w fun e w'=>∃v,e= .returned v∧w'.ownsRow w.heap.size 3 1 v (cg (nm,ps,rt,bl,pl) N k done op).length (ints (cg (nm,ps,rt,bl,pl) N k done op))∧Below w.heap.size w w':=by
 intro N;induction N with
 |zero=>
  intro k done op vd vo w _ _ _ hN ho _ hk _ hko;exfalso;have h1:=cH bl.length ((k:Int) :: op) (List.nodup_cons.2 ⟨hko,ho.1⟩) (fun m hm=>by
   rcases List.mem_cons.1 hm with rfl | hm
   ·omega
   ·exact ho.2 m hm)
  simp at h1;omega
 |succ N ih=>
  intro k done op vd vo w hv hd ho hN hon hdn hk hkd hko;have IH:=aa ih;clear ih;obtain⟨do',dc,rfl⟩:=aI hd;obtain⟨oo,oc,rfl⟩:=aI ho;obtain⟨i0,hi0,hz0,hz1,hz2⟩:=info_parts Tryz.cU;have b0:=af w (.cells #[.string (bs nm),.slice ao ps.length c,.int .i64 rt,.slice bo bl.length cb,.int .i64 pl] 29);have X0:=aa (L5.Box.new w [.string (bs nm),.slice ao ps.length c,.int .i64 rt,.slice bo bl.length cb,.int .i64 pl] 29);have HV:=aa (hv.below b0);have HD:=aa (az b0 _ _ _ _ _ _ hd);have HO:=aa (az b0 _ _ _ _ _ _ ho);have B0:=aa b0;have HFu:=aa hF;have HT:=aa hT;have hbl:bl.length≤1000000:=hF.1;have hop:op.length+1≤bl.length:=by omega
  have hdl:done.length≤bl.length:=cH _ _ hdn.1 hdn.2;have HON:=aa hon;have HDN:=aa hdn;have HKD:=aa hkd;have HKO:=aa hko;have HN:=aa hN;clear b0 hv hF hT hd ho hon hdn hkd hko hN;obtain⟨path,hpa⟩:∃path,path=op ++ [(k:Int)]:=⟨_,rfl⟩;obtain⟨l,hle⟩:∃l,l=aB (nm,ps,rt,bl,pl) k:=⟨_,rfl⟩;have HPN:Hid (path.Nodup∧Num bl.length path):=aa (by
   rw [hpa];refine⟨List.nodup_append.2 ⟨HON.out.1,by simp,by rintro x hx y hy rfl;simp at hy;exact HKO.out (hy ▸ hx)⟩,?_⟩;intro m hm;rcases List.mem_append.1 hm with hm | hm
   ·exact HON.out.2 m hm
   ·simp at hm;subst hm;omega)
  have HPL:Hid (N+path.length=bl.length):=aa (by have:=HN.out;rw [hpa];simp;omega);have hpl:path.length≤bl.length:=by rw [hpa];simp;omega
  rw [ek,Int.toNat_natCast,←hpa,←hle];have HPA:=aa hpa;have hll:l.length≤1000000:=by rw [hle];exact j8 HFu.out hk
  have HLE:=aa hle;clear hpa hle;go_enter Tryz.func170,Tryz.ntmps170
  go_upto_region 1 with fail
  show Code.wp _ _ _ _ (w.alloc (.cells #[.string (bs nm),.slice ao ps.length c,.int .i64 rt,.slice bo bl.length cb,.int .i64 pl] 29));replace X0:Hid (L5.Box (w.alloc (.cells #[.string (bs nm),.slice ao ps.length c,.int .i64 rt,.slice bo bl.length cb,.int .i64 pl] 29)) w.heap.size [.string (bs nm),.slice ao ps.length c,.int .i64 rt,.slice bo bl.length cb,.int .i64 pl]):=X0;generalize w.alloc (.cells #[.string (bs nm),.slice ao ps.length c,.int .i64 rt,.slice bo bl.length cb,.int .i64 pl] 29)=W at *;have hB0:=B0.out.size;go_wp2_with (at_builtin;refine jJ rfl (.tmp 14) (.tmp 15) rfl W.heap.size 0 (.slice none 0 0) _ 0 [] op rfl (World.ownsRow_nil _ _ _ _) rfl HO.out (by omega) (Nat.le_refl _) ?_;intro v1 w1 own1 grow1;refine Hid.out ?_)
  have G1:Hid (w1.ownsRow W.heap.size 3 1 v1 op.length (ints op)∧Below W.heap.size W w1):=aa ⟨by simpa using own1,Below.grown (Below.refl _ _) grow1 (Nat.le_refl _) (by intro b hb;simp [Value.ownBlock] at hb)⟩;clear own1 grow1;have hs1:=G1.out.2.size;refine aa ?_;go_wp2_with (at_builtin;refine wpList_append_own _ rfl (.tmp 17) (.tmp 19) 26 rfl W.heap.size 3 i0 _ 1 8 Tryz.underlying26 hi0 hz0 hz1 hz2 rfl (by decide) _ _ _ rfl (G1.out.1.alloc _) ⟨w1.heap.size,0,none⟩ 1 1 [.int .i64 k] rfl rfl one_cell one_one (by unfold maxLen;omega) (by omega) (by simp;omega) ?_;intro v2 w2 own2 grow2 _;refine Hid.out ?_)
  have G2:Hid (Grw W path v2 w2):=aa (by rw [HPA.out];exact Grw.step G1.out own2 grow2);clear own2 grow2 G1 hs1;have X2:=aa (X0.out.below G2.out.2);obtain⟨x0,x1,x2,x3,x4⟩:_∧_∧_∧_∧_:=⟨X2.out.2 0 _ rfl,X2.out.2 1 _ rfl,X2.out.2 2 _ rfl,X2.out.2 3 _ rfl,X2.out.2 4 _ rfl⟩;have HNx:=aa (mg (nm,ps,rt,bl,pl) k _ w2 (HV.out.below G2.out.2) HFu.out hk);have HNu:=aa (HT.out k);rw [←HLE.out] at HNx HNu;clear HLE HPA HON HKO HN hop;refine aa ?_;go_wp2_with fail
  refine HNx.out.mono ?_;rintro e w3 ⟨u,rfl,hu,b3⟩;have G3:Hid (Grw W path v2 w3):=aa ⟨az b3 _ _ _ _ _ _ G2.out.1,ae G2.out.2 b3⟩;obtain⟨uo,uc,rfl⟩:=aI hu;obtain⟨vo2,vc2,rfl⟩:=aI G3.out.1;have HL:=aa (aL hu (Nat.zero_le _));clear x0 x1 x2 x3 x4 hu b3 G2 X2 HNx;go_wp2_with fail
  go_loopw [10,12] (fun v i wr=>∃I:Nat,I≤l.length∧i= .int .i64 I∧Hid (wr.ownsRow 0 3 1 v (cO (nm,ps,rt,bl,pl) N path done (l.take I)).length (ints (cO (nm,ps,rt,bl,pl) N path done (l.take I))))∧Hid (Below w3.heap.size w3 wr)) (fun _ i _=>l.length - (intOf i).toNat)
  case atStart=>exact⟨0,Nat.zero_le _,rfl,aa (az G3.out.2 _ _ _ _ _ _ HD.out),aa (Below.refl _ _)⟩
  case round=>
   obtain⟨I,hI,rfl,HG,HB⟩:=hrel;by_cases hit:I < l.length
   ·obtain⟨m,hm⟩:∃m,l[I]? =some m:=⟨l[I],List.getElem?_eq_getElem hit⟩;have hiI:(I:Int) < l.length:=(by omega);have HTk:=aa (xa (f:=(nm,ps,rt,bl,pl)) (N:=N) (path:=path) (done:=done) hm);have HEx:Hid (Ext bl.length done path (cO (nm,ps,rt,bl,pl) N path done (l.take I))):=aa (sZ HT.out N path done _ _ (fun x hx=>HNu.out x (List.mem_of_mem_take hx)) (Ext.refl _ _ _));have hm0:=HNu.out m (List.mem_of_getElem? hm);have hm1:m < bl.length:=hm0.2;have hm2:0≤m:=hm0.1;have HLw:=aa (az HB.out _ _ _ _ _ _ HL.out);have HPw:=aa (az HB.out _ _ _ _ _ _ G3.out.1);rcases bY HLw.out with ⟨e0,hn⟩ | ⟨gl,capl,e0,l1,l2,l3,l4,l5,l6⟩
    ·omega
    injection e0 with e1 e2 e3;subst e1 e3;have c1:=l5 I _ (ints_at hm);have HWw:=aa (ae G3.out.2 HB.out);generalize hout:cO (nm,ps,rt,bl,pl) N path done (l.take I)=out at *;obtain⟨go,oc2,rfl,so1,so2,so3⟩:=fe HG.out;obtain⟨gp,pc2,e0,sp1,sp2,sp3⟩:=fe HPw.out;injection e0 with e1 e2 e3;subst e1 e3;have HH1:=aa (dr out m go oc2 wr so1 (Nat.le_trans so2 so3));have HH2:=aa (dr path m vo2 vc2 wr sp1 (Nat.le_trans sp2 sp3));clear so1 so2 so3 sp1 sp2 sp3 l1 l2 l3 l5 l6 hm hm0 hout e2;go_wp2_with fail
    refine HH1.out.mono ?_;rintro e w8 ⟨rfl,rfl⟩
    cases h1:ay out m with
    |true=>
     have HE:=HTk.out;rw [iq (.inl h1)] at HE;replace HE:=aa HE;replace h1:=aa h1;go_wp2_with fail
     go_roundw
     case rel=>exact⟨I+1,by omega,by go_num,by rw [HE.out];exact HG,HB⟩
     case measure=>simp [intOf];omega
    |false=>
     go_wp2_with fail
     refine HH2.out.mono ?_;rintro e w9 ⟨rfl,rfl⟩
     cases h2:ay path m with
     |true=>
      have HE:=HTk.out;rw [iq (.inr h2)] at HE;replace HE:=aa HE;replace h1:=aa h1;replace h2:=aa h2;go_wp2_with fail
      go_roundw
      case rel=>exact⟨I+1,by omega,by go_num,by rw [HE.out];exact HG,HB⟩
      case measure=>simp [intOf];omega
     |false=>
      have HE:=HTk.out;rw [ij h1 h2] at HE;replace HE:=aa HE;have hmn:((m.toNat:Nat):Int)=m:=(by omega);have hmb:m.toNat < bl.length:=(by omega);have HC:Hid (Calls Tryz.prog 170 #[.agg #[.string (bs nm),.slice ao ps.length c,.int .i64 rt,.slice bo bl.length cb,.int .i64 pl],.int .i64 m,.slice go out.length oc2,.slice vo2 path.length vc2] w9.drew fun e w'=>∃v,e= .returned v∧w'.ownsRow w9.drew.heap.size 3 1 v (cg (nm,ps,rt,bl,pl) N m out path).length (ints (cg (nm,ps,rt,bl,pl) N m out path))∧Below w9.drew.heap.size w9.drew w'):=aa (by
       have bd:=L5.aW w9;have:=IH.out m.toNat out path (.slice go out.length oc2) (.slice vo2 path.length vc2) w9.drew (HV.out.below (ae HWw.out bd)) (az bd _ _ _ _ _ _ HG.out) (az bd _ _ _ _ _ _ (aL HPw.out (Nat.zero_le _))) HPL.out HPN.out (HEx.out.num HDN.out.1 HDN.out.2) hmb (by rw [hmn];exact eE.1 h1) (by rw [hmn];exact eE.1 h2);rwa [hmn] at this)
      replace h1:=aa h1;replace h2:=aa h2;have q0:w.heap.size < w9.heap.size:=(X0.out.below HWw.out).1;obtain⟨x0,x1,x2,x3,x4⟩:_∧_∧_∧_∧_:=⟨(X0.out.below HWw.out).2 0 _ rfl,(X0.out.below HWw.out).2 1 _ rfl,(X0.out.below HWw.out).2 2 _ rfl,(X0.out.below HWw.out).2 3 _ rfl,(X0.out.below HWw.out).2 4 _ rfl⟩;go_wp2_with fail
      go_region_held3 (fun w'=>w'.cell? ⟨w.heap.size,0,none⟩=some (.string (bs nm))∧w'.cell? ⟨w.heap.size,1,none⟩=some (.slice ao ps.length c)∧w'.cell? ⟨w.heap.size,2,none⟩=some (.int .i64 rt)∧w'.cell? ⟨w.heap.size,3,none⟩=some (.slice bo bl.length cb)∧w'.cell? ⟨w.heap.size,4,none⟩=some (.int .i64 pl)∧w'.cell? ⟨gl,I,none⟩=some (.int .i64 m))
       (first
        |(go_keep;done)
        |(exact⟨(b9.cell (p:=⟨_,_,none⟩) q0).trans x0,(b9.cell (p:=⟨_,_,none⟩) q0).trans x1,(b9.cell (p:=⟨_,_,none⟩) q0).trans x2,(b9.cell (p:=⟨_,_,none⟩) q0).trans x3,(b9.cell (p:=⟨_,_,none⟩) q0).trans x4,(b9.cell (p:=⟨_,_,none⟩) l4).trans c1⟩))
       ((first
        |(go_at_call 170;refine HC.out.mono ?_;rintro e wA ⟨v9,rfl,o9,b9⟩)))
      have bA:=Below.xu b9;have HE2:Hid (wA.ownsRow 0 3 1 v9 (cO (nm,ps,rt,bl,pl) N path done (l.take (I+1))).length (ints (cO (nm,ps,rt,bl,pl) N path done (l.take (I+1))))):=aa (by rw [HE.out];exact aL o9 (Nat.zero_le _));have HB2:=aa (ae HB.out bA);clear o9 b9 bA;go_wp2_with fail
      go_roundw
      case rel=>exact⟨I+1,by omega,by go_num,HE2,HB2⟩
      case measure=>simp [intOf];omega
   ·obtain rfl:I=l.length:=(by omega);have hex:Ext bl.length done path (cO (nm,ps,rt,bl,pl) N path done l):=sZ HT.out N path done _ _ HNu.out (Ext.refl _ _ _);have hol:(cO (nm,ps,rt,bl,pl) N path done l).length≤bl.length:=cH _ _ (hex.num HDN.out.1 HDN.out.2).1 (hex.num HDN.out.1 HDN.out.2).2;replace HG:=HG.out;rw [List.take_length] at HG;obtain⟨out,hout⟩:∃out,out=cO (nm,ps,rt,bl,pl) N path done l:=⟨_,rfl⟩;rw [←hout] at HG hol;replace HG:=aa HG;have HOu:=aa hout;clear hex hout;have HWw:=aa (ae G3.out.2 HB.out);have hsW:=HWw.out.size;go_wp2_with (at_builtin;refine jJ rfl (.tmp 55) (.tmp 56) rfl W.heap.size 0 (.slice none 0 0) _ 0 [] out rfl (World.ownsRow_nil _ _ _ _) rfl HG.out (by omega) hsW ?_;intro v5 w5 own5 grow5;refine Hid.out ?_)
    have G5:Hid (Grw W out v5 w5):=aa ⟨by simpa using own5,Below.grown HWw.out grow5 hsW (by intro b hb;simp [Value.ownBlock] at hb)⟩;clear own5 grow5;have hs5:=G5.out.2.size;refine aa ?_;go_wp2_with (at_builtin;refine wpList_append_own _ rfl (.tmp 58) (.tmp 60) 26 rfl W.heap.size 3 i0 _ 1 8 Tryz.underlying26 hi0 hz0 hz1 hz2 rfl (by decide) _ _ _ rfl (G5.out.1.alloc _) ⟨w5.heap.size,0,none⟩ 1 1 [.int .i64 k] rfl rfl one_cell one_one (by unfold maxLen;omega) (by omega) (by simp;omega) ?_;intro v6 w6 own6 grow6 _;refine Hid.out ?_)
    have G6:Hid (Grw W (out ++ [(k:Int)]) v6 w6):=aa (Grw.step G5.out own6 grow6);clear own6 grow6 G5;have HF2:=aa (aL G6.out.1 hB0);rw [HOu.out] at HF2;refine aa ?_;go_wp2_with fail
    go_ret;exact⟨_,rfl,HF2.out,ae B0.out G6.out.2⟩
def aE (f:Fun):List Int:=(cg f f.2.2.2.1.length 0 [] []).reverse
theorem mJ {f:Fun} (hT:Tos f) (h0:0 < f.2.2.2.1.length):(cg f f.2.2.2.1.length 0 [] []).Nodup∧Num f.2.2.2.1.length (cg f f.2.2.2.1.length 0 [] []):=
 (uV hT _ 0 [] [] ⟨by omega,by omega⟩ (by simp) (by simp)).num List.nodup_nil (fun m hm=>by simp at hm)
theorem kG {f:Fun} (hT:Tos f) (h0:0 < f.2.2.2.1.length):(aE f).length≤f.2.2.2.1.length:=by
 unfold aE;rw [List.length_reverse];exact cH _ _ (mJ hT h0).1 (mJ hT h0).2
theorem Bi (f:Fun) (v:Value) (w:World) (hv:bS w f v) (hF:Ful f) (hT:Tos f) (h0:0 < f.2.2.2.1.length):
  Calls Tryz.prog 170 #[v,.int .i64 0,.slice none 0 0,.slice none 0 0] w fun e w'=>∃u,e= .returned u∧w'.ownsRow w.heap.size 3 1 u (cg f f.2.2.2.1.length 0 [] []).length (ints (cg f f.2.2.2.1.length 0 [] []))∧Below w.heap.size w w':=by
 obtain⟨nm,ps,rt,bl,pl⟩:=f;have hv2:=hv;obtain⟨vp,vb,rfl,⟨ao,c,rfl,h1,_⟩,h2⟩:=hv;obtain⟨bo,cb,rfl,_⟩:=h2;exact zL nm ps rt pl bl ao bo c cb hF hT bl.length 0 [] [] (.slice none 0 0) (.slice none 0 0) w hv2 (World.ownsRow_nil _ _ _ _) (World.ownsRow_nil _ _ _ _) (by simp) ⟨List.nodup_nil,fun m hm=>by simp at hm⟩ ⟨List.nodup_nil,fun m hm=>by simp at hm⟩ h0 (by simp) (by simp)
theorem EI {l:List Int} {i:Nat} {m:Int} (h:l[l.length - 1 - i]? =some m) (hi:i < l.length):l.reverse.take (i+1)=l.reverse.take i ++ [m]:=by
 refine aR ?_;rw [List.getElem?_reverse hi];exact h
theorem vV (nm:List UInt8) (ps:List Int) (rt pl:Int) (bl:List (List Ins)) (ao bo:Option Addr) (c cb:Nat) (w:World)
  (hv:bS w (nm,ps,rt,bl,pl) (.agg #[.string (bs nm),.slice ao ps.length c,.int .i64 rt,.slice bo bl.length cb,.int .i64 pl])) (hF:Ful (nm,ps,rt,bl,pl)) (hT:Tos (nm,ps,rt,bl,pl)) (h0:0 < bl.length):
  Calls Tryz.prog 133 #[.agg #[.string (bs nm),.slice ao ps.length c,.int .i64 rt,.slice bo bl.length cb,.int .i64 pl]] w fun e w'=>∃u,e= .returned u∧w'.ownsRow w.heap.size 3 1 u (aE (nm,ps,rt,bl,pl)).length (ints (aE (nm,ps,rt,bl,pl)))∧Below w.heap.size w w':=by
 obtain⟨i0,hi0,hz0,hz1,hz2⟩:=info_parts Tryz.cU;have b0:=af w (.cells #[.string (bs nm),.slice ao ps.length c,.int .i64 rt,.slice bo bl.length cb,.int .i64 pl] 29);have X0:=aa (L5.Box.new w [.string (bs nm),.slice ao ps.length c,.int .i64 rt,.slice bo bl.length cb,.int .i64 pl] 29);have HP:=aa (Bi (nm,ps,rt,bl,pl) _ _ (hv.below b0) hF hT h0);have B0:=aa b0;have hol:=kG hT h0;have hbl:bl.length≤1000000:=hF.1;unfold aE at hol ⊢;rw [List.length_reverse] at hol;replace hol:(cg (nm,ps,rt,bl,pl) bl.length 0 [] []).length≤bl.length:=hol;replace HP:Hid (Calls Tryz.prog 170 #[.agg #[.string (bs nm),.slice ao ps.length c,.int .i64 rt,.slice bo bl.length cb,.int .i64 pl],.int .i64 0,.slice none 0 0,.slice none 0 0] _ fun e w'=>∃u,e= .returned u∧w'.ownsRow _ 3 1 u (cg (nm,ps,rt,bl,pl) bl.length 0 [] []).length (ints (cg (nm,ps,rt,bl,pl) bl.length 0 [] []))∧Below _ _ w'):=HP;show Calls _ _ _ _ fun e w'=>∃u,e= .returned u∧w'.ownsRow w.heap.size 3 1 u (cg (nm,ps,rt,bl,pl) bl.length 0 [] []).reverse.length (ints (cg (nm,ps,rt,bl,pl) bl.length 0 [] []).reverse)∧Below w.heap.size w w';generalize cg (nm,ps,rt,bl,pl) bl.length 0 [] []=l at *;clear hv hF hT h0 b0;go_enter Tryz.func133,Tryz.ntmps133
 go_upto_region 1 with fail
 show Code.wp _ _ _ _ (w.alloc (.cells #[.string (bs nm),.slice ao ps.length c,.int .i64 rt,.slice bo bl.length cb,.int .i64 pl] 29));replace X0:Hid (L5.Box (w.alloc (.cells #[.string (bs nm),.slice ao ps.length c,.int .i64 rt,.slice bo bl.length cb,.int .i64 pl] 29)) w.heap.size [.string (bs nm),.slice ao ps.length c,.int .i64 rt,.slice bo bl.length cb,.int .i64 pl]):=X0;generalize w.alloc (.cells #[.string (bs nm),.slice ao ps.length c,.int .i64 rt,.slice bo bl.length cb,.int .i64 pl] 29)=W at *;obtain⟨x0,x1,x2,x3,x4⟩:_∧_∧_∧_∧_:=⟨X0.out.2 0 _ rfl,X0.out.2 1 _ rfl,X0.out.2 2 _ rfl,X0.out.2 3 _ rfl,X0.out.2 4 _ rfl⟩;go_wp2_with fail
 refine HP.out.mono ?_;rintro e w1 ⟨u,rfl,hu,b1⟩;have HU:=aa hu;have B1:=aa b1;obtain⟨uo,uc,rfl⟩:=aI hu;clear hu b1 HP x0 x1 x2 x3 x4;go_wp2_with fail
 go_loopw [4,5] (fun v i wr=>∃I:Nat,I≤l.length∧i= .int .i64 ((l.length:Int) - 1 - I)∧Hid (Grw w1 (l.reverse.take I) v wr)) (fun _ i _=>(intOf i+1).toNat)
 case atStart=>exact⟨0,Nat.zero_le _,by go_num,aa (Grw.start _)⟩
 case round=>
  obtain⟨I,hI,rfl,HG⟩:=hrel;by_cases hit:I < l.length
  ·obtain⟨m,hm⟩:∃m,l[l.length - 1 - I]? =some m:=⟨_,List.getElem?_eq_getElem (by omega)⟩;have HR:=aa (EI hm hit);rcases bY HU.out with ⟨e0,hn⟩ | ⟨gl,capl,e0,l1,l2,l3,l4,l5,l6⟩
   ·omega
   injection e0 with e1 e2 e3;subst e1 e3;have c1:=(HG.out.2.cell (p:=⟨gl,l.length - 1 - I,none⟩) l4).trans (l5 _ _ (ints_at hm));obtain⟨J,hJ⟩:∃J,J=l.length - 1 - I:=⟨_,rfl⟩;have hJI:(l.length:Int) - 1 - I=(J:Int):=(by omega);rw [←hJ] at c1;rw [hJI];have hlen:(l.reverse.take I).length=I:=(by simp;omega);have hWs:=HG.out.2.size;have hJl:(J:Int) < l.length:=(by omega);clear l1 l2 l3 l5 l6 hm e2 hJ;go_wp2_with (at_builtin;refine wpList_append_own _ rfl (.tmp 15) (.tmp 20) 26 rfl w1.heap.size 3 i0 _ 1 8 Tryz.underlying26 hi0 hz0 hz1 hz2 rfl (by decide) _ _ _ rfl (HG.out.1.alloc _) ⟨wr.heap.size,0,none⟩ 1 1 [.int .i64 m] rfl rfl one_cell one_one (by unfold maxLen;omega) (by omega) (by simp;omega) ?_;intro v2 w2 own2 grow2 _;refine Hid.out ?_)
   have HE:Hid (Grw w1 (l.reverse.take (I+1)) v2 w2):=aa (by rw [HR.out];exact HG.out.step own2 grow2);clear own2 grow2;refine aa ?_;go_wp2_with fail
   go_roundw
   case rel=>exact⟨I+1,by omega,by rw [←hJI];go_num,HE⟩
   case measure=>simp [intOf]
  ·obtain rfl:I=l.length:=(by omega);have HE:Hid (Grw w1 l.reverse _ wr):=aa (by have:=HG.out;rwa [List.take_of_length_le (by simp)] at this);have HF:=aa (aL HE.out.1 (Nat.le_trans B0.out.size B1.out.size));go_wp2_with fail
   go_ret;exact⟨_,rfl,HF.out,ae B0.out (ae B1.out HE.out.2)⟩
end Go.Proofs.YtaiaakklokahjaaGreatDoor
