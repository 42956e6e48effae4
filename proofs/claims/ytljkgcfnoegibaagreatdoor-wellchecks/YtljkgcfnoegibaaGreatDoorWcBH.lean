/- Texts of one chain, joined. -/
import Derived.Test.YtljkgcfnoegibaaGreatDoorWcAP
import Derived.Test.YtljkgcfnoegibaaGreatDoorWcAY
set_option maxHeartbeats 4000000
set_option maxRecDepth 20000
namespace Go.Proofs.YtljkgcfnoegibaaGreatDoor
open Go Go.RowKit
open G (Tok Er Ins Fun)
def ChN (g:Int→Int):Nat→Int→Int→Prop
 |0,a,b=>a=b
 |n+1,a,b=>g b≠ -1∧ChN g n a (g b)
def Ch (g:Int→Int) (a b:Int):Prop:=∃n,ChN g n a b
theorem Ch.refl (g:Int→Int) (a:Int):Ch g a a:=⟨0,rfl⟩
theorem Ch.up {g:Int→Int} {a b:Int} (h:g b≠ -1) (k:Ch g a (g b)):Ch g a b:=by
 obtain⟨n,k⟩:=k
 exact⟨n+1,h,k⟩
theorem Ch.cases {g:Int→Int} {a b:Int} (h:Ch g a b):a=b∨(g b≠ -1∧Ch g a (g b)):=by
 obtain⟨n,h⟩:=h
 cases n with
 |zero=>exact .inl h
 |succ n=>exact .inr ⟨h.1,n,h.2⟩
def Know (ll:List (List Int)) (g:Int→Int) (x:Int):Prop:=All ll x∧(x=0∨g x≠ -1)
def Wf (ll:List (List Int)) (pl g:Int→Int):Prop:=g 0= -1∧(∀x,¬All ll x→g x= -1)∧∀x,g x≠ -1→All ll x∧Know ll g (g x)∧pl (g x) < pl x
theorem Ch.le {ll:List (List Int)} {pl g:Int→Int} (hw:Wf ll pl g) {a b:Int} (h:Ch g a b):a=b∨pl a < pl b:=by
 have key:∀n a b,ChN g n a b→a=b∨pl a < pl b:=by
  intro n
  induction n with
  |zero=>intro a b h;exact .inl h
  |succ n ih=>
   rintro a b ⟨h1,h2⟩
   have h3:=(hw.2.2 b h1).2.2
   rcases ih a (g b) h2 with rfl | h4
   ·exact .inr h3
   ·exact .inr (by omega)
 obtain⟨n,h⟩:=h
 exact key n a b h
theorem Ch.ple {ll:List (List Int)} {pl g:Int→Int} (hw:Wf ll pl g) {a b:Int} (h:Ch g a b):pl a≤pl b:=by
 rcases h.le hw with rfl | h
 ·exact Int.le_refl _
 ·omega
theorem Ch.know {ll:List (List Int)} {pl g:Int→Int} (hw:Wf ll pl g) {a b:Int} (h:Ch g a b) (hb:Know ll g b):Know ll g a:=by
 have key:∀n a b,ChN g n a b→Know ll g b→Know ll g a:=by
  intro n
  induction n with
  |zero=>rintro a b rfl h;exact h
  |succ n ih=>
   rintro a b ⟨h1,h2⟩ _
   exact ih a (g b) h2 (hw.2.2 b h1).2.1
 obtain⟨n,h⟩:=h
 exact key n a b h hb
theorem Ch.zero {ll:List (List Int)} {pl g:Int→Int} (hw:Wf ll pl g) {z:Int} (h:Ch g z 0):z=0:=by
 rcases h.cases with h | ⟨h,_⟩
 ·exact h
 ·exact absurd hw.1 h
theorem Know.pl0 {ll:List (List Int)} {pl g:Int→Int} (ho:Ord ll pl) {x:Int} (h:Know ll g x):0≤pl x:=(ho.1 x).1 h.1
theorem Ch.iff {g:Int→Int} {b:Int} (h:g b≠ -1) (z:Int):Ch g z b↔z=b∨Ch g z (g b):=by
 constructor
 ·intro k
  rcases k.cases with e | e
  ·exact .inl e
  ·exact .inr e.2
 ·rintro (rfl | k)
  ·exact Ch.refl _ _
  ·exact Ch.up h k
theorem meet_step {ll:List (List Int)} {pl g:Int→Int} (ho:Ord ll pl) (hw:Wf ll pl g) {a b:Int} (ha:Know ll g a) (hb:Know ll g b) (h:pl b < pl a):
  g a≠ -1∧Know ll g (g a)∧pl (g a) < pl a∧∀z,(Ch g z a∧Ch g z b)↔(Ch g z (g a)∧Ch g z b):=by
 have hga:g a≠ -1:=by
  rcases ha.2 with rfl | h1
  ·have:=hb.pl0 ho;have:=ho.2.2.1;omega
  ·exact h1
 obtain⟨_,k2,k3⟩:=hw.2.2 a hga
 refine⟨hga,k2,k3,fun z=> ?_⟩
 rw [Ch.iff hga]
 constructor
 ·rintro ⟨rfl | h1,h2⟩
  ·have:=h2.ple hw;omega
  ·exact⟨h1,h2⟩
 ·rintro ⟨h1,h2⟩
  exact⟨.inr h1,h2⟩
def Sh (ll:List (List Int)) (g:Int→Int) (l:List Int) (x:Int):Prop:=(x= -1∧∀p∈l,¬Know ll g p)∨(Know ll g x∧(∃p∈l,Know ll g p)∧∀z,Ch g z x↔∀p∈l,Know ll g p→Ch g z p)
theorem Sh.nil (ll:List (List Int)) (g:Int→Int):Sh ll g [] (-1):= .inl ⟨rfl,by simp⟩
theorem Know.ne {ll:List (List Int)} (h:Gr ll) {g:Int→Int} {x:Int} (k:Know ll g x):x≠ -1:=by have:=k.1.num h;omega
theorem Sh.no {ll:List (List Int)} {g:Int→Int} {l:List Int} {x b:Int} (h:Sh ll g l x) (hb:¬Know ll g b):Sh ll g (l ++ [b]) x:=by
 rcases h with ⟨h1,h2⟩ | ⟨h1,⟨p,h2,h3⟩,h4⟩
 ·refine .inl ⟨h1,fun p hp=> ?_⟩
  rcases List.mem_append.1 hp with hp | hp
  ·exact h2 p hp
  ·simp at hp;subst hp;exact hb
 ·refine .inr ⟨h1,⟨p,by simp [h2],h3⟩,fun z=> ?_⟩
  rw [h4]
  constructor
  ·intro h p hp hk
   rcases List.mem_append.1 hp with hp | hp
   ·exact h p hp hk
   ·simp at hp;subst hp;exact absurd hk hb
  ·intro h p hp
   exact h p (by simp [hp])
theorem Sh.first {ll:List (List Int)} (hg:Gr ll) {g:Int→Int} {l:List Int} {b:Int} (h:Sh ll g l (-1)) (hb:Know ll g b):Sh ll g (l ++ [b]) b:=by
 rcases h with ⟨_,h2⟩ | ⟨h1,_⟩
 ·refine .inr ⟨hb,⟨b,by simp,hb⟩,fun z=>⟨fun hz p hp hk=> ?_,fun hz=>hz b (by simp) hb⟩⟩
  rcases List.mem_append.1 hp with hp | hp
  ·exact absurd hk (h2 p hp)
  ·simp at hp;subst hp;exact hz
 ·exact absurd rfl (h1.ne hg)
theorem Sh.more {ll:List (List Int)} {g:Int→Int} {l:List Int} {x b c:Int} (h:Sh ll g l x) (hx:x≠ -1) (hb:Know ll g b) (hc:Know ll g c) (hz:∀z,Ch g z c↔(Ch g z x∧Ch g z b)):Sh ll g (l ++ [b]) c:=by
 rcases h with ⟨h1,_⟩ | ⟨h1,⟨p,h2,h3⟩,h4⟩
 ·exact absurd h1 hx
 ·refine .inr ⟨hc,⟨p,by simp [h2],h3⟩,fun z=> ?_⟩
  rw [hz,h4]
  constructor
  ·rintro ⟨k1,k2⟩ p hp hk
   rcases List.mem_append.1 hp with hp | hp
   ·exact k1 p hp hk
   ·simp at hp;subst hp;exact k2
  ·intro k
   exact⟨fun p hp=>k p (by simp [hp]),k b (by simp) hb⟩
theorem Sh.known {ll:List (List Int)} {g:Int→Int} {l:List Int} {x:Int} (h:Sh ll g l x) (hx:x≠ -1):Know ll g x:=by
 rcases h with ⟨h1,_⟩ | ⟨h1,_⟩
 ·exact absurd h1 hx
 ·exact h1
def WayK (ll:List (List Int)) (pl:Int→Int) (z:Int):Nat→Nat→Int→Prop
 |0,_,m=>m=0∧m≠z
 |n+1,k,m=>∃b,m∈ll.getD b.toNat []∧m≠z∧((pl b < pl m∧WayK ll pl z n k b)∨∃k',k=k'+1∧WayK ll pl z n k' b)
theorem WayK.mono {ll:List (List Int)} {pl:Int→Int} {z:Int}:∀n k m,WayK ll pl z n k m→∀K,k≤K→WayK ll pl z n K m:=by
 intro n
 induction n with
 |zero=>intro k m h K _;exact h
 |succ n ih=>
  rintro k m ⟨b,h1,h2,h3⟩ K hK
  refine⟨b,h1,h2,?_⟩
  rcases h3 with ⟨h3,h4⟩ | ⟨k',rfl,h4⟩
  ·exact .inl ⟨h3,ih k b h4 K hK⟩
  ·exact .inr ⟨K - 1,by omega,ih k' b h4 _ (by omega)⟩
theorem WayK.rch {ll:List (List Int)} {pl:Int→Int} {z:Int}:∀n k m,WayK ll pl z n k m→Rch ll [0] z m:=by
 intro n
 induction n with
 |zero=>rintro k m ⟨rfl,h⟩;exact Rch.start (by simp) h
 |succ n ih=>
  rintro k m ⟨b,h1,h2,h3⟩
  rcases h3 with ⟨_,h4⟩ | ⟨k',_,h4⟩
  ·exact(ih k b h4).step h1 h2
  ·exact(ih k' b h4).step h1 h2
theorem WayK.of {ll:List (List Int)} (pl:Int→Int) {z m:Int} (h:Rch ll [0] z m):∃n k,WayK ll pl z n k m:=by
 have key:∀n m,WayN ll [0] z n m→WayK ll pl z n n m:=by
  intro n
  induction n with
  |zero=>rintro m ⟨h1,h2⟩;exact⟨by simpa using h1,h2⟩
  |succ n ih=>
   rintro m ⟨b,h1,h2,h3⟩
   exact⟨b,h2,h3,.inr ⟨n,rfl,ih b h1⟩⟩
 obtain⟨n,h⟩:=h
 exact⟨n,n,key n m h⟩
theorem WayK.part {ll:List (List Int)} {pl:Int→Int} {z:Int} (a:Int):∀n k m,WayK ll pl z n k m→WayK ll pl a n k m∨∃n',WayK ll pl z n' k a:=by
 intro n
 induction n with
 |zero=>
  rintro k m ⟨rfl,h⟩
  by_cases e:a=0
  ·subst e;exact .inr ⟨0,rfl,h⟩
  ·exact .inl ⟨rfl,fun e2=>e e2.symm⟩
 |succ n ih=>
  intro k m hm
  by_cases e:m=a
  ·subst e;exact .inr ⟨n+1,hm⟩
  ·obtain⟨b,h1,h2,h3⟩:=hm
   rcases h3 with ⟨h3,h4⟩ | ⟨k',rfl,h4⟩
   ·rcases ih k b h4 with q | q
    ·exact .inl ⟨b,h1,e,.inl ⟨h3,q⟩⟩
    ·exact .inr q
   ·rcases ih k' b h4 with q | ⟨n',q⟩
    ·exact .inl ⟨b,h1,e,.inr ⟨k',rfl,q⟩⟩
    ·exact .inr ⟨n',WayK.mono _ _ _ q _ (by omega)⟩
def Dd (ll:List (List Int)) (g:Int→Int):Prop:=∀x y,g x≠ -1→Ahd ll y x→y≠x→Ahd ll y (g x)
def Mis (ll:List (List Int)) (pl:Int→Int) (r:Nat) (g:Int→Int):Prop:=∀d z n k,All ll d→k < r→WayK ll pl z n k d→¬Ch g z d
def Rd (ll:List (List Int)) (pl:Int→Int) (r:Nat) (g:Int→Int):Prop:=Wf ll pl g∧(0 < r→∀x,All ll x→x≠0→g x≠ -1)∧Dd ll g∧Mis ll pl r g
def Mrd (ll:List (List Int)) (pl:Int→Int) (r i:Nat) (old g:Int→Int):Prop:=Wf ll pl g∧(∀x,All ll x→x≠0→pl x < i∨0 < r→g x≠ -1)∧Dd ll g∧(∀x,All ll x→(i:Int)≤pl x→g x=old x)∧
 (∀d z n k,All ll d→pl d < i→k≤r→WayK ll pl z n k d→¬Ch g z d)∧Mis ll pl r old
theorem Mrd.start {ll:List (List Int)} {pl:Int→Int} (ho:Ord ll pl) {r:Nat} {g:Int→Int} (h:Rd ll pl r g):Mrd ll pl r 0 g g:=by
 refine⟨h.1,fun x hx h0 hr=> ?_,h.2.2.1,fun _ _ _=>rfl,fun d z n k hd hp=> ?_,h.2.2.2⟩
 ·rcases hr with hr | hr
  ·have:=(ho.1 x).1 hx;omega
  ·exact h.2.1 hr x hx h0
 ·have:=(ho.1 d).1 hd;omega
theorem Mrd.zero {ll:List (List Int)} {pl:Int→Int} (ho:Ord ll pl) {r:Nat} {old g:Int→Int} (h:Mrd ll pl r 0 old g):Mrd ll pl r 1 old g:=by
 have hz:∀x,All ll x→pl x < (1:Nat)→x=0:=by
  intro x hx hp
  have h1:=(ho.1 x).1 hx
  have h2:=ho.2.2.1
  exact ho.2.1 x 0 hx (All.first _) (by omega)
 refine⟨h.1,fun x hx h0 hr=> ?_,h.2.2.1,fun x hx hp=>h.2.2.2.1 x hx (by omega),fun d z n k hd hp hk hway hc=> ?_,h.2.2.2.2.2⟩
 ·rcases hr with hr | hr
  ·exact absurd (hz x hx hr) h0
  ·exact h.2.1 x hx h0 (.inr hr)
 ·obtain rfl:=hz d hd hp
  have:=hc.zero h.1
  subst this
  exact(WayK.rch n k 0 hway).ne rfl
theorem Mrd.done {ll:List (List Int)} {pl:Int→Int} {r n:Nat} {old g:Int→Int} (h:Mrd ll pl r n old g) (hn:∀x,All ll x→pl x < n):Rd ll pl (r+1) g:=
 ⟨h.1,fun _ x hx h0=>h.2.1 x hx h0 (.inl (hn x hx)),h.2.2.1,fun d z m k hd hk hw=>h.2.2.2.2.1 d z m k hd (hn d hd) (by omega) hw⟩
theorem Ahd.pred {ll:List (List Int)} {y b p:Int} (h:Ahd ll y b) (hne:y≠b) (hp:All ll p) (hb:b∈ll.getD p.toNat []):Ahd ll y p:=by
 refine⟨h.1,hp,?_⟩
 right
 intro hr
 exact(h.2.2.resolve_left hne) (hr.step hb (fun e=>hne e.symm))
theorem Dd.ch {ll:List (List Int)} {pl g:Int→Int} (hw:Wf ll pl g) (hd:Dd ll g):∀(N:Nat) (y d:Int),pl d < N→0≤pl d→Know ll g d→Ord ll pl→Ahd ll y d→Ch g y d:=by
 intro N
 induction N with
 |zero=>intro y d h1 h2;omega
 |succ N ih=>
  intro y d h1 h2 hk ho ha
  by_cases e:y=d
  ·subst e;exact Ch.refl _ _
  ·have h0:d≠0:=by
    rintro rfl
    exact e (ha.anti (Ahd.first ha.1))
   have hg:g d≠ -1:=hk.2.resolve_left h0
   obtain⟨_,k2,k3⟩:=hw.2.2 d hg
   exact Ch.up hg (ih y (g d) (by omega) (k2.pl0 ho) k2 ho (hd d y hg ha e))
theorem Dd.climb {ll:List (List Int)} {pl g:Int→Int} (hw:Wf ll pl g) (hd:Dd ll g) {x y p:Int} (h:Ch g x p) (ha:Ahd ll y p) (hp:pl y≤pl x):Ahd ll y x:=by
 have key:∀n p,ChN g n x p→Ahd ll y p→Ahd ll y x:=by
  intro n
  induction n with
  |zero=>rintro p rfl h;exact h
  |succ n ih=>
   rintro p ⟨h1,h2⟩ ha
   refine ih (g p) h2 (hd p y h1 ha ?_)
   rintro rfl
   have:=(hw.2.2 y h1).2.2
   have:=Ch.ple hw ⟨n,h2⟩
   omega
 obtain⟨n,h⟩:=h
 exact key n p h ha
def upd (g:Int→Int) (b x:Int):Int→Int:=fun y=>if y=b then x else g y
theorem upd_at (g:Int→Int) (b x:Int):upd g b x b=x:=if_pos rfl
theorem upd_ne (g:Int→Int) {b x y:Int} (h:y≠b):upd g b x y=g y:=if_neg h
theorem Ch.upd_low {ll:List (List Int)} {pl g:Int→Int} (hw:Wf ll pl g) {b x d z:Int} (h:pl d < pl b):Ch (upd g b x) z d↔Ch g z d:=by
 have key:∀n d,pl d < pl b→(ChN (upd g b x) n z d↔ChN g n z d):=by
  intro n
  induction n with
  |zero=>intro d _;exact Iff.rfl
  |succ n ih=>
   intro d h
   have e:upd g b x d=g d:=upd_ne g (by rintro rfl;omega)
   show(upd g b x d≠ -1∧ChN (upd g b x) n z (upd g b x d))↔(g d≠ -1∧ChN g n z (g d))
   rw [e]
   constructor
   ·rintro ⟨h1,h2⟩
    exact⟨h1,(ih _ (by have:=(hw.2.2 d h1).2.2;omega)).1 h2⟩
   ·rintro ⟨h1,h2⟩
    exact⟨h1,(ih _ (by have:=(hw.2.2 d h1).2.2;omega)).2 h2⟩
 exact⟨fun⟨n,k⟩=>⟨n,(key n d h).1 k⟩,fun⟨n,k⟩=>⟨n,(key n d h).2 k⟩⟩
theorem Ch.cross {ll:List (List Int)} {pl g old:Int→Int} (hw:Wf ll pl g) {i:Nat} (hs:∀x,All ll x→(i:Int)≤pl x→g x=old x) {z p:Int} (h:Ch g z p) (hp:All ll p) (hz:pl z < i):
  ∃a,All ll a∧pl a < i∧Ch g z a∧Ch old a p:=by
 have key:∀n p,ChN g n z p→All ll p→∃a,All ll a∧pl a < i∧Ch g z a∧Ch old a p:=by
  intro n
  induction n with
  |zero=>
   rintro p rfl h
   exact⟨z,h,hz,Ch.refl _ _,Ch.refl _ _⟩
  |succ n ih=>
   intro p h hp
   by_cases e:pl p < i
   ·exact⟨p,hp,e,⟨n+1,h⟩,Ch.refl _ _⟩
   ·obtain⟨h1,h2⟩:=h
    obtain⟨a,k1,k2,k3,k4⟩:=ih (g p) h2 (hw.2.2 p h1).2.1.1
    have e2:=hs p hp (by omega)
    exact⟨a,k1,k2,k3,Ch.up (by rw [←e2];exact h1) (by rw [←e2];exact k4)⟩
 obtain⟨n,h⟩:=h
 exact key n p h hp
theorem Mrd.step {ll:List (List Int)} (hg:Gr ll) {pl:Int→Int} (ho:Ord ll pl) {r i:Nat} {old g:Int→Int} (h:Mrd ll pl r i old g) {b x:Int} {l:List Int} (hb:All ll b) (h0:b≠0) (hp:pl b=i)
  (hl:∀p,p∈l↔(0≤p∧p < ll.length∧b∈ll.getD p.toNat [])) (hs:Sh ll g l x):Mrd ll pl r (i+1) old (upd g b x):=by
 obtain⟨hw,hk,hd,hsame,hmis,hold⟩:=h
 have inl:∀p,All ll p→b∈ll.getD p.toNat []→p∈l:=fun p hp hm=>(hl p).2 ⟨(hp.num hg).1,(hp.num hg).2,hm⟩
 obtain⟨p0,q1,q2,q3⟩:=ho.2.2.2 b hb h0
 have kn:∀p,All ll p→pl p < i∨0 < r→Know ll g p:=fun p hp hi=>⟨hp,by
  by_cases e:p=0
  ·exact .inl e
  ·exact .inr (hk p hp e hi)⟩
 have kp0:Know ll g p0:=kn p0 q1 (.inl (by omega))
 rcases hs with ⟨_,hs2⟩ | ⟨kx,_,hz⟩
 ·exact absurd kp0 (hs2 p0 (inl p0 q1 q2))
 have cx0:Ch g x p0:=(hz x).1 (Ch.refl _ _) p0 (inl p0 q1 q2) kp0
 have hxi:pl x < i:=by have:=cx0.ple hw;omega
 have hxb:x≠b:=by rintro rfl;omega
 have kmono:∀y,Know ll g y→Know ll (upd g b x) y:=by
  intro y hy
  refine⟨hy.1,hy.2.imp id fun e=> ?_⟩
  by_cases eb:y=b
  ·subst eb;rw [upd_at];exact kx.ne hg
  ·rw [upd_ne g eb];exact e
 refine⟨⟨?_,?_,?_⟩,?_,?_,?_,?_,hold⟩
 ·rw [upd_ne g (fun e=>h0 e.symm)];exact hw.1
 ·intro y hy
  rw [upd_ne g (by rintro rfl;exact hy hb)]
  exact hw.2.1 y hy
 ·intro y hy
  by_cases eb:y=b
  ·subst eb
   rw [upd_at]
   exact⟨hb,kmono x kx,by omega⟩
  ·rw [upd_ne g eb] at hy ⊢
   obtain⟨k1,k2,k3⟩:=hw.2.2 y hy
   exact⟨k1,kmono _ k2,k3⟩
 ·intro y hy hy0 hi
  by_cases eb:y=b
  ·subst eb;rw [upd_at];exact kx.ne hg
  ·rw [upd_ne g eb]
   refine hk y hy hy0 ?_
   rcases hi with hi | hi
   ·left
    refine Classical.byContradiction fun e=>eb (ho.2.1 y b hy hb ?_)
    have:pl y < ((i+1:Nat):Int):=hi
    omega
   ·exact .inr hi
 ·intro v y hv ha hne
  by_cases eb:v=b
  ·subst eb
   rw [upd_at]
   have hin:∀p,All ll p→v∈ll.getD p.toNat []→Know ll g p→Ch g y p:=fun p hp hm hkp=>Dd.ch hw hd ((pl p).toNat+1) y p (by have:=hkp.pl0 ho;omega) (hkp.pl0 ho) hkp ho (ha.pred hne hp hm)
   have cy:Ch g y x:=(hz y).2 (fun p hpl hkp=>hin p hkp.1 ((hl p).1 hpl).2.2 hkp)
   exact Dd.climb hw hd cx0 (ha.pred hne q1 q2) (cy.ple hw)
  ·rw [upd_ne g eb] at hv ⊢
   exact hd v y hv ha hne
 ·intro y hy hi
  rw [upd_ne g (by rintro rfl;omega)]
  exact hsame y hy (by omega)
 ·intro d z n k hda hdi hkr hway hc
  by_cases eb:d=b
  ·subst eb
   cases n with
   |zero=>exact h0 hway.1
   |succ n=>
    obtain⟨p,h1,h2,h3⟩:=hway
    have hcx:Ch g z x:=by
     rcases hc.cases with e | ⟨_,e⟩
     ·exact absurd e.symm h2
     ·rw [upd_at] at e
      exact(Ch.upd_low hw (by omega)).1 e
    rcases h3 with ⟨h3,h4⟩ | ⟨k',rfl,h4⟩
    ·have hpa:=(WayK.rch _ _ _ h4).all hg.1
     exact hmis p z n k hpa (by omega) hkr h4 ((hz z).1 hcx p (inl p hpa h1) (kn p hpa (.inl (by omega))))
    ·have hpa:=(WayK.rch _ _ _ h4).all hg.1
     have hcp:=(hz z).1 hcx p (inl p hpa h1) (kn p hpa (.inr (by omega)))
     obtain⟨a,a1,a2,a3,a4⟩:=hcp.cross hw hsame hpa (by have:=hcx.ple hw;omega)
     rcases WayK.part a n k' p h4 with q | ⟨n',q⟩
     ·exact hold p a n k' hpa (by omega) q a4
     ·exact hmis a z n' k' a1 a2 (by omega) q a3
  ·have hdi2:pl d < i:=by
    refine Classical.byContradiction fun e=>eb (ho.2.1 d b hda hb ?_)
    have:pl d < ((i+1:Nat):Int):=hdi
    omega
   exact hmis d z n k hda hdi2 hkr hway ((Ch.upd_low hw (by omega)).1 hc)
theorem exact_of {ll:List (List Int)} (hg:Gr ll) {pl g:Int→Int} (hw:Wf ll pl g) (hk:∀x,All ll x→x≠0→g x≠ -1) (hd:Dd ll g) (hm:∀d z,All ll d→Rch ll [0] z d→¬Ch g z d) (b:Int):g b=upB ll b:=by
 by_cases hb:All ll b
 ·by_cases h0:b=0
  ·subst h0
   rw [hw.1]
   exact(upB_no hg fun a=>IsUp.not_first).symm
  ·have h1:=hk b hb h0
   obtain⟨_,k2,k3⟩:=hw.2.2 b h1
   have hne:g b≠b:=by intro e;rw [e] at k3;omega
   have hah:Ahd ll (g b) b:=⟨k2.1,hb,.inr fun hr=>hm b (g b) hb hr (Ch.up h1 (Ch.refl _ _))⟩
   exact(upB_eq hg (IsUp.of_last hg hah hne (fun c hc hcb=>hd b c h1 hc hcb))).symm
 ·rw [hw.2.1 b hb]
  exact(upB_no hg fun a ha=>hb ha.2.1.2.1).symm
theorem bound_ex {P:Nat→Nat→Prop} (hm:∀j k k',P j k→k≤k'→P j k'):∀m,(∀j,j < m→∃k,P j k)→∃K,∀j,j < m→P j K:=by
 intro m
 induction m with
 |zero=>intro _;exact⟨0,fun j h=>by omega⟩
 |succ m ih=>
  intro h
  obtain⟨K,hK⟩:=ih (fun j hj=>h j (by omega))
  obtain⟨k,hk⟩:=h m (by omega)
  refine⟨max K k,fun j hj=> ?_⟩
  by_cases e:j=m
  ·subst e;exact hm _ _ _ hk (Nat.le_max_right _ _)
  ·exact hm _ _ _ (hK j (by omega)) (Nat.le_max_left _ _)
def Enough (ll:List (List Int)) (pl:Int→Int) (K:Nat):Prop:=∀d z,All ll d→All ll z→Rch ll [0] z d→∃n,WayK ll pl z n K d
theorem enough_ex {ll:List (List Int)} (hg:Gr ll) (pl:Int→Int):∃K,Enough ll pl K:=by
 obtain⟨K,hK⟩:=bound_ex (P:=fun d K=>∀z,z < ll.length→Rch ll [0] (z:Int) (d:Int)→∃n,WayK ll pl (z:Int) n K (d:Int))
  (fun j k k' h hk z hz hr=>by obtain⟨n,q⟩:=h z hz hr;exact⟨n,WayK.mono _ _ _ q _ hk⟩) ll.length (fun d _=>by
   refine bound_ex (P:=fun z K=>Rch ll [0] (z:Int) (d:Int)→∃n,WayK ll pl (z:Int) n K (d:Int)) (fun j k k' h hk hr=>by obtain⟨n,q⟩:=h hr;exact⟨n,WayK.mono _ _ _ q _ hk⟩) ll.length (fun z _=> ?_)
   by_cases hr:Rch ll [0] (z:Int) (d:Int)
   ·obtain⟨n,k,q⟩:=WayK.of pl hr
    exact⟨k,fun _=>⟨n,q⟩⟩
   ·exact⟨0,fun h=>absurd h hr⟩)
 refine⟨K,fun d z hd hz hr=> ?_⟩
 obtain⟨d0,d1⟩:=hd.num hg
 obtain⟨z0,z1⟩:=hz.num hg
 obtain⟨D,rfl⟩:∃D:Nat,d=(D:Int):=⟨d.toNat,by omega⟩
 obtain⟨Z,rfl⟩:∃Z:Nat,z=(Z:Int):=⟨z.toNat,by omega⟩
 exact hK D (by omega) Z (by omega) hr
theorem Rd.exact {ll:List (List Int)} (hg:Gr ll) {pl g:Int→Int} {r K:Nat} (h:Rd ll pl r g) (hK:Enough ll pl K) (hr:K < r) (b:Int):g b=upB ll b:=by
 obtain⟨hw,hk,hd,hm⟩:=h
 refine exact_of hg hw (hk (by omega)) hd (fun d z hda hrch hc=> ?_) b
 by_cases h0:d=0
 ·subst h0
  have:=hc.zero hw
  subst this
  exact hrch.ne rfl
 ·have hz:All ll z:=(hc.know hw ⟨hda,.inr (hk (by omega) d hda h0)⟩).1
  obtain⟨n,q⟩:=hK d z hda hz hrch
  exact hm d z n K hda hr q hc
theorem Rd.fixed {ll:List (List Int)} (hg:Gr ll) {pl g:Int→Int} {r:Nat} (h:Rd ll pl r g) (hs:∀r,Rd ll pl r g→Rd ll pl (r+1) g) (b:Int):g b=upB ll b:=by
 obtain⟨K,hK⟩:=enough_ex hg pl
 have key:∀n,Rd ll pl (r+n) g:=by
  intro n
  induction n with
  |zero=>exact h
  |succ n ih=>exact hs _ ih
 exact Rd.exact hg (key (K+1)) hK (by omega) b
theorem Rd.start {ll:List (List Int)} {pl g:Int→Int} (h:∀x,g x= -1):Rd ll pl 0 g:=
 ⟨⟨h 0,fun x _=>h x,fun x hx=>absurd (h x) hx⟩,fun h=>by omega,fun x y hx=>absurd (h x) hx,fun d z n k _ hk=>by omega⟩
theorem Ahd.order {ll:List (List Int)} {pl:Int→Int} (ho:Ord ll pl) {a b:Int} (h:Ahd ll a b):a=b∨pl a < pl b:=by
 have key:∀(N:Nat) (b:Int),pl b < N→Ahd ll a b→a=b∨pl a < pl b:=by
  intro N
  induction N with
  |zero=>
   intro b hb h
   have:=(ho.1 b).1 h.2.1
   omega
  |succ N ih=>
   intro b hb h
   by_cases e:a=b
   ·exact .inl e
   ·have h0:b≠0:=by rintro rfl;exact e (h.anti (Ahd.first h.1))
    obtain⟨p,q1,q2,q3⟩:=ho.2.2.2 b h.2.1 h0
    rcases ih p (by omega) (h.pred e q1 q2)with rfl | q
    ·exact .inr q3
    ·exact .inr (by omega)
 exact key ((pl b).toNat+1) b (by have:=(ho.1 b).1 h.2.1;omega) h
def gU (u:List Int) (x:Int):Int:=if 0≤x then u.getD x.toNat (-1)else -1
theorem gU_at {u:List Int} {A:Nat} (h:A < u.length):u[A]? =some (gU u (A:Int)):=by
 unfold gU
 rw [if_pos (by omega),Int.toNat_natCast,List.getD_eq_getElem?_getD,List.getElem?_eq_getElem h];rfl
theorem gU_set {u:List Int} {B:Nat} (h:B < u.length) (v:Int):gU (u.set B v)=upd (gU u) B v:=by
 funext x
 show(if 0≤x then(u.set B v).getD x.toNat (-1)else -1)=if x=(B:Int)then v else(if 0≤x then u.getD x.toNat (-1)else -1)
 by_cases e:x=(B:Int)
 ·subst e
  rw [if_pos (by omega),if_pos rfl,Int.toNat_natCast,List.getD_eq_getElem?_getD,List.getElem?_set];simp [h]
 ·rw [if_neg e]
  by_cases h0:0≤x
  ·rw [if_pos h0,if_pos h0,List.getD_eq_getElem?_getD,List.getElem?_set_ne (by omega),List.getD_eq_getElem?_getD]
  ·rw [if_neg h0,if_neg h0]
theorem gU_none (n:Nat) (x:Int):gU (List.replicate n (-1)) x= -1:=by
 unfold gU
 split
 ·rw [List.getD_eq_getElem?_getD,List.getElem?_replicate];split <;> rfl
 ·rfl
def upsL (ll:List (List Int)):List Int:=(List.range ll.length).map fun(b:Nat)=>upB ll b
theorem upsL_len (ll:List (List Int)):(upsL ll).length=ll.length:=by simp [upsL]
theorem upsL_at {ll:List (List Int)} {b:Nat} (h:b < ll.length):(upsL ll)[b]? =some (upB ll b):=by
 unfold upsL;rw [List.getElem?_map,List.getElem?_range h];rfl
theorem upsL_of {ll:List (List Int)} {u:List Int} (hl:u.length=ll.length) (h:∀b,gU u b=upB ll b):u=upsL ll:=by
 apply List.ext_getElem?
 intro j
 by_cases hj:j < ll.length
 ·rw [upsL_at hj,gU_at (by omega),h]
 ·rw [List.getElem?_eq_none (by omega),List.getElem?_eq_none (by rw [upsL_len];omega)]
def UpS (ll:List (List Int)) (pl:Int→Int) (u ps:List Int):Prop:=u.length=ll.length∧ps.length=ll.length∧∀k:Nat,k < ll.length→ps[k]? =some (pl k)
theorem Know.nat {ll:List (List Int)} (hg:Gr ll) {g:Int→Int} {x:Int} (h:Know ll g x):∃A:Nat,x=(A:Int)∧A < ll.length:=by
 obtain⟨h0,h1⟩:=h.1.num hg
 exact⟨x.toNat,by omega,by omega⟩
theorem know_iff {ll:List (List Int)} {pl g:Int→Int} (hw:Wf ll pl g) (x:Int):Know ll g x↔(x=0∨g x≠ -1):=by
 constructor
 ·exact fun h=>h.2
 ·intro h
  refine⟨?_,h⟩
  rcases h with rfl | h
  ·exact All.first _
  ·exact(hw.2.2 x h).1
theorem reached_any (u:List Int) (A:Nat) (hA:A < u.length) (uo:Option Addr) (uc:Nat) (w:World) (hu:Sl w uo u):
  Calls Tryz.prog 146 #[.slice uo u.length uc,.int .i64 A] w fun e w'=>e= .returned (.bool (decide ((A:Int)=0∨gU u A≠ -1)))∧w'=w:=by
 rcases hu with rfl | ⟨b,o,rfl,hb,hc⟩
 ·simp at hA
 have c1:=hc A _ (gU_at hA)
 have hAI:(A:Int) < u.length:=by omega
 clear hc hb
 by_cases h0:A=0
 ·subst h0
  go_enter Tryz.func146,Tryz.ntmps146
  go_wp2_with fail
  go_ret
  refine⟨?_,rfl⟩
  simp
 ·have h0b:((A:Int) == 0)=false:=beq_eq_false_iff_ne.2 (by omega)
  generalize gU u (A:Int)=x at *
  have hd:decide ((A:Int)=0∨x≠ -1)=(x != -1):=by
   rw [Bool.eq_iff_iff];simp [h0]
  rw [hd]
  clear hd
  go_enter Tryz.func146,Tryz.ntmps146
  go_wp2_with fail
  go_ret
  exact⟨rfl,rfl⟩
theorem meet_any (ll:List (List Int)) (hg:Gr ll) (pl:Int→Int) (ho:Ord ll pl) (u ps:List Int) (hS:UpS ll pl u ps) (hw:Wf ll pl (gU u)) (uo po:Option Addr) (uc pc:Nat) (a b:Int) (w:World) (hu:Sl w uo u) (hp:Sl w po ps) (ha:Know ll (gU u) a) (hb:Know ll (gU u) b):
  Calls Tryz.prog 147 #[.slice uo u.length uc,.slice po ps.length pc,.int .i64 a,.int .i64 b] w fun e w'=>(∃c,e= .returned (.int .i64 c)∧Know ll (gU u) c∧∀z,Ch (gU u) z c↔(Ch (gU u) z a∧Ch (gU u) z b))∧Below w.heap.size w w':=by
 have hn:=hg.2
 rcases hu with rfl | ⟨ub,uo,rfl,hub,hcu⟩
 ·have:=hS.1;simp at this;omega
 rcases hp with rfl | ⟨pb,po,rfl,hpb,hcp⟩
 ·have:=hS.2.1;simp at this;omega
 have HStep:=hide (fun a b ha hb h=>meet_step (g:=gU u) (a:=a) (b:=b) ho hw ha hb h)
 have HNat:=hide (fun x (h:Know ll (gU u) x)=>h.nat hg)
 have HInj:=hide (fun a b (ha:Know ll (gU u) a) (hb:Know ll (gU u) b) (h:pl a=pl b)=>ho.2.1 a b ha.1 hb.1 h)
 have HPl:=hide (fun x (h:Know ll (gU u) x)=>h.pl0 ho)
 have HCu:=hide hcu
 have HCp:=hide (fun(k:Nat) (h:k < ll.length)=>hcp k _ (hS.2.2 k h))
 have HCg:=hide (fun(k:Nat) (h:k < ll.length)=>hcu k _ (gU_at (by rw [hS.1];exact h)))
 have h1:=hS.1
 have h2:=hS.2.1
 have KA:=hide ha
 have KB:=hide hb
 rw [h1,h2]
 clear hcu hcp ha hb hg ho hw hS h1 h2 HCu
 generalize hN:ll.length=N at *
 generalize gU u=g at *
 go_enter Tryz.func147,Tryz.ntmps147
 go_wp2_with fail
 go_loopw [2,3] (fun av bv wr=>∃a' b':Int,av= .int .i64 a'∧bv= .int .i64 b'∧Hid (Know ll g a')∧Hid (Know ll g b')∧Hid (∀z,(Ch g z a'∧Ch g z b')↔(Ch g z a∧Ch g z b))∧Hid (Below w.heap.size w wr)) (fun av bv _=>(pl (intOf av)).toNat+(pl (intOf bv)).toNat)
 case atStart=>exact⟨a,b,rfl,rfl,KA,KB,hide (fun z=>Iff.rfl),hide (Below.refl _ _)⟩
 case round=>
  clear KA KB
  obtain⟨a',b',rfl,rfl,KA,KB,HZ,HB⟩:=hrel
  obtain⟨A,rfl,hA⟩:=HNat.out a' KA.out
  obtain⟨B,rfl,hB⟩:=HNat.out b' KB.out
  by_cases hab:(A:Int)=B
  ·obtain rfl:A=B:=by omega
   have HE:Hid (Know ll g (A:Int)∧∀z,Ch g z A↔(Ch g z a∧Ch g z b)):=hide ⟨KA.out,fun z=>by rw [←HZ.out];simp⟩
   go_wp2_with fail
   go_ret
   exact⟨⟨_,rfl,HE.out⟩,HB.out⟩
  ·have hab1:((A:Int) != (B:Int))=true:=bne_iff_ne.2 hab
   have hab2:((A:Int) == (B:Int))=false:=beq_eq_false_iff_ne.2 hab
   have hAI:(A:Int) < N:=by omega
   have hBI:(B:Int) < N:=by omega
   have p1:=HPl.out _ KA.out
   have p2:=HPl.out _ KB.out
   have hB2:=fun x=>below_step HB.out (L5.grewTo_below wr x)
   have c1:=fun x=>((hB2 x).cell (p:=⟨pb,po+A,none⟩) hpb).trans (HCp.out A hA)
   have c2:=fun x=>((hB2 x).cell (p:=⟨pb,po+B,none⟩) hpb).trans (HCp.out B hB)
   have c3:=fun x=>((hB2 x).cell (p:=⟨ub,uo+A,none⟩) hub).trans (HCg.out A hA)
   have c4:=fun x=>((hB2 x).cell (p:=⟨ub,uo+B,none⟩) hub).trans (HCg.out B hB)
   replace hB2:=hide hB2
   by_cases hlt:pl (B:Int) < pl (A:Int)
   ·obtain⟨s1,s2,s3,s4⟩:=HStep.out _ _ KA.out KB.out hlt
    have S2:=hide s2
    have S4:=hide (fun z=>(s4 z).symm.trans (HZ.out z))
    have p3:=HPl.out _ s2
    obtain⟨pA,HpA⟩:∃pA,Hid (pl (A:Int)=pA):=⟨_,hide rfl⟩
    obtain⟨pB,HpB⟩:∃pB,Hid (pl (B:Int)=pB):=⟨_,hide rfl⟩
    simp only [HpA.out,HpB.out] at c1 c2 p1 p2 s3
    try simp only [HpA.out,HpB.out] at hlt
    try simp only [HpA.out,HpB.out] at hlt2
    generalize g (A:Int)=gA at *
    clear s4 s1 s2
    go_wp2_with fail
    refine L5.region_grew (by kernel_rfl) (by kernel_rfl) ?_
    repeat (go_big_quiet_step (fail))
    refine wpQuiet_nil ?_
    rintro _ ⟨x,rfl⟩
    go_wp2_with fail
    go_roundw
    case rel=>exact⟨gA,B,rfl,rfl,S2,KB,S4,hide (hB2.out x)⟩
    case measure=>have e1:=HpA.out;have e2:=HpB.out;simp [intOf];omega
   ·have hlt2:pl (A:Int) < pl (B:Int):=by
     have:pl (A:Int)≠pl (B:Int):=fun e=>hab (HInj.out _ _ KA.out KB.out e)
     omega
    obtain⟨s1,s2,s3,s4⟩:=HStep.out _ _ KB.out KA.out hlt2
    have S2:=hide s2
    have S4:Hid (∀z,(Ch g z A∧Ch g z (g B))↔(Ch g z a∧Ch g z b)):=hide (fun z=>by
     rw [←HZ.out]
     have:=s4 z
     constructor
     ·rintro ⟨q1,q2⟩;exact⟨q1,(this.2 ⟨q2,q1⟩).1⟩
     ·rintro ⟨q1,q2⟩;exact⟨q1,(this.1 ⟨q2,q1⟩).1⟩)
    have p3:=HPl.out _ s2
    obtain⟨pA,HpA⟩:∃pA,Hid (pl (A:Int)=pA):=⟨_,hide rfl⟩
    obtain⟨pB,HpB⟩:∃pB,Hid (pl (B:Int)=pB):=⟨_,hide rfl⟩
    simp only [HpA.out,HpB.out] at c1 c2 p1 p2 s3
    try simp only [HpA.out,HpB.out] at hlt
    try simp only [HpA.out,HpB.out] at hlt2
    generalize g (B:Int)=gB at *
    clear s4 s1 s2
    go_wp2_with fail
    refine L5.region_grew (by kernel_rfl) (by kernel_rfl) ?_
    repeat (go_big_quiet_step (fail))
    refine wpQuiet_nil ?_
    rintro _ ⟨x,rfl⟩
    go_wp2_with fail
    go_roundw
    case rel=>exact⟨A,gB,rfl,rfl,KA,S2,S4,hide (hB2.out x)⟩
    case measure=>have e1:=HpA.out;have e2:=HpB.out;simp [intOf];omega
theorem shared_any (ll:List (List Int)) (hg:Gr ll) (pl:Int→Int) (ho:Ord ll pl) (u ps l:List Int) (hS:UpS ll pl u ps) (hw:Wf ll pl (gU u)) (hl:Num ll.length l) (hll:l.length≤1000000) (uo po lo:Option Addr) (uc pc lc:Nat) (w:World) (hu:Sl w uo u) (hp:Sl w po ps) (hlo:Sl w lo l):
  Calls Tryz.prog 125 #[.slice uo u.length uc,.slice po ps.length pc,.slice lo l.length lc] w fun e w'=>(∃x,e= .returned (.int .i64 x)∧Sh ll (gU u) l x)∧Below w.heap.size w w':=by
 have HRe:=hide (fun(A:Nat) (hA:A < ll.length) (w':World) (b:Below w.heap.size w w')=>reached_any u A (by rw [hS.1];exact hA) uo uc w' (hu.below b))
 have HMe:=hide (fun(a b:Int) (ha:Know ll (gU u) a) (hb:Know ll (gU u) b) (w':World) (h:Below w.heap.size w w')=>meet_any ll hg pl ho u ps hS hw uo po uc pc a b w' (hu.below h) (hp.below h) ha hb)
 have HKn:=hide (fun x=>know_iff (x:=x) hw)
 have HFi:=hide (fun(l:List Int) (b:Int) (h:Sh ll (gU u) l (-1)) (hb:Know ll (gU u) b)=>h.first hg hb)
 have HL:=hide hlo
 have HNu:=hide hl
 rw [hS.1,hS.2.1] at *
 clear hu hp hlo hl hg ho hw hS
 generalize ll.length=N at *
 generalize gU u=g at *
 go_enter Tryz.func125,Tryz.ntmps125
 go_wp2_with fail
 go_loopw [7,12] (fun xv i wr=>∃(x:Int) (I:Nat),I≤l.length∧xv= .int .i64 x∧i= .int .i64 I∧Hid (Sh ll g (l.take I) x)∧Hid (Below w.heap.size w wr)) (fun _ i _=>l.length - (intOf i).toNat)
 case atStart=>exact⟨-1,0,Nat.zero_le _,rfl,rfl,hide (Sh.nil ll g),hide (Below.refl _ _)⟩
 case round=>
  obtain⟨x,I,hI,rfl,rfl,HS,HB⟩:=hrel
  by_cases hit:I < l.length
  ·have hiI:(I:Int) < l.length:=by omega
   obtain⟨m,hm⟩:∃m,l[I]? =some m:=⟨_,List.getElem?_eq_getElem hit⟩
   obtain⟨hm0,hm1⟩:=HNu.out m (List.mem_of_getElem? hm)
   obtain⟨M,rfl⟩:∃M:Nat,m=(M:Int):=⟨m.toNat,by omega⟩
   have HT:Hid (l.take (I+1)=l.take I ++ [(M:Int)]):=hide (take_more hm)
   rcases HL.out with rfl | ⟨lb,lo2,rfl,hlb,hlc⟩
   ·simp at hit
   have c1:=(HB.out.cell (p:=⟨lb,lo2+I,none⟩) hlb).trans (hlc I _ hm)
   have HC:=hide (HRe.out M (by omega) wr HB.out)
   clear hlc hm hm0 hm1
   by_cases hk:Know ll g (M:Int)
   ·have hdt:decide ((M:Int)=0∨g M≠ -1)=true:=decide_eq_true ((HKn.out _).1 hk)
    rw [hdt] at HC
    have KM:=hide hk
    clear hdt hk
    by_cases hx:x= -1
    ·subst hx
     have HE:Hid (Sh ll g (l.take (I+1)) (M:Int)):=hide (by rw [HT.out];exact HFi.out _ _ HS.out KM.out)
     go_wp2_with fail
     refine HC.out.mono ?_;rintro e w1 ⟨rfl,rfl⟩
     clear HC
     go_wp2_with fail
     go_roundw
     case rel=>exact⟨M,I+1,by omega,rfl,by go_num,HE,HB⟩
     case measure=>simp [intOf];omega
    ·have hx1:(x == -1)=false:=beq_eq_false_iff_ne.2 hx
     have HM:=hide (HMe.out x M (HS.out.known hx) KM.out wr HB.out)
     have Hx:=hide hx
     clear hx
     go_wp2_with fail
     refine HC.out.mono ?_;rintro e w1 ⟨rfl,rfl⟩
     clear HC
     go_wp2_with fail
     refine HM.out.mono ?_;rintro e w2 ⟨⟨c,rfl,hc1,hc2⟩,b2⟩
     have HE:Hid (Sh ll g (l.take (I+1)) c):=hide (by rw [HT.out];exact HS.out.more Hx.out KM.out hc1 hc2)
     have HB2:=hide (below_step HB.out b2)
     clear HM hc1 hc2 b2
     go_wp2_with fail
     go_roundw
     case rel=>exact⟨c,I+1,by omega,rfl,by go_num,HE,HB2⟩
     case measure=>simp [intOf];omega
   ·have hdt:decide ((M:Int)=0∨g M≠ -1)=false:=decide_eq_false (fun h=>hk ((HKn.out _).2 h))
    rw [hdt] at HC
    have HE:Hid (Sh ll g (l.take (I+1)) x):=hide (by rw [HT.out];exact HS.out.no hk)
    clear hdt hk
    go_wp2_with fail
    refine HC.out.mono ?_;rintro e w1 ⟨rfl,rfl⟩
    clear HC
    go_wp2_with fail
    go_roundw
    case rel=>exact⟨x,I+1,by omega,rfl,by go_num,HE,HB⟩
    case measure=>simp [intOf];omega
  ·obtain rfl:I=l.length:=by omega
   have HE:Hid (Sh ll g l x):=hide (by have:=HS.out;rwa [List.take_length] at this)
   go_wp2_with fail
   go_ret
   exact⟨⟨_,rfl,HE.out⟩,HB.out⟩
end Go.Proofs.YtljkgcfnoegibaaGreatDoor
