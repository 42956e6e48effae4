/- Texts of one chain, joined. -/
import Derived.Test.YtljkgcfnoegibaaGreatDoorZAAJ
set_option maxHeartbeats 1000000
set_option maxRecDepth 20000
namespace Go.Proofs.YtljkgcfnoegibaaGreatDoor.L2
open Go.RowKit
def bg:Option Nat→Int
 |none=> -1
 |some q=>q
end Go.Proofs.YtljkgcfnoegibaaGreatDoor.L2
namespace Go.Proofs.YtljkgcfnoegibaaGreatDoor
open Go Go.RowKit
open G (Tok Er Ins Fun peek0 peek1 fG)
def RA (a:Nat) (L:List Tok) (E:Int) (q n:Nat) (ec:Int) (w:World):Prop:=
 ∃v ea,w.heap[a]? =some (.cells #[v,.int .i64 (q:Int),.int .i64 E,.int .i64 (n:Int),.int .i64 ec,.int .i64 ea] 70 (0,0))∧w.ownsRow 0 95 2 v L.length (cellsK L)∧(L.length≤131072∧∀t∈L,t.1.length≤65536∧0≤t.2∧t.2≤E)∧(0≤E∧n≤4097∧q≤L.length+3∧(ec=0→n≤4096∧q≤L.length))
section
variable {a:Nat} {L:List Tok} {E:Int} {q n:Nat} {ec:Int} {w w':World}
theorem RA.lt (h:RA a L E q n ec w):a < w.heap.size:=by
 obtain⟨v,ea,h1,_⟩:=h;exact(Array.getElem?_eq_some_iff.1 h1).1
theorem RA.lim (h:RA a L E q n ec w):(L.length≤131072∧∀t∈L,t.1.length≤65536∧0≤t.2∧t.2≤E)∧(0≤E∧n≤4097∧q≤L.length+3∧(ec=0→n≤4096∧q≤L.length)):=by
 obtain⟨v,ea,_,_,h⟩:=h;exact h
theorem RA.below (h:RA a L E q n ec w) (b:Below w.heap.size w w'):RA a L E q n ec w':=by
 obtain⟨v,ea,h1,h2,h3⟩:=h;refine⟨v,ea,(b.block a (Array.getElem?_eq_some_iff.1 h1).1).trans h1,⟨h2.1,?_⟩,h3⟩;rcases h2.2 with hn | ⟨g,cap,cur,hv2,hbb,hg,rest⟩
 ·exact .inl hn
 ·exact .inr ⟨g,cap,cur,hv2,hbb,(b.block g (Array.getElem?_eq_some_iff.1 hg).1).trans hg,rest⟩
theorem RA.set {p:Nat} (h:RA a L E q n ec w) {cs:Array Value} {t:TypeId} {fz:Nat × Nat} (hp:w.heap[p]? =some (.cells cs t fz)) (ht:t≠95) (hpa:p≠a) (i:Nat) (v:Value):RA a L E q n ec (w.setCell ⟨p,i,none⟩ v):=by
 obtain⟨u,ea,h1,h2,h3⟩:=h;exact⟨u,ea,(Below.heap_setCell _ _ _ _ (fun e=>hpa e.symm)).trans h1,bO h2 (aU h2 hp ht) _,h3⟩
theorem RA.grown {w3:World} {row:Value} {B m:Nat} {ys:List Value} {e' s':Nat} (h:RA a L E q n ec w) (hg:w.grownBy w3 row.ownBlock) (hr:w.ownsRow B e' s' row m ys) (he:95≠e') (hB:a < B):RA a L E q n ec w3:=by
 have hlt:=h.lt;obtain⟨u,ea,h1,h2,h3⟩:=h;exact⟨u,ea,(hg.block a hlt (fun e=>by have:=(hr.lt a e.symm).1;omega)).trans h1,fE hg hr he _ _ _ h2,h3⟩
theorem Far.ra {p:Nat} (h:Far p w w') (hr:RA a L E q n ec w) {cs:Array Value} {t:TypeId} {fz:Nat × Nat} (hp:w.heap[p]? =some (.cells cs t fz)) (ht:t≠95) (hpa:p≠a):RA a L E q n ec w':=by
 obtain⟨v,ea,h1,h2,h3⟩:=hr;exact⟨v,ea,(h.2.2.2.2 a (fun e=>hpa e.symm)).trans h1,h.own h2 (aU h2 hp ht),h3⟩
theorem RA.cells (h:RA a L E q n ec w):
  ∃ao cap ea,w.cell? ⟨a,0,none⟩=some (.slice ao L.length cap)∧w.cell? ⟨a,1,none⟩=some (.int .i64 (q:Int))∧w.cell? ⟨a,2,none⟩=some (.int .i64 E)∧w.cell? ⟨a,3,none⟩=some (.int .i64 (n:Int))∧w.cell? ⟨a,4,none⟩=some (.int .i64 ec)∧w.cell? ⟨a,5,none⟩=some (.int .i64 ea)∧
   (∀j,w.frozen? ⟨a,j,none⟩=false)∧∀j t,L[j]? =some t→∃g,ao=some ⟨g,0,none⟩∧w.cell? ⟨g,j * 2,none⟩=some (.string (bs t.1))∧w.cell? ⟨g,j * 2+1,none⟩=some (.int .i64 t.2):=by
 obtain⟨v,ea,h1,h2,_⟩:=h;obtain⟨ao,cap,rfl⟩:=aL h2;refine⟨ao,cap,ea,by simp [World.cell?,h1],by simp [World.cell?,h1],by simp [World.cell?,h1],by simp [World.cell?,h1],by simp [World.cell?,h1],by simp [World.cell?,h1],fun j=>by simp [World.frozen?,h1],fun j t hj=> ?_⟩;rcases h2.2 with ⟨hv,hn⟩ | ⟨g,cap,cur,hv2,_⟩
 ·have e:L= []:=List.length_eq_zero_iff.1 hn;subst e;simp at hj
 ·obtain⟨rfl,_⟩:ao=some ⟨g,0,none⟩∧True:=by cases hv2;exact⟨rfl,trivial⟩
  have hc:=h2.cells (g:=g) rfl;obtain⟨k1,k2⟩:=ss L j t hj;have e1:=hc _ _ k1;have e2:=hc _ _ k2;rw [Addr.add_lit,Nat.zero_add,Nat.mul_comm] at e1 e2;exact⟨g,rfl,e1,e2⟩
theorem RA.vr (h:RA a L E q n ec w) (h1:q≤L.length+2) (h2:ec=0→q < L.length):RA a L E (q+1) n ec (w.setCell ⟨a,1,none⟩ (.int .i64 ((q:Int)+1))):=by
 obtain⟨v,ea,k1,k2,k3,k4⟩:=h;refine⟨v,ea,?_,bO k2 (aU k2 k1 (by decide)) _,k3,k4.1,k4.2.1,by omega,fun e=>⟨(k4.2.2.2 e).1,h2 e⟩⟩;rw [show(q:Int)+1=((q+1:Nat):Int) by omega];exact(heap_setCell_same w a 1 _ 70 _ k1).trans rfl
theorem RA.Lr (h:RA a L E q n ec w) (h1:n≤4096) (h2:ec=0→n < 4096):RA a L E q (n+1) ec (w.setCell ⟨a,3,none⟩ (.int .i64 ((n:Int)+1))):=by
 obtain⟨v,ea,k1,k2,k3,k4⟩:=h;refine⟨v,ea,?_,bO k2 (aU k2 k1 (by decide)) _,k3,k4.1,by omega,k4.2.2.1,fun e=>⟨h2 e,(k4.2.2.2 e).2⟩⟩;rw [show(n:Int)+1=((n+1:Nat):Int) by omega];exact(heap_setCell_same w a 3 _ 70 _ k1).trans rfl
theorem RA.Ml (h:RA a L E q n ec w) {c:Int} (hc:c≠0) (p:Int):RA a L E q n c ((w.setCell ⟨a,4,none⟩ (.int .i64 c)).setCell ⟨a,5,none⟩ (.int .i64 p)):=by
 obtain⟨v,ea,k1,k2,k3,k4⟩:=h;have e1:(w.setCell ⟨a,4,none⟩ (.int .i64 c)).heap[a]? =some (.cells #[v,.int .i64 (q:Int),.int .i64 E,.int .i64 (n:Int),.int .i64 c,.int .i64 ea] 70 (0,0)):=(heap_setCell_same w a 4 _ 70 _ k1).trans rfl;have o1:=bO k2 (aU k2 k1 (by decide)) (p:=⟨a,4,none⟩) (.int .i64 c);exact⟨v,p,(heap_setCell_same _ a 5 _ 70 _ e1).trans rfl,bO o1 (aU o1 e1 (by decide)) _,k3,k4.1,k4.2.1,k4.2.2.1,fun e=>absurd e hc⟩
def Ran (a:Nat) (L:List Tok) (E:Int) (n q:Nat) (ec:Int) (d:Nat) (w w':World):Prop:=
 ∃q' ec',RA a L E q' n ec' w'∧Kr a w w'∧q≤q'∧(q'≤q∨q'≤L.length)∧(ec'=0→ec=0∧q+d≤q')
theorem ly {w1:World} (h:RA a L E q n ec w) (b:Below w.heap.size w w1) (hq:ec=0∧q < L.length):Ran a L E n q ec 1 w (w1.setCell ⟨a,1,none⟩ (.int .i64 ((q:Int)+1))):=
 ⟨q+1,ec,(h.below b).vr (by omega) (fun _=>hq.2),(Kr.bJ b).set _,by omega,by omega,fun e=>⟨e,by omega⟩⟩
def Bad (a:Nat) (L:List Tok) (E:Int) (n q:Nat) (w w':World):Prop:=(∃ec',ec'≠0∧RA a L E q n ec' w')∧Kr a w w'
theorem Bad.ran {w1:World} (h:Bad a L E n q w1 w') (b:Below w.heap.size w w1) (d:Nat):Ran a L E n q ec d w w':=by
 obtain⟨⟨ec',h1,h2⟩,k⟩:=h;exact⟨q,ec',h2,(Kr.bJ b).trans k,Nat.le_refl _,.inl (Nat.le_refl _),fun e=>absurd e h1⟩
theorem gE (c:Int) (hc:c≠0) (w:World) (h:RA a L E q n ec w):
  Calls Tryz.prog 35 #[.pointer (some ⟨a,0,none⟩),.int .i64 c] w fun e w'=>e= .returned (.tuple #[])∧Bad a L E n q w w':=by
 obtain⟨ao,cap,ea,c0,c1,c2,c3,c4,c5,fz,hL⟩:=h.cells;have z4:=fz 4;have z5:=fz 5;have hlm:=h.lim;have H:=ae h;have HB:Hid (∀(x:Int) (u:World),Below w.heap.size w u→Bad a L E n q w ((u.setCell ⟨a,4,none⟩ (.int .i64 c)).setCell ⟨a,5,none⟩ (.int .i64 x))):=ae fun x u b=>⟨⟨c,hc,(H.out.below b).Ml hc _⟩,((Kr.bJ b).set _).set _⟩;by_cases he:ec=0
 ·subst he;by_cases hq:q < L.length
  ·obtain⟨t,ht⟩:∃t,L[q]? =some t:=⟨_,List.getElem?_eq_getElem hq⟩;obtain⟨g,rfl,_,hc2⟩:=hL q t ht;have hq1:(q:Int) < (L.length:Int):=(by omega);have hq2:decide ((q:Int) < (L.length:Int))=true:=(by simpa using hq1);clear h fz hL ht hlm H c3;go_enter Tryz.func35,Tryz.ntmps35
   go_wp2_with fail
   go_quiet (fail)
   go_wp2_with fail
   go_quiet (fail)
   go_wp2_with fail
   exact sw rfl rfl ⟨rfl,HB.out _ _ ⟨rfl,rfl,rfl,Nat.le_refl _,fun _ _=>rfl⟩⟩
  ·have hq1:¬(q:Int) < (L.length:Int):=(by omega);have hq2:decide ((q:Int) < (L.length:Int))=false:=(by simpa using hq1);clear h fz hL hlm H c3;go_enter Tryz.func35,Tryz.ntmps35
   go_wp2_with fail
   go_quiet (fail)
   go_wp2_with fail
   exact sw rfl rfl ⟨rfl,HB.out _ _ ⟨rfl,rfl,rfl,Nat.le_refl _,fun _ _=>rfl⟩⟩
 ·have he2:(ec == 0)=false:=by simpa using he
  have he3:(ec != 0)=true:=by simpa using he
  have HB2:Hid (Bad a L E n q w w):=ae ⟨⟨ec,he,H.out⟩,Kr.refl a w⟩;clear h fz hL hlm H HB;go_enter Tryz.func35,Tryz.ntmps35
  go_wp2_with fail
  exact bodyPost_ret (results_none rfl _ _ _) rfl ⟨rfl,HB2.out⟩
theorem fS (i:Nat) (w:World) (h:RA a L E q n ec w) (hi:i≤1):
  Calls Tryz.prog 59 #[.pointer (some ⟨a,0,none⟩),.int .i64 i] w fun e w'=>(∃s,e= .returned (.string (bs s))∧s.length≤65536∧(s≠ []→ec=0∧q+i < L.length))∧Below w.heap.size w w':=by
 obtain⟨ao,cap,ea,c0,c1,c2,c3,c4,c5,fz,hL⟩:=h.cells;have hlm:=h.lim;have HN:Hid (∃s,Ending.returned (.string ⟨#[]⟩)= .returned (.string (bs s))∧s.length≤65536∧(s≠ []→ec=0∧q+i < L.length)):=ae ⟨[],rfl,by simp,fun e=>absurd rfl e⟩;obtain⟨m,hm⟩:∃m:Nat,m=q+i:=⟨_,rfl⟩;have hw:IntKind.i64.wrap ((q:Int)+(i:Int))=(m:Int):=by rw [IntWalk.i64_in _ ⟨by omega,by omega⟩];omega
 by_cases he:ec=0
 ·by_cases hlt:m < L.length
  ·obtain⟨t,ht⟩:∃t,L[m]? =some t:=⟨_,List.getElem?_eq_getElem hlt⟩;obtain⟨g,rfl,hcc,_⟩:=hL m t ht;have HS:Hid (∃s,Ending.returned (.string (bs t.1))= .returned (.string (bs s))∧s.length≤65536∧(s≠ []→ec=0∧q+i < L.length)):=ae ⟨t.1,rfl,(hlm.1.2 t (List.mem_of_getElem? ht)).1,fun _=>⟨he,by omega⟩⟩;have hg1:decide ((L.length:Int)≤(m:Int))=false:=(by simp;omega);have hm1:(m:Int) < L.length:=(by omega);have hm0:(0:Int)≤m:=(by omega);subst he;clear h fz hL ht hlm hm c2 c3 c5 HN;go_enter Tryz.func59,Tryz.ntmps59
   go_wp2_with fail
   go_quiet (fail)
   go_wp2_with fail
   go_quiet (fail)
   go_wp2_with fail
   go_ret;exact⟨HS.out,⟨rfl,rfl,rfl,Nat.le_refl _,fun _ _=>rfl⟩⟩
  ·have hg1:decide ((L.length:Int)≤(m:Int))=true:=(by simp;omega);have hg2:(L.length:Int)≤(m:Int):=(by omega);have hg3:L.length≤m:=(by omega);subst he;clear h fz hL hlm hm c2 c3 c5;go_enter Tryz.func59,Tryz.ntmps59
   go_wp2_with fail
   go_quiet (fail)
   go_wp2_with fail
   go_ret;exact⟨HN.out,⟨rfl,rfl,rfl,Nat.le_refl _,fun _ _=>rfl⟩⟩
 ·have he2:(ec == 0)=false:=by simpa using he
  have he3:(ec != 0)=true:=by simpa using he
  clear h fz hL hlm hm c2 c3 c5;go_enter Tryz.func59,Tryz.ntmps59
  go_wp2_with fail
  try go_quiet (fail)
  try go_wp2_with fail
  go_ret;exact⟨HN.out,⟨rfl,rfl,rfl,Nat.le_refl _,fun _ _=>rfl⟩⟩
end
section
variable {a:Nat} {L:List Tok} {E:Int} {q n:Nat} {ec:Int}
theorem RA.at1 {w:World} (h:RA a L E q n ec w):w.cell? ⟨a,1,none⟩=some (.int .i64 (q:Int))∧w.frozen? ⟨a,1,none⟩=false∧w.cell? ⟨a,4,none⟩=some (.int .i64 ec)∧(q:Int)≤131075:=by
 have hl:=h.lim;obtain⟨ao,cap,ea,c0,c1,c2,c3,c4,c5,fz,hL⟩:=h.cells;exact⟨c1,fz 1,c4,by omega⟩
theorem beq_eq {s t:List UInt8} (h:((bs t).toList == (bs s).toList)=true):t=s:=by
 have:=lH t s;rw [show(bs s).toList=s by rw [ByteArray.toList_eq,dz]] at h;rw [h] at this;exact of_decide_eq_true this.symm
theorem qd (s:List UInt8) (w:World) (h:RA a L E q n ec w) (hne:s≠ []):
  Calls Tryz.prog 57 #[.pointer (some ⟨a,0,none⟩),.string (bs s)] w fun e w'=>e= .returned (.tuple #[])∧Ran a L E n q ec 1 w w':=by
 obtain⟨c1,z1,c4,hq⟩:=h.at1;have H:=ae h;clear h c1 z1;by_cases he:ec=0
 ·subst he;go_enter Tryz.func57,Tryz.ntmps57
  go_wp2_with fail
  refine(fS 0 w H.out (by omega)).mono ?_;rintro e w1 ⟨⟨t,rfl,_,ht⟩,b1⟩;obtain⟨c1,z1,_,_⟩:=(H.out.below b1).at1
  cases hb:((bs t).toList == (bs s).toList)with
  |true=>
   have HA:=ae (ly H.out b1 (ht (by rw [beq_eq hb];exact hne)));clear b1 c4 ht;go_wp2_with fail
   exact sw rfl rfl ⟨rfl,HA.out⟩
  |false=>
   have B1:=ae b1;clear b1 c4 ht c1 z1;go_wp2_with fail
   refine(gE 2 (by omega) w1 (H.out.below B1.out)).mono ?_;rintro e w2 ⟨rfl,b2⟩;have HB:=ae b2;clear b2;go_wp2_with fail
   exact sw rfl rfl ⟨rfl,HB.out.ran B1.out _⟩
 ·have he2:(ec == 0)=false:=by simpa using he
  go_enter Tryz.func57,Tryz.ntmps57
  go_wp2_with fail
  refine(gE 2 (by omega) w H.out).mono ?_;rintro e w2 ⟨rfl,b2⟩;have HB:=ae b2;clear b2;go_wp2_with fail
  exact sw rfl rfl ⟨rfl,HB.out.ran (Below.refl _ _) _⟩
theorem IA (w:World) (h:RA a L E q n ec w):
  Calls Tryz.prog 58 #[.pointer (some ⟨a,0,none⟩)] w fun e w'=>(∃s,e= .returned (.string (bs s))∧s.length≤65536)∧Ran a L E n q ec 1 w w':=by
 have H:=ae h;clear h;go_enter Tryz.func58,Tryz.ntmps58
 go_wp2_with fail
 refine(fS 0 w H.out (by omega)).mono ?_;rintro e w1 ⟨⟨t,rfl,hz,ht⟩,b1⟩;have hsz:(bs t).size≤maxLen:=by rw [aY];unfold maxLen;omega
 have B1:=ae b1;have HZ:=ae hz;clear b1 hz;go_wp2_with fail
 refine(L2.lD (bs t) w1 hsz).mono ?_;rintro e w2 ⟨rfl,hw2⟩;rw [hw2,dz];clear hw2
 cases hn:L2.fk t with
 |true=>
  obtain⟨c1,z1,c4,hq⟩:=(H.out.below B1.out).at1;have HA:=ae (ly H.out B1.out (ht (AB hn)));clear hn ht c4;go_wp2_with fail
  go_ret;exact⟨⟨t,rfl,HZ.out⟩,HA.out⟩
 |false=>
  clear hn ht;go_wp2_with fail
  refine(gE 4 (by omega) w1 (H.out.below B1.out)).mono ?_;rintro e w2 ⟨rfl,b2⟩;have HB:=ae b2;clear b2;go_wp2_with fail
  go_ret;exact⟨⟨[],rfl,by simp⟩,HB.out.ran B1.out _⟩
theorem yK (c:UInt8) (most k:Int) (hk:k≠0) (hm:0≤most) (w:World) (h:RA a L E q n ec w):
  Calls Tryz.prog 132 #[.pointer (some ⟨a,0,none⟩),.int .u8 (c.toNat:Int),.int .i64 most,.int .i64 k] w fun e w'=>(∃v,e= .returned (.int .i64 v)∧0≤v∧v≤most)∧Ran a L E n q ec 1 w w':=by
 have H:=ae h;have Z0:Hid (∃v,Ending.returned (.int .i64 0)= .returned (.int .i64 v)∧0≤v∧v≤most):=ae ⟨0,rfl,by omega,hm⟩;have HK:=ae hk;clear h hm hk;go_enter Tryz.func132,Tryz.ntmps132
 go_wp2_with fail
 refine(fS 0 w H.out (by omega)).mono ?_;rintro e w1 ⟨⟨t,rfl,hz,ht⟩,b1⟩;have B1:=ae b1;clear b1;by_cases h2:(bs t).size < 2
 ·have h3:decide (((bs t).size:Int) < 2)=true:=by simp;omega
  have h4:((bs t).size:Int) < 2:=by omega
  clear ht;go_wp2_with fail
  refine(gE k HK.out w1 (H.out.below B1.out)).mono ?_;rintro e w2 ⟨rfl,b2⟩;have HB:=ae b2;clear b2;go_wp2_with fail
  go_ret;exact⟨Z0.out,HB.out.ran B1.out _⟩
 ·have h3:decide (((bs t).size:Int) < 2)=false:=by simp;omega
  obtain⟨x,r,rfl⟩:∃x r,t=x :: r:=by cases t with | nil=>simp [aY] at h2 | cons x r=>exact⟨x,r,rfl⟩
  have HT:=ae (ht (by simp));have hrz:(bs r).size≤maxLen:=by rw [aY];simp at hz;unfold maxLen;omega
  obtain⟨C,hC⟩:∃C,C=bs (x :: r):=⟨_,rfl⟩;rw [←hC] at h2 h3;rw [←hC];have hz4:0 < C.size:=by omega
  have hz5:1≤C.size:=by omega
  have hT:C.extract 1 C.size=bs r:=by rw [hC];exact At x r
  have h0':(C[0].toNat:Int)=(x.toNat:Int):=by subst hC;rfl
  have hz3:C.size≤65536:=by rw [hC,aY];exact hz
  clear ht hz h2 hC
  cases hx:((x.toNat:Int) == (c.toNat:Int))with
  |false=>
   have hx2:((x.toNat:Int) != (c.toNat:Int))=true:=(by rw [bne,hx];rfl);go_wp2_with fail
   refine(gE k HK.out w1 (H.out.below B1.out)).mono ?_;rintro e w2 ⟨rfl,b2⟩;have HB:=ae b2;clear b2;go_wp2_with fail
   go_ret;exact⟨Z0.out,HB.out.ran B1.out _⟩
  |true=>
   have hx2:((x.toNat:Int) != (c.toNat:Int))=false:=(by rw [bne,hx];rfl);go_wp2_with fail
   refine(L1.nb (bs r) most w1 hrz).mono ?_;rintro e w2 ⟨rfl,n2,hw2⟩;rw [dz];have B2:Hid (Below w.heap.size w w2):=ae (by rw [hw2];exact below_drewN B1.out _);clear hw2;have HI:Hid ((L1.cZ r most).2=0→0≤(L1.cZ r most).1∧(L1.cZ r most).1≤most):=ae (by
    by_cases k1:(L1.aO r).2=0
    ·by_cases k2:(L1.aO r).1 < 0∨most < (L1.aO r).1
     ·rw [L1.jF _ _ k1 k2];intro e;cases e
     ·rw [L1.kH _ _ k1 k2];intro _;omega
    ·rw [L1.jK _ _ k1];intro e;exact absurd e k1)
   generalize L1.cZ r most=p at *;obtain⟨v,bad⟩:=p;by_cases hb:bad=0
   ·subst hb;have HI2:=ae (HI.out rfl);obtain⟨c1,z1,c4,hq⟩:=(H.out.below B2.out).at1;have HA:=ae (ly H.out B2.out HT.out);clear c4 HI hx hx2;go_wp2_with fail
    go_ret;exact⟨⟨v,rfl,HI2.out⟩,HA.out⟩
   ·have hb2:(bad == 0)=false:=(by simpa using hb);have hb3:(bad != 0)=true:=(by simpa using hb);clear hx hx2;go_wp2_with fail
    refine(gE k HK.out w2 (H.out.below B2.out)).mono ?_;rintro e w3 ⟨rfl,b3⟩;have HB:=ae b3;clear b3;go_wp2_with fail
    go_ret;exact⟨Z0.out,HB.out.ran B2.out _⟩
theorem pZ (w:World) (h:RA a L E q n ec w):
  Calls Tryz.prog 107 #[.pointer (some ⟨a,0,none⟩)] w fun e w'=>(∃v,e= .returned (.int .i64 v)∧0≤v∧v≤1048576)∧Ran a L E n q ec 1 w w':=by
 have H:=ae h;clear h;go_enter Tryz.func107,Tryz.ntmps107
 go_wp2_with fail
 refine(yK 37 1048576 8 (by omega) (by omega) w H.out).mono ?_;rintro e w1 ⟨⟨v,rfl,hv⟩,b1⟩;have HB:=ae b1;have HV:=ae hv;clear b1 hv;go_wp2_with fail
 go_ret;exact⟨⟨v,rfl,HV.out⟩,HB.out⟩
theorem zv (w:World) (h:RA a L E q n ec w):
  Calls Tryz.prog 154 #[.pointer (some ⟨a,0,none⟩)] w fun e w'=>(∃v,e= .returned (.int .i64 v)∧0≤v∧v≤255)∧Ran a L E n q ec 1 w w':=by
 have H:=ae h;clear h;go_enter Tryz.func154,Tryz.ntmps154
 go_wp2_with fail
 refine(yK 98 255 7 (by omega) (by omega) w H.out).mono ?_;rintro e w1 ⟨⟨v,rfl,hv⟩,b1⟩;have HB:=ae b1;have HV:=ae hv;clear b1 hv;go_wp2_with fail
 go_ret;exact⟨⟨v,rfl,HV.out⟩,HB.out⟩
theorem oN (lo hi:Int) (w:World) (h:RA a L E q n ec w):
  Calls Tryz.prog 134 #[.pointer (some ⟨a,0,none⟩),.int .i64 lo,.int .i64 hi] w fun e w'=>(∃v,e= .returned (.int .i64 v)∧ -9223372036854775808≤v∧v≤9223372036854775807)∧Ran a L E n q ec 1 w w':=by
 have H:=ae h;have Z0:Hid (∃v,Ending.returned (.int .i64 0)= .returned (.int .i64 v)∧ -9223372036854775808≤v∧v≤9223372036854775807):=ae ⟨0,rfl,by omega,by omega⟩;clear h;go_enter Tryz.func134,Tryz.ntmps134
 go_wp2_with fail
 refine(fS 0 w H.out (by omega)).mono ?_;rintro e w1 ⟨⟨t,rfl,hz,ht⟩,b1⟩;have hsz:(bs t).size≤maxLen:=by rw [aY];unfold maxLen;omega
 go_wp2_with fail
 refine(L1.j8 (bs t) w1 hsz).mono ?_;rintro e w2 ⟨rfl,n2,hw2⟩;rw [dz];have B2:Hid (Below w.heap.size w w2):=ae (by rw [hw2];exact below_drewN b1 _);have HR:=ae (L1.iX t);have HT:Hid ((L1.aO t).2=0→ec=0∧q < L.length):=ae (fun e=>ht (fun e2=>by subst e2;exact mN e));clear hw2 b1 hz hsz ht;generalize L1.aO t=p at *;obtain⟨v,c⟩:=p;have FA:∀(c:Int),c≠0→Calls Tryz.prog 35 #[.pointer (some ⟨a,0,none⟩),.int .i64 c] w2 fun e w'=>e= .returned (.tuple #[])∧Bad a L E n q w2 w':=fun c hc=>gE c hc w2 (H.out.below B2.out);replace FA:=ae FA;by_cases hc:c=0
 ·subst hc;by_cases h1:v < lo
  ·have g1:decide (v < lo)=true:=(by simpa using h1);go_wp2_with fail
   refine(FA.out 18 (by omega)).mono ?_;rintro e w3 ⟨rfl,b3⟩;have HB:=ae b3;clear b3;go_wp2_with fail
   go_ret;exact⟨Z0.out,HB.out.ran B2.out _⟩
  ·have g1:decide (v < lo)=false:=(by simpa using h1);by_cases h2:hi < v
   ·have g2:decide (hi < v)=true:=(by simpa using h2);go_wp2_with fail
    refine(FA.out 18 (by omega)).mono ?_;rintro e w3 ⟨rfl,b3⟩;have HB:=ae b3;clear b3;go_wp2_with fail
    go_ret;exact⟨Z0.out,HB.out.ran B2.out _⟩
   ·have g2:decide (hi < v)=false:=(by simpa using h2);obtain⟨c1,z1,c4,hq⟩:=(H.out.below B2.out).at1;have HA:=ae (ly H.out B2.out (HT.out rfl));clear c4;go_wp2_with fail
    go_ret;exact⟨⟨v,rfl,HR.out⟩,HA.out⟩
 ·have g1:(c == 0)=false:=by simpa using hc
  have g2:(c != 0)=true:=by simpa using hc
  go_wp2_with fail
  refine(FA.out c hc).mono ?_;rintro e w3 ⟨rfl,b3⟩;have HB:=ae b3;clear b3;go_wp2_with fail
  go_ret;exact⟨Z0.out,HB.out.ran B2.out _⟩
theorem Ez (w:World) (h:RA a L E q n ec w):
  Calls Tryz.prog 137 #[.pointer (some ⟨a,0,none⟩)] w fun e w'=>(∃b,e= .returned (.bool b)∧(b=true→ec=0))∧Below w.heap.size w w':=by
 have H:=ae h;clear h;go_enter Tryz.func137,Tryz.ntmps137
 go_wp2_with fail
 refine(fS 0 w H.out (by omega)).mono ?_;rintro e w1 ⟨⟨t,rfl,hz,ht⟩,b1⟩;have hzz:(bs t).size≤65536:=by rw [aY];exact hz
 have B1:=ae b1;have HT:=ae ht;clear ht b1;rcases jx 37 t with ⟨hs,e0⟩ | ⟨x,r,hs,e0,hp,⟨hx,e1⟩ | ⟨hx,e1⟩⟩
 ·clear hs;generalize bs t=C at *;go_wp2_with fail
  go_ret;exact⟨⟨false,rfl,fun e=>by cases e⟩,B1.out⟩
 ·have HE:=ae (HT.out (by rw [hs];simp)).1;replace e1:((bs t)[0].toNat:Int)=37:=e1 hp;clear hs hx HT;generalize bs t=C at *;go_wp2_with fail
  refine(fS 1 w1 (H.out.below B1.out) (by omega)).mono ?_;rintro e w2 ⟨⟨t2,rfl,_,_⟩,b2⟩;have B2:=ae (af B1.out b2);clear b2;go_wp2_with fail
  go_ret;exact⟨⟨_,rfl,fun _=>HE.out⟩,B2.out⟩
 ·replace e1:(((bs t)[0].toNat:Int) == 37)=false:=e1 hp;clear hs hx HT;generalize bs t=C at *;go_wp2_with fail
  go_ret;exact⟨⟨false,rfl,fun e=>by cases e⟩,B1.out⟩
theorem Kz (w:World) (h:RA a L E q n ec w):
  Calls Tryz.prog 153 #[.pointer (some ⟨a,0,none⟩)] w fun e w'=>(∃b,e= .returned (.bool b))∧Below w.heap.size w w':=by
 have H:=ae h;clear h;go_enter Tryz.func153,Tryz.ntmps153
 go_wp2_with fail
 refine(fS 0 w H.out (by omega)).mono ?_;rintro e w1 ⟨⟨t,rfl,hz,_⟩,b1⟩;have hzz:(bs t).size≤65536:=by rw [aY];exact hz
 have B1:=ae b1;clear b1;rcases jx 98 t with ⟨hs,e0⟩ | ⟨x,r,hs,e0,hp,⟨hx,e1⟩ | ⟨hx,e1⟩⟩
 ·clear hs hz;generalize bs t=C at *;go_wp2_with fail
  go_ret;exact⟨⟨false,rfl⟩,B1.out⟩
 ·replace e1:((bs t)[0].toNat:Int)=98:=e1 hp;clear hs hx hz;generalize bs t=C at *
  cases hb:(C.toList == [98,114])with
  |true=>
   go_wp2_with fail
   go_ret;exact⟨⟨false,rfl⟩,B1.out⟩
  |false=>
   go_wp2_with fail
   refine(fS 1 w1 (H.out.below B1.out) (by omega)).mono ?_;rintro e w2 ⟨⟨t2,rfl,_,_⟩,b2⟩;have B2:=ae (af B1.out b2);clear b2;go_wp2_with fail
   go_ret;exact⟨⟨_,rfl⟩,B2.out⟩
 ·replace e1:(((bs t)[0].toNat:Int) == 98)=false:=e1 hp;clear hs hx hz;generalize bs t=C at *;go_wp2_with fail
  go_ret;exact⟨⟨false,rfl⟩,B1.out⟩
end
end Go.Proofs.YtljkgcfnoegibaaGreatDoor
