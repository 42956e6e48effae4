/- Texts of one chain, joined. -/
import Derived.Test.YtaiaakklokahjaaGreatDoorZWaAM
import Derived.Test.YtaiaakklokahjaaGreatDoorZWaAO
import Derived.ChangeAlike
import Derived.Deep.LoopGhost
set_option maxHeartbeats 8000000
set_option maxRecDepth 20000
namespace Go.Proofs.YtaiaakklokahjaaGreatDoor
open Go Go.RowKit
def fV (l:List Int) (i:Nat):List Int:=(List.range l.length).map fun p=>if p < i∨l.length≤p+i then l.getD (l.length - 1 - p) 0 else l.getD p 0
theorem eS (l:List Int) (i:Nat):(fV l i).length=l.length:=by simp [fV]
theorem ik {l:List Int} (i:Nat) {p:Nat} (hp:p < l.length):(fV l i)[p]? =some (if p < i∨l.length≤p+i then l.getD (l.length - 1 - p) 0 else l.getD p 0):=by
 unfold fV;rw [List.getElem?_map,List.getElem?_range hp];rfl
theorem xq (l:List Int):fV l 0=l:=by
 apply List.ext_getElem?;intro p;by_cases hp:p < l.length
 ·rw [ik _ hp,if_neg (by omega),List.getElem?_eq_getElem hp,List.getD_eq_getElem?_getD,List.getElem?_eq_getElem hp];rfl
 ·rw [List.getElem?_eq_none (by rw [eS];omega),List.getElem?_eq_none (by omega)]
theorem zV {l:List Int} {i:Nat} (h:l.length≤2 * i+1):fV l i=l.reverse:=by
 apply List.ext_getElem?;intro p;by_cases hp:p < l.length
 ·rw [ik _ hp,List.getElem?_reverse hp,List.getElem?_eq_getElem (by omega:l.length - 1 - p < l.length)];congr 1
  by_cases e:p < i∨l.length≤p+i
  ·rw [if_pos e,List.getD_eq_getElem?_getD,List.getElem?_eq_getElem (by omega:l.length - 1 - p < l.length)];rfl
  ·rw [if_neg e,List.getD_eq_getElem?_getD,List.getElem?_eq_getElem hp];have e2:l.length - 1 - p=p:=(by omega);simp only [e2];rfl
 ·rw [List.getElem?_eq_none (by rw [eS];omega),List.getElem?_eq_none (by rw [List.length_reverse];omega)]
theorem xn {l:List Int} {i j:Nat} {x y:Int} (hj:j=l.length - 1 - i) (hij:i < j) (hx:(fV l i)[i]? =some x) (hy:(fV l i)[j]? =some y):((fV l i).set i y).set j x=fV l (i+1):=by
 have hi:i < l.length:=by omega
 have hjl:j < l.length:=by omega
 rw [ik _ hi,if_neg (by omega)] at hx;rw [ik _ hjl,if_neg (by omega)] at hy;injection hx with hx;injection hy with hy;subst hx hy;apply List.ext_getElem?;intro p;rw [List.getElem?_set,List.getElem?_set,List.length_set,eS];by_cases hp:p < l.length
 ·rw [ik _ hp,ik _ hp];by_cases e1:j=p
  ·subst e1;rw [if_pos rfl,if_pos hjl,if_pos (by omega)];have e2:l.length - 1 - j=i:=(by omega);rw [e2]
  ·rw [if_neg e1];by_cases e2:i=p
   ·subst e2;rw [if_pos rfl,if_pos hi,if_pos (by omega),hj]
   ·rw [if_neg e2];by_cases e3:p < i∨l.length≤p+i
    ·rw [if_pos e3,if_pos (by omega)]
    ·rw [if_neg e3,if_neg (by omega)]
 ·rw [if_neg (by omega),if_neg (by omega),List.getElem?_eq_none (by rw [eS];omega),List.getElem?_eq_none (by rw [eS];omega)]
theorem C9 {B g n c i j:Nat} {w:World} {l:List Int} {x y:Int} (h:w.ownsRow B 3 1 (.slice (some ⟨g,0,none⟩) n c) n (ints l)):((w.setCell ⟨g,i,none⟩ (.int .i64 y)).setCell ⟨g,j,none⟩ (.int .i64 x)).drew.ownsRow B 3 1 (.slice (some ⟨g,0,none⟩) n c) n (ints ((l.set i y).set j x)):=by
 rw [←ints_set,←ints_set];exact az (L5.aW _) _ _ _ _ _ _ (World.ownsRow.stored (World.ownsRow.stored h i (.int .i64 y)).1 j (.int .i64 x)).1
theorem ug (l r:List Int) (hr:l.reverse=r) (B g c:Nat) (w:World) (h:w.ownsRow B 3 1 (.slice (some ⟨g,0,none⟩) l.length c) l.length (ints l)) (hl:l.length≤1000000):
  Calls Tryz.prog 151 #[.slice (some ⟨g,0,none⟩) l.length c] w fun e w'=>e= .returned (.tuple #[])∧w'.ownsRow B 3 1 (.slice (some ⟨g,0,none⟩) l.length c) l.length (ints r)∧Below B w w':=by
 have hB:B≤g:=(h.lt g rfl).1;replace hr:=aa hr;have H0:Hid (w.ownsRow B 3 1 (.slice (some ⟨g,0,none⟩) l.length c) l.length (ints (fV l 0))):=aa (by rw [xq];exact h);clear h;go_enter Tryz.func151,Tryz.ntmps151
 go_wp2_with fail
 go_loopw [2,3] (fun i j wr=>∃I:Nat,2 * I≤l.length∧i= .int .i64 I∧j= .int .i64 ((l.length:Int) - 1 - I)∧Hid (wr.ownsRow B 3 1 (.slice (some ⟨g,0,none⟩) l.length c) l.length (ints (fV l I)))∧Hid (Below B w wr)) (fun i j _=>(intOf j - intOf i).toNat)
 case atStart=>exact⟨0,by omega,rfl,by go_num,H0,aa (Below.refl _ _)⟩
 case round=>
  clear H0;obtain⟨I,hI,rfl,rfl,HO,HW⟩:=hrel;by_cases hlt:2 * I+1 < l.length
  ·obtain⟨J,hJ⟩:∃J,J=l.length - 1 - I:=⟨_,rfl⟩;have hJI:(l.length:Int) - 1 - I=(J:Int):=(by omega);have hIJ:(I:Int) < (J:Int):=(by omega);have hJl:(J:Int) < l.length:=(by omega);have hIl:(I:Int) < l.length:=(by omega);obtain⟨x,hx⟩:∃x,(fV l I)[I]? =some x:=⟨_,List.getElem?_eq_getElem (by rw [eS];omega)⟩;obtain⟨y,hy⟩:∃y,(fV l I)[J]? =some y:=⟨_,List.getElem?_eq_getElem (by rw [eS];omega)⟩;have c1:wr.cell? ⟨g,I,none⟩=some (.int .i64 x):=(by rw [World.ownsRow.cellAt HO.out I (by omega)];exact ints_at hx);have c2:wr.cell? ⟨g,J,none⟩=some (.int .i64 y):=(by rw [World.ownsRow.cellAt HO.out J (by omega)];exact ints_at hy);have f1:=World.ownsRow.frozenAt HO.out I;have f2:=World.ownsRow.frozenAt HO.out J;have HR:=aa (xn hJ (by omega) hx hy);rw [hJI];clear hx hy hJ;go_wp2_with fail
   go_region
   have HE:Hid (((wr.setCell ⟨g,I,none⟩ (.int .i64 y)).setCell ⟨g,J,none⟩ (.int .i64 x)).drew.ownsRow B 3 1 (.slice (some ⟨g,0,none⟩) l.length c) l.length (ints (fV l (I+1)))):=aa (by rw [←HR.out];exact C9 HO.out);have HE2:Hid (Below B w ((wr.setCell ⟨g,I,none⟩ (.int .i64 y)).setCell ⟨g,J,none⟩ (.int .i64 x)).drew):=aa (((HW.out.setCell (p:=⟨g,I,none⟩) hB _).setCell (p:=⟨g,J,none⟩) hB _).drew);go_wp2_with fail
   go_roundw
   case rel=>exact⟨I+1,by omega,by go_num,by rw [←hJI];go_num,HE,HE2⟩
   case measure=>simp [intOf];omega
  ·have hnl:¬(I:Int) < (l.length:Int) - 1 - I:=(by omega);have HE:Hid (wr.ownsRow B 3 1 (.slice (some ⟨g,0,none⟩) l.length c) l.length (ints r)):=aa (by rw [←hr.out,←zV (i:=I) (by omega)];exact HO.out);go_wp2_with fail
   go_end0
   exact⟨rfl,HE.out,HW.out⟩
open G (Tok Er Ins Fun)
theorem Tryz.ES:(Tryz.prog.info? 4).map (fun i=>(i.zero,i.size,i.bytes))=some (some (.bool false),1,1):=by kernel_rfl
theorem GA {B g n c:Nat} {w:World} {l:List Int} {x:Int} (h:w.ownsRow B 3 1 (.slice (some ⟨g,0,none⟩) (n+1) c) (n+1) (ints (l ++ [x]))) (hn:l.length=n):w.ownsRow B 3 1 (.slice (some ⟨g,0,none⟩) n c) n (ints l):=by
 rcases h.2 with ⟨h',_⟩ | ⟨g',cap',cur,h',hb,hg,hnc,hcm,hcs,htake⟩
 ·simp at h'
 ·simp only [Value.slice.injEq,Option.some.injEq,Addr.mk.injEq,and_true,true_and] at h';obtain⟨rfl,rfl⟩:=h';refine⟨by simp [ints,hn],.inr ⟨g,c,cur,rfl,hb,hg,by omega,hcm,hcs,?_⟩⟩;have e:cur.toList.take (n * 1)=(cur.toList.take ((n+1) * 1)).take (n * 1):=by rw [List.take_take];congr 1;omega
  rw [e,htake];simp [ints,←hn]
def lI (u v:Value):Prop:=u.ownBlock=none∨u.ownBlock≠v.ownBlock
theorem lI.symm {u v:Value} (h:lI u v):lI v u:=by
 rcases h with h | h
 ·cases hv:v.ownBlock with
  |none=>exact .inl hv
  |some k=>right;rw [h,hv];simp
 ·exact .inr fun e=>h e.symm
theorem lI.grow {B n:Nat} {u v v':Value} {xs:List Value} {w:World} {o:Obj} (h:lI u v) (hu:w.ownsRow B 3 1 u n xs) (hat:v'.ownBlock=v.ownBlock∨v'.ownBlock=some (w.alloc o).heap.size):lI u v':=by
 rcases hat with e | e
 ·rcases h with h | h
  ·exact .inl h
  ·right;rw [e];exact h
 ·cases hb:u.ownBlock with
  |none=>exact .inl hb
  |some k=>
   right;rw [e,hb];have:=(hu.lt k hb).2;simp;omega
def tV (f:Fun) (B g1 g2:Nat) (W:World) (k:Nat) (way done:List Int) (wv dv:Value) (wr:World):Prop:=∃tr mt,Dfs f way done tr mt∧dW f done tr≤k∧bg wr W.heap.size 4 g1 f.2.2.2.1.length (ef mt)∧bg wr W.heap.size 3 g2 f.2.2.2.1.length (ints tr)∧
 wr.ownsRow B 3 1 wv way.length (ints way)∧wr.ownsRow B 3 1 dv done.length (ints done)∧lI wv dv∧Below W.heap.size W wr∧B≤wr.heap.size
theorem tV.below {f:Fun} {B g1 g2 k:Nat} {W wr w':World} {way done:List Int} {wv dv:Value} (h:tV f B g1 g2 W k way done wv dv wr) (b:Below wr.heap.size wr w'):tV f B g1 g2 W k way done wv dv w':=by
 obtain⟨tr,mt,h1,h2,h3,h4,h5,h6,h7,h8,h9⟩:=h;exact⟨tr,mt,h1,h2,h3.below b,h4.below b,az b _ _ _ _ _ _ h5,az b _ _ _ _ _ _ h6,h7,ae h8 b,Nat.le_trans h9 b.size⟩
theorem BQ {l:List Int} (h:l≠ []):∃up k,l=up ++ [k]:=⟨l.dropLast,l.getLast h,(List.dropLast_concat_getLast h).symm⟩
theorem zY (f:Fun) (no:Option Addr) (nc:Nat) (w:World) (hr:jL w no (aC f)) (hF:Ful f) (hT:Tos f) (h0:0 < f.2.2.2.1.length):
  Calls Tryz.prog 102 #[.slice no f.2.2.2.1.length nc] w fun e w'=>∃u,e= .returned u∧w'.ownsRow w.heap.size 3 1 u (aE f).length (ints (aE f))∧Below w.heap.size w w':=by
 obtain⟨i4,hi4,hy0,hy1,hy2⟩:=info_parts Tryz.ES;obtain⟨i3,hi3,hz3,hz4,hz5⟩:=info_parts Tryz.cU;have HR:=aa hr;have HFu:=aa hF;have HTo:=aa hT;have hbl:f.2.2.2.1.length≤1000000:=hF.1;have HSt:=aa (Dfs.start h0);have hol:=kG hT h0;have HOr:Hid ((cg f f.2.2.2.1.length 0 [] []).reverse=aE f∧(aE f).length=(cg f f.2.2.2.1.length 0 [] []).length∧0 < (cg f f.2.2.2.1.length 0 [] []).length):=aa (by
  refine⟨rfl,by simp [aE],?_⟩;obtain⟨M,hM⟩:∃M,f.2.2.2.1.length=M+1:=⟨f.2.2.2.1.length - 1,by omega⟩;rw [hM,ek];simp)
 obtain⟨N,hN⟩:∃N,N=f.2.2.2.1.length:=⟨_,rfl⟩;have HN:=aa hN;rw [←hN] at hbl HSt hol h0;rw [←hN];have hN0:((N:Int) == 0)=false:=beq_eq_false_iff_ne.2 (by omega);clear hr hF hT hN;go_enter Tryz.func102,Tryz.ntmps102
 go_upto_region 4 with (at_make;refine wpList_make_full _ rfl _ _ 167 rfl w.heap.size 4 i4 _ 1 Tryz.underlying167 hi4 hy0 hy1 .i64 .i64 N N N rfl rfl rfl rfl (by rw [hy2];omega) (by unfold maxLen;omega) (Nat.le_refl _) ?_;intro w1 own1 grow1;refine Hid.out ?_)
 rw [wG] at own1;have R1:Hid (bg w1 w.heap.size 4 w.heap.size N (ef (List.replicate N false))):=aa own1;have B1:=aa (jX grow1);have hs1:=B1.out.size;clear own1 grow1;refine aa ?_;go_upto_region 5 with (at_make;refine wpList_make_full _ rfl _ _ 26 rfl w.heap.size 3 i3 _ 1 Tryz.underlying26 hi3 hz3 hz4 .i64 .i64 N N N rfl rfl rfl rfl (by rw [hz5];omega) (by unfold maxLen;omega) hs1 ?_;intro w2 own2 grow2;refine Hid.out ?_)
 rw [qt] at own2;have R2:Hid (bg w2 w.heap.size 3 w1.heap.size N (ints (List.replicate N 0))):=aa own2;have B2:=aa (jX grow2);have R12:=aa (R1.out.below B2.out);have B12:=aa (ae B1.out B2.out);have hg1:w.heap.size < w1.heap.size:=R1.out.lt.2;have hg2:w1.heap.size < w2.heap.size:=R2.out.lt.2;clear own2 grow2 hs1 R1 B1 B2;have c0:=R12.out.cell (j:=0) (u:= .bool false) (by rw [ef,List.getElem?_map,List.getElem?_replicate,if_pos h0];rfl);have z0:=R12.out.frozen 0;have hNI:(0:Int) < N:=by omega
 refine aa ?_;go_upto_region 6 with fail
 show Code.wp _ _ _ _ (w2.setCell ⟨w.heap.size,0,none⟩ (.bool true));have hs3:(w2.setCell ⟨w.heap.size,0,none⟩ (.bool true)).heap.size=w2.heap.size:=by simp
 have R13:Hid (bg (w2.setCell ⟨w.heap.size,0,none⟩ (.bool true)) w.heap.size 4 w.heap.size N (ef ((List.replicate N false).set 0 true))):=aa (by rw [←qd];exact R12.out.set 0 _);have R23:Hid (bg (w2.setCell ⟨w.heap.size,0,none⟩ (.bool true)) w.heap.size 3 w1.heap.size N (ints (List.replicate N 0))):=aa (R2.out.other (p:=⟨w.heap.size,0,none⟩) (by show w1.heap.size≠w.heap.size;omega) _);have B3:Hid (Below w.heap.size w (w2.setCell ⟨w.heap.size,0,none⟩ (.bool true))):=aa (B12.out.setCell (p:=⟨w.heap.size,0,none⟩) (Nat.le_refl _) _);generalize w2.setCell ⟨w.heap.size,0,none⟩ (.bool true)=w3 at *;have b4:=af w3 (.cells #[.int .i64 0] 3);have HS4:Hid (tV f w2.heap.size w.heap.size w1.heap.size w (dW f [] (List.replicate N 0)) [0] [] (.slice (some ⟨w3.heap.size,0,none⟩) 1 1) (.slice none 0 0) (w3.alloc (.cells #[.int .i64 0] 3))):=aa (by
  refine⟨_,_,HSt.out,Nat.le_refl _,?_,?_,World.ownsRow_lit w3 #[.int .i64 0] 1 (by omega) (by unfold maxLen;omega) rfl,World.ownsRow_nil _ _ _ _,.inr (by simp [Value.ownBlock]),ae B3.out b4,by have:=b4.size;omega⟩
  ·rw [←HN.out];exact R13.out.below b4
  ·rw [←HN.out];exact R23.out.below b4)
 have hs4:Hid (w2.heap.size≤w3.heap.size):=aa (by omega);clear c0 z0 R12 R2 R13 R23 B12 B3 b4 HSt hs3;go_wp2_with fail
 generalize w3.alloc (.cells #[.int .i64 0] 3)=w4 at *;generalize w3.heap.size=gw at *;generalize w2.heap.size=B at *;generalize hg2e:w1.heap.size=g2 at *;generalize hg1e:w.heap.size=g1 at *;go_loopg [5,6] (dW f [] (List.replicate N 0)) (fun k wv dv wr=>∃way done,Hid (tV f B g1 g2 w k way done wv dv wr))
 case atStart=>exact⟨_,_,HS4⟩
 case round=>
  clear HS4;obtain⟨way,done,HS⟩:=hrel;by_cases hw0:way= []
  ·subst hw0;obtain⟨tr,mt,h1,h2,h3,h4,h5,h6,h7,h8,h9⟩:=HS.out;obtain⟨wo,wc,rfl⟩:=aI h5;have hde:=h1.ended;rw [←hde] at HOr;obtain⟨hrv,hln,hpos⟩:=HOr.out;rcases bY h6 with ⟨_,hn⟩ | ⟨gd,dc,rfl,d1,d2,d3,d4,d5,d6⟩
   ·omega
   have HC:=aa (ug done (aE f) hrv B gd dc wr h6 (by omega));have H8:=aa h8;have hB:g1≤B:=(by omega);have hwl:w.heap.size=g1:=hg1e;replace hln:=aa hln;have h9':=aa h9;clear h1 h2 h3 h4 h5 h6 h7 h8 h9 d5 d6 hrv HS hde;go_wp2_with fail
   refine HC.out.mono ?_;rintro e wE ⟨rfl,o9,b9⟩;have HE:Hid (wE.ownsRow w.heap.size 3 1 (.slice (some ⟨gd,0,none⟩) done.length dc) (aE f).length (ints (aE f))∧Below w.heap.size w wE):=aa (by
    refine⟨by rw [hln.out,hwl];exact aL o9 hB,?_⟩;exact H8.out.trans (b9.mono (by rw [hwl];exact hB)))
   clear o9 b9;go_wp2_with fail
   go_ret;exact⟨_,rfl,HE.out.1,HE.out.2⟩
  ·obtain⟨up,kI,rfl⟩:=BQ hw0;obtain⟨tr,mt,h1,h2,h3,h4,h5,h6,h7,h8,h9⟩:=HS.out;have hkn:=h1.2.1.2 kI (by simp);obtain⟨k,rfl⟩:∃k:Nat,kI=(k:Int):=⟨kI.toNat,by omega⟩;rw [←HN.out] at h3 h4 hkn;have hkN:(k:Int) < N:=hkn.2;have hk':k < f.2.2.2.1.length:=(by rw [←HN.out];omega);have hlu:(up ++ [(k:Int)]).length=up.length+1:=(by simp);have hul:up.length+1≤N:=by
    have:=cH _ _ h1.2.1.1 h1.2.1.2;rw [hlu,←HN.out] at this;exact this
   have hdl:done.length+1≤N:=by
    have q:=h1.2.2.1;have:=cH _ (done ++ [(k:Int)]) (List.nodup_append.2 ⟨q.1,by simp,fun x hx y hy e=>by
     simp at hy;subst hy;subst e;exact h1.2.2.2.1 _ hx (by simp)⟩) (fun m hm=>by
     rcases List.mem_append.1 hm with hm | hm
     ·exact q.2 m hm
     ·simp at hm;subst hm;rw [←HN.out];exact hkn)
    rw [←HN.out] at this;simpa using this
   rw [hlu] at h5;rcases bY h5 with ⟨_,hn⟩ | ⟨gw2,wc,rfl,d1,d2,d3,d4,d5,d6⟩
   ·omega
   obtain⟨P,hP⟩:∃P,P=up.length+1:=⟨_,rfl⟩;obtain⟨L,hL⟩:∃L,L=up.length:=⟨_,rfl⟩;have hPL:(P:Int) - 1=(L:Int):=(by omega);have hLP:(L:Int) < P:=(by omega);have hLP2:L < P:=(by omega);have cw:wr.cell? ⟨gw2,L,none⟩=some (.int .i64 k):=d5 L _ (ints_at (by rw [hL];simp));rw [←hP] at h5 d1;have hP0:(0:Int) < P:=(by omega);have hPc:P≤wc:=d1;unfold maxLen at d2;obtain⟨cN,t1,t2,_⟩:=h1.2.2.2.2.2.2.2 k hk';have ct:=h4.cell (ints_at t1);obtain⟨do',dc,rfl⟩:=aI h6;rcases(HR.out.below h8)with e0 | ⟨sb,so,rfl,s1,s2⟩
   ·have:=bP f;rw [e0] at this;simp at this;omega
   obtain⟨lv,s3,lo,lc,rfl,s4,s5,s6⟩:=s2 k _ (eU hk');have HNu:Hid (Num N (aB f k)):=aa (by have:=HTo.out k;rwa [←HN.out] at this);have hll:(aB f k).length≤1000000:=j8 HFu.out hk';have HS4:=aa s4;have H1:=aa h1;have H2:=aa h2;have H3:=aa h3;have H4:=aa h4;have H5:=aa h5;have H6:=aa h6;have H7:=aa h7;have H8:=aa h8;have T1:=aa t1;clear h1 h2 h3 h4 h5 h6 h7 h8 d5 d6 s2 s4 t1 HS hw0 hkn d4 d3;rw [←hP];have hkN2:k < N:=(by omega);have hP1:P≤N:=(by omega);replace hP:=aa hP;replace hL:=aa hL;clear hlu;go_wp2_with fail
   go_region
   have b9:=L5.aW wr;replace H3:=aa (H3.out.below b9);replace H4:=aa (H4.out.below b9);replace H5:=aa (az b9 _ _ _ _ _ _ H5.out);replace H6:=aa (az b9 _ _ _ _ _ _ H6.out);replace H8:=aa (ae H8.out b9);replace HS4:=aa (HS4.out.below b9);replace ct:=(b9.cell (p:=⟨g2,k,none⟩) H4.out.lt.2).trans ct;replace s3:=(b9.cell (p:=⟨sb,so+k,none⟩) s1).trans s3;replace h9:B≤wr.drew.heap.size:=Nat.le_trans h9 b9.size;clear b9 cw s1;generalize wr.drew=wD at *;by_cases hce:cN=(aB f k).length
   ·have hce':((cN:Int) == ((aB f k).length:Int))=true:=beq_iff_eq.2 (by omega);obtain⟨hp1,hp2⟩:=H1.out.pop (by rw [←hce];exact T1.out);have HP1:=aa hp1;have hlk:dW f (done ++ [(k:Int)]) tr < gk:=Nat.lt_of_lt_of_le hp2 H2.out;have hAp:=aa (H7.out.symm);replace hce:=aa hce;generalize (aB f k).length=ln at *;clear hp1 hp2;go_wp2_with (at_builtin;refine wpList_append_own_at _ rfl (.tmp 40) (.tmp 42) 26 rfl B 3 i3 _ 1 8 Tryz.underlying26 hi3 hz3 hz4 hz5 rfl (by decide) _ _ _ rfl (H6.out.alloc _) ⟨wD.heap.size,0,none⟩ 1 1 [.int .i64 k] rfl rfl one_cell one_one (by unfold maxLen;omega) (by omega) (by simp;omega) ?_;intro v2 wB own2 grow2 _ at2;refine Hid.out ?_)
    have far:∀g,g < B→some g≠(Value.slice do' done.length dc).ownBlock:=fun g hg e=>by have:=(H6.out.lt g e.symm).1;omega
    have HE:Hid (tV f B g1 g2 w (dW f (done ++ [(k:Int)]) tr) up (done ++ [(k:Int)]) (.slice (some ⟨gw2,0,none⟩) L wc) v2 wB):=aa (by
     refine⟨tr,mt,HP1.out,Nat.le_refl _,?_,?_,?_,by simpa [ints] using own2,?_,?_,?_⟩
     ·rw [←HN.out];exact(H3.out.alloc _).kept grow2 (far g1 (by omega))
     ·rw [←HN.out];exact(H4.out.alloc _).kept grow2 (far g2 (by omega))
     ·rw [←hL.out];refine GA (x:=(k:Int)) ?_ hL.out.symm;rw [hL.out,←hP.out];exact(H5.out.alloc _).kept grow2 H7.out
     ·exact(lI.grow (w:=wD) (u:= .slice (some ⟨gw2,0,none⟩) P wc) H7.out H5.out at2)
     ·exact Below.grown (H8.out.alloc H8.out.size _) grow2 (by have:=H8.out.size;simp;omega) (fun k hk=>by have:=(H6.out.lt k hk).1;omega)
     ·have:=grow2.size;simp at this;omega)
    clear own2 grow2 at2 far;obtain⟨vo,vc,rfl⟩:∃vo vc,v2= .slice vo (done.length+1) vc:=by
     obtain⟨_,_,_,_,_,_,_,h,_⟩:=HE.out;obtain⟨vo,vc,e⟩:=aI h;exact⟨vo,vc,by simpa using e⟩
    have hLc:(L:Int)≤wc:=(by omega);refine aa ?_;go_wp2_with fail
    go_roundg (dW f (done ++ [(k:Int)]) tr)
    case measure=>exact hlk
    case rel=>exact⟨_,_,HE⟩
   ·have hce':((cN:Int) == ((aB f k).length:Int))=false:=beq_eq_false_iff_ne.2 (by omega);have hcl:cN < (aB f k).length:=(by omega);have hclI:(cN:Int) < (aB f k).length:=(by omega);obtain⟨m,hm⟩:∃m,(aB f k)[cN]? =some m:=⟨_,List.getElem?_eq_getElem hcl⟩;obtain⟨hm0,hm1⟩:=HNu.out m (List.mem_of_getElem? hm);obtain⟨M,rfl⟩:∃M:Nat,m=(M:Int):=⟨m.toNat,by omega⟩;have hM':M < f.2.2.2.1.length:=(by rw [←HN.out];omega);have hMN:M < N:=(by omega);rcases HS4.out with e0 | ⟨tb,to2,rfl,u1,u2⟩
    ·rw [e0] at hcl;simp at hcl
    have ce:=u2 cN _ hm;have hmt:=H1.out.2.2.2.2.2.2.1 M hM';have HOld:=aa (fun h=>H1.out.old T1.out hm hM' h);have HNew:=aa (fun h=>H1.out.new T1.out hm hM' h);clear u2 hm hce;generalize hln:(aB f k).length=ln at *;clear hln;go_wp2_with fail
    go_region
    have b9:=L5.aW wD;replace H3:=aa (H3.out.below b9);replace H4:=aa (H4.out.below b9);replace H5:=aa (az b9 _ _ _ _ _ _ H5.out);replace H6:=aa (az b9 _ _ _ _ _ _ H6.out);replace H8:=aa (ae H8.out b9);replace ct:=(b9.cell (p:=⟨g2,k,none⟩) H4.out.lt.2).trans ct;have zt:=H4.out.frozen k;replace h9:B≤wD.drew.heap.size:=Nat.le_trans h9 b9.size;clear b9 ce s3 HS4;generalize wD.drew=wE at *;go_upto_region 15 with fail
    show Code.wp _ _ _ _ (wE.setCell ⟨g2,k,none⟩ (.int .i64 ((cN:Int)+1)));replace H3:Hid (bg (wE.setCell ⟨g2,k,none⟩ (.int .i64 ((cN:Int)+1))) w.heap.size 4 g1 N (ef mt)):=aa (H3.out.other (p:=⟨g2,k,none⟩) (by show g1≠g2;omega) _);replace H4:Hid (bg (wE.setCell ⟨g2,k,none⟩ (.int .i64 ((cN:Int)+1))) w.heap.size 3 g2 N (ints (tr.set k ((cN:Int)+1)))):=aa (by rw [←ints_set];exact H4.out.set k _);replace H5:Hid ((wE.setCell ⟨g2,k,none⟩ (.int .i64 ((cN:Int)+1))).ownsRow B 3 1 (.slice (some ⟨gw2,0,none⟩) P wc) P (ints (up ++ [(k:Int)]))):=aa (ownsRow_setCell_below H5.out (a:=⟨g2,k,none⟩) hg2 _);replace H6:Hid ((wE.setCell ⟨g2,k,none⟩ (.int .i64 ((cN:Int)+1))).ownsRow B 3 1 (.slice do' done.length dc) done.length (ints done)):=aa (ownsRow_setCell_below H6.out (a:=⟨g2,k,none⟩) hg2 _);replace H8:Hid (Below w.heap.size w (wE.setCell ⟨g2,k,none⟩ (.int .i64 ((cN:Int)+1)))):=aa (H8.out.setCell (p:=⟨g2,k,none⟩) (by show w.heap.size≤g2;omega) _);replace h9:B≤(wE.setCell ⟨g2,k,none⟩ (.int .i64 ((cN:Int)+1))).heap.size:=(by simpa using h9);clear ct zt;generalize wE.setCell ⟨g2,k,none⟩ (.int .i64 ((cN:Int)+1))=w5 at *
    cases hb:(ay done M || ay (up ++ [(k:Int)]) M)with
    |true=>
     rw [hb] at hmt;have cm:=H3.out.cell (lX hmt);obtain⟨hp1,hp2⟩:=HOld.out hmt;have hlk:dW f done (tr.set k ((cN:Int)+1)) < gk:=Nat.lt_of_lt_of_le hp2 H2.out;have HE:Hid (tV f B g1 g2 w (dW f done (tr.set k ((cN:Int)+1))) (up ++ [(k:Int)]) done (.slice (some ⟨gw2,0,none⟩) P wc) (.slice do' done.length dc) w5):=aa (by
      refine⟨_,mt,hp1,Nat.le_refl _,by rw [←HN.out];exact H3.out,by rw [←HN.out];exact H4.out,?_,H6.out,H7.out,H8.out,h9⟩;have e:(up ++ [(k:Int)]).length=P:=(by rw [hP.out];simp);rw [e];exact H5.out)
     replace hb:=aa hb;clear hp1 hp2 hmt HOld HNew;go_wp2_with fail
     go_roundg (dW f done (tr.set k ((cN:Int)+1)))
     case measure=>exact hlk
     case rel=>exact⟨_,_,HE⟩
    |false=>
     rw [hb] at hmt;have cm:=H3.out.cell (lX hmt);have zm:=H3.out.frozen M;obtain⟨hp1,hp2⟩:=HNew.out hmt;have HP1:=aa hp1;have hlk:dW f done (tr.set k ((cN:Int)+1)) < gk:=Nat.lt_of_lt_of_le hp2 H2.out;replace hb:=aa hb;clear hp1 hp2 hmt HOld HNew;go_upto_region 17 with fail
     show Code.wp _ _ _ _ (w5.setCell ⟨g1,M,none⟩ (.bool true));replace H3:Hid (bg (w5.setCell ⟨g1,M,none⟩ (.bool true)) w.heap.size 4 g1 N (ef (mt.set M true))):=aa (by rw [←qd];exact H3.out.set M _);replace H4:Hid (bg (w5.setCell ⟨g1,M,none⟩ (.bool true)) w.heap.size 3 g2 N (ints (tr.set k ((cN:Int)+1)))):=aa (H4.out.other (p:=⟨g1,M,none⟩) (by show g2≠g1;omega) _);replace H5:Hid ((w5.setCell ⟨g1,M,none⟩ (.bool true)).ownsRow B 3 1 (.slice (some ⟨gw2,0,none⟩) P wc) P (ints (up ++ [(k:Int)]))):=aa (ownsRow_setCell_below H5.out (a:=⟨g1,M,none⟩) (by show g1 < B;omega) _);replace H6:Hid ((w5.setCell ⟨g1,M,none⟩ (.bool true)).ownsRow B 3 1 (.slice do' done.length dc) done.length (ints done)):=aa (ownsRow_setCell_below H6.out (a:=⟨g1,M,none⟩) (by show g1 < B;omega) _);replace H8:Hid (Below w.heap.size w (w5.setCell ⟨g1,M,none⟩ (.bool true))):=aa (H8.out.setCell (p:=⟨g1,M,none⟩) (by show w.heap.size≤g1;omega) _);replace h9:B≤(w5.setCell ⟨g1,M,none⟩ (.bool true)).heap.size:=(by simpa using h9);clear cm zm;generalize w5.setCell ⟨g1,M,none⟩ (.bool true)=w6 at *;go_wp2_with (at_builtin;refine wpList_append_own_at _ rfl (.tmp 73) (.tmp 75) 26 rfl B 3 i3 _ 1 8 Tryz.underlying26 hi3 hz3 hz4 hz5 rfl (by decide) _ _ _ rfl (H5.out.alloc _) ⟨w6.heap.size,0,none⟩ 1 1 [.int .i64 M] rfl rfl one_cell one_one (by unfold maxLen;omega) (by omega) (by simp;omega) ?_;intro v2 wB own2 grow2 _ at2;refine Hid.out ?_)
     have far:∀g,g < B→some g≠(Value.slice (some ⟨gw2,0,none⟩) P wc).ownBlock:=fun g hg e=>by have:=(H5.out.lt g e.symm).1;omega
     have HE:Hid (tV f B g1 g2 w (dW f done (tr.set k ((cN:Int)+1))) (up ++ [(k:Int)] ++ [(M:Int)]) done v2 (.slice do' done.length dc) wB):=aa (by
      refine⟨_,_,HP1.out,Nat.le_refl _,?_,?_,?_,?_,?_,?_,?_⟩
      ·rw [←HN.out];exact(H3.out.alloc _).kept grow2 (far g1 (by omega))
      ·rw [←HN.out];exact(H4.out.alloc _).kept grow2 (far g2 (by omega))
      ·have e:(up ++ [(k:Int)] ++ [(M:Int)]).length=P+1:=(by rw [hP.out];simp);rw [e];have:=own2;simpa [ints] using this
      ·exact(H6.out.alloc _).kept grow2 H7.out.symm
      ·exact(lI.grow (w:=w6) H7.out.symm H6.out at2).symm
      ·exact Below.grown (H8.out.alloc H8.out.size _) grow2 (by have:=H8.out.size;simp;omega) (fun k hk=>by have:=(H5.out.lt k hk).1;omega)
      ·have:=grow2.size;simp at this;omega)
     obtain⟨vo,vc,rfl⟩:=aI own2;clear own2 grow2 at2 far;refine aa ?_;go_wp2_with fail
     go_roundg (dW f done (tr.set k ((cN:Int)+1)))
     case measure=>exact hlk
     case rel=>exact⟨_,_,HE⟩
def bitsOf (n:Nat) (met:List Int):List Bool:=(List.range n).map fun(b:Nat)=>ay met b
theorem zR {n b:Nat} {met:List Int} (h:b < n):(bitsOf n met)[b]? =some (ay met b):=by
 unfold bitsOf;rw [List.getElem?_map,List.getElem?_range h];rfl
theorem nC (n:Nat) (met:List Int):bitsOf (n+1) met=bitsOf n met ++ [ay met n]:=by
 unfold bitsOf;rw [List.range_succ,List.map_append];rfl
def GrB (w:World) (l:List Bool) (v:Value) (wr:World):Prop:=wr.ownsRow w.heap.size 4 1 v l.length (ef l)∧Below w.heap.size w wr
theorem GrB.start (w:World):GrB w [] (.slice none 0 0) w:=⟨World.ownsRow_nil _ _ _ _,Below.refl _ _⟩
theorem GrB.step {w wr w2:World} {l:List Bool} {v v':Value} {x:Bool} {o:Obj} (h:GrB w l v wr) (own:w2.ownsRow w.heap.size 4 1 v' (l.length+1) (ef l ++ [.bool x])) (hg:(wr.alloc o).grownBy w2 v.ownBlock):GrB w (l ++ [x]) v' w2:=by
 refine⟨by simpa [ef] using own,?_⟩;refine Below.grown (h.2.alloc h.2.size o) hg (by simp;have:=h.2.size;omega) ?_;intro k hk;exact(h.1.lt k hk).1
theorem GrB.len {w wr:World} {l:List Bool} {v:Value} (h:GrB w l v wr):∃ao c,v= .slice ao l.length c:=aI h.1
theorem fX {a:Bool}:∀u∈ [Value.bool a],u.oneCell'=true:=by
 intro u hu;simp at hu;subst hu;rfl
theorem uY (s:ByteArray) (rt pl but:Int) (ll:List (List Int)) (ao bo eo:Option Addr) (pn c cb ec:Nat) (w:World) (he:jL w eo ll) (hel:ll.length≤1000000) (hgr:Gr ll) (hell:∀l∈ll,l.length≤1000000):
  Calls Tryz.prog 139 #[.agg #[.string s,.slice ao pn c,.int .i64 rt,.slice bo ll.length cb,.int .i64 pl],.slice eo ll.length ec,.int .i64 but] w fun e w'=>∃v,e= .returned v∧w'.ownsRow w.heap.size 4 1 v ll.length (ef (bitsOf ll.length (gH ll [0] but)))∧Below w.heap.size w w':=by
 obtain⟨i0,hi0,hz0,hz1,hz2⟩:=info_parts Tryz.cU;obtain⟨i4,hi4,hy0,hy1,hy2⟩:=info_parts Tryz.ES;have b0:=af w (.cells #[.string s,.slice ao pn c,.int .i64 rt,.slice bo ll.length cb,.int .i64 pl] 29);have X0:=aa (L5.Box.new w [.string s,.slice ao pn c,.int .i64 rt,.slice bo ll.length cb,.int .i64 pl] 29);have B0:=aa b0;have HEd:=aa (he.below b0);have HEn:=aa hgr.1;have HFr:=aa hgr.frm;have HEl:=aa hell;have hpos:=hgr.2;clear b0 he hgr hell;go_enter Tryz.func139,Tryz.ntmps139
 go_upto_region 1 with fail
 show Code.wp _ _ _ _ (w.alloc (.cells #[.string s,.slice ao pn c,.int .i64 rt,.slice bo ll.length cb,.int .i64 pl] 29));replace X0:Hid (L5.Box (w.alloc (.cells #[.string s,.slice ao pn c,.int .i64 rt,.slice bo ll.length cb,.int .i64 pl] 29)) w.heap.size [.string s,.slice ao pn c,.int .i64 rt,.slice bo ll.length cb,.int .i64 pl]):=X0;generalize w.alloc (.cells #[.string s,.slice ao pn c,.int .i64 rt,.slice bo ll.length cb,.int .i64 pl] 29)=W at *;have HN0:Hid (eB ll.length (aO but [] [0])):=aa (eB.aO but _ _ (eB.nil _) HFr.out);have HM:Hid (fy ll but (ll.length+1 - 0) 0 (aO but [] [0])=gH ll [0] but):=aa rfl;by_cases hb0:but=0
 ·have hbn:(but != 0)=false:=by simpa using hb0
  have HG0:Hid (Grw W (aO but [] [0]) (.slice none 0 0) W):=aa (by
   have e:aO but [] [0]= []:=(by simp [aO,js,hb0]);rw [e];exact Grw.start W)
  replace hb0:=aa hb0;go_wp2_with fail
  go_loopw [7,8] (fun v i wr=>∃(I:Nat) (met:List Int),I≤met.length∧i= .int .i64 I∧Hid (Grw W met v wr)∧Hid (eB ll.length met)∧Hid (fy ll but (ll.length+1 - I) I met=gH ll [0] but)) (fun _ i _=>ll.length+1 - (intOf i).toNat)
  case atStart=>exact⟨0,_,Nat.zero_le _,rfl,HG0,HN0,HM⟩
  case round=>
   clear HG0 HN0 HM;obtain⟨I,met,hI,rfl,HG,HN,HM⟩:=hrel;have hml:met.length≤ll.length:=cH _ _ HN.out.1 HN.out.2;obtain⟨mo,mc,rfl,s1,s2⟩:=HG.out.slice;by_cases hit:I < met.length
   ·have hiI:(I:Int) < met.length:=(by omega);obtain⟨m,hm⟩:∃m,met[I]? =some m:=⟨met[I],List.getElem?_eq_getElem hit⟩;obtain⟨hm0,hm1⟩:=HN.out.2 m (List.mem_of_getElem? hm);obtain⟨M,rfl⟩:∃M:Nat,m=(M:Int):=⟨m.toNat,by omega⟩;have hMl:M < ll.length:=(by omega);obtain⟨l,hl⟩:∃l,ll[M]? =some l:=⟨ll[M],List.getElem?_eq_getElem hMl⟩;have HMs:Hid (fy ll but (ll.length+1 - (I+1)) (I+1) (aO but met l)=gH ll [0] but):=aa (by
     have e:=HM.out;rw [show ll.length+1 - I=(ll.length+1 - (I+1))+1 by omega,kM hm] at e;rw [←e,Int.toNat_natCast,List.getD_eq_getElem?_getD,hl];rfl)
    have HLn:=aa (HEn.out l (List.mem_of_getElem? hl));have hll:=HEl.out l (List.mem_of_getElem? hl);rcases HEd.out with e0 | ⟨eb,eo2,rfl,d1,d2⟩
    ·subst e0;simp at hMl
    obtain⟨_,k1,⟨lo,lc,rfl,k2,k3,k4⟩⟩:=d2 M l hl;have HK1:=aa k1;have hlw:Hid (Sl W lo l):=aa k2;have HMm:=aa hm;have HG0:Hid (Grw W (aO but met (l.take 0)) _ wr):=HG;clear d2 k1 k2 hm hl s1 s2 HG;go_wp2_with fail
    go_loopw [7,9] (fun v i wq=>∃K:Nat,K≤l.length∧i= .int .i64 K∧Hid (Grw W (aO but met (l.take K)) v wq)) (fun _ i _=>l.length - (intOf i).toNat)
    case atStart=>exact⟨0,Nat.zero_le _,rfl,HG0⟩
    case round=>
     clear HG0;obtain⟨K,hK,rfl,HG⟩:=hrel;have HPx:Hid ((aO but met (l.take K))[I]? =some (M:Int)):=aa (fK but _ _ _ _ HMm.out);have HNm:Hid (eB ll.length (aO but met (l.take K))):=aa (eB.aO but _ _ HN.out (HLn.out.take K));have HTk:=fun n hn=>aa (oK (but:=but) (met:=met) (l:=l) (i:=K) (m:=n) hn);have HEnd:Hid (K=l.length→aO but met (l.take K)=aO but met l):=aa (fun e=>by rw [e,List.take_length]);generalize aO but met (l.take K)=me2 at *;have hml2:me2.length≤ll.length:=cH _ _ HNm.out.1 HNm.out.2;have hit2:I < me2.length:=(List.getElem?_eq_some_iff.1 HPx.out).1;have hit3:(I:Int) < me2.length:=(by omega);obtain⟨mo3,mc3,rfl,s1,s2⟩:=HG.out.slice;have HS:=aa s1;rcases s1 with e0 | ⟨mb,mo2,rfl,g1,g2⟩
     ·exfalso;rw [e0] at hit2;simp at hit2
     have c1:=g2 I _ HPx.out;have c2:=(HG.out.2.cell (p:=⟨eb,eo2+M,none⟩) d1).trans HK1.out;have hWs:=HG.out.2.size;clear g2;by_cases hkt:K < l.length
     ·obtain⟨n,hn⟩:∃n,l[K]? =some n:=⟨l[K],List.getElem?_eq_getElem hkt⟩;have hkI:(K:Int) < l.length:=(by omega);have HTk:=HTk n hn;rcases hlw.out with e0 | ⟨fb,fo2,rfl,f1,f2⟩
      ·subst e0;simp at hkt
      have c3:=(HG.out.2.cell (p:=⟨fb,fo2+K,none⟩) f1).trans (f2 K n hn);have HH:=aa (dr me2 n _ mc3 wr HS.out s2);clear f2 s2 hn;by_cases hmb:n=but
      ·have HE:Hid (Grw W (aO but met (l.take (K+1))) _ wr):=aa (by rw [HTk.out,oE hmb];exact HG.out);have hmn:(n != but)=false:=(by simpa using hmb);go_wp2_with fail
       go_roundw
       case rel=>exact⟨K+1,by omega,by go_num,HE⟩
       case measure=>simp [intOf];omega
      ·have hmn:(n != but)=true:=(by simpa using hmb);go_wp2_with fail
       refine HH.out.mono ?_;rintro e w8 ⟨rfl,rfl⟩
       cases hh:ay me2 n with
       |true=>
        have HE:Hid (Grw W (aO but met (l.take (K+1))) _ w8):=aa (by rw [HTk.out,pB hmb hh];exact HG.out);replace hh:=aa hh;go_wp2_with fail
        go_roundw
        case rel=>exact⟨K+1,by omega,by go_num,HE⟩
        case measure=>simp [intOf];omega
       |false=>
        have HA:=aa (HTk.out.trans (oX hmb hh));replace hh:=aa hh;go_wp2_with (at_builtin;refine wpList_append_own _ rfl (.tmp 55) (.tmp 57) 26 rfl W.heap.size 3 i0 _ 1 8 Tryz.underlying26 hi0 hz0 hz1 hz2 rfl (by decide) _ _ _ rfl (HG.out.1.alloc _) ⟨w8.heap.size,0,none⟩ 1 1 [.int .i64 n] rfl rfl one_cell one_one (by unfold maxLen;omega) (by omega) (by simp;omega) ?_;intro v2 w2 own2 grow2 _;refine Hid.out ?_)
        have HE:Hid (Grw W (aO but met (l.take (K+1))) v2 w2):=aa (by rw [HA.out];exact HG.out.step own2 grow2);clear own2 grow2;refine aa ?_;go_wp2_with fail
        go_roundw
        case rel=>exact⟨K+1,by omega,by go_num,HE⟩
        case measure=>simp [intOf];omega
     ·obtain rfl:K=l.length:=(by omega);obtain rfl:me2=aO but met l:=HEnd.out rfl;have HG2:Hid (Grw W (aO but met l) _ wr):=HG;have HN2:Hid (eB ll.length (aO but met l)):=aa (eB.aO but _ _ HN.out HLn.out);have hge:met.length≤(aO but met l).length:=mE _ _ _;go_wp2_with fail
      go_roundw
      case rel=>exact⟨I+1,_,by omega,by go_num,HG2,HN2,HMs⟩
      case measure=>simp [intOf];omega
   ·have HE:Hid (met=gH ll [0] but):=aa ((mR (by omega)).symm.trans HM.out);have HS:=aa s1;have HWB:=aa HG.out.2;clear s1 HG HM;go_wp2_with fail
    generalize wr=W3 at *;go_loopw [11,12] (fun v i wq=>∃K:Nat,K≤ll.length∧i= .int .i64 K∧Hid (GrB W3 (bitsOf K met) v wq)) (fun _ i _=>ll.length - (intOf i).toNat)
    case atStart=>exact⟨0,Nat.zero_le _,rfl,aa (GrB.start _)⟩
    case round=>
     obtain⟨K,hK,rfl,HB⟩:=hrel;have HWq:=aa (ae HWB.out HB.out.2);have x3:=(X0.out.below HWq.out).2 3 _ rfl;have HBL:Hid ((bitsOf K met).length=K):=aa (by simp [bitsOf]);by_cases hkt:K < ll.length
     ·have hkI:(K:Int) < ll.length:=(by omega);have HH:=aa (dr met K mo mc wr (HS.out.below HB.out.2) s2);obtain⟨vo,vc,rfl⟩:=HB.out.len;go_wp2_with fail
      refine HH.out.mono ?_;rintro e w8 ⟨rfl,rfl⟩;have hWs:=HWq.out.size;have h8:=HB.out.2.size;go_wp2_with (at_builtin;refine wpList_append_own _ rfl (.tmp 66) (.tmp 70) 167 rfl W3.heap.size 4 i4 _ 1 1 Tryz.underlying167 hi4 hy0 hy1 hy2 rfl (by decide) _ _ _ rfl (HB.out.1.alloc _) ⟨w8.heap.size,0,none⟩ 1 1 [.bool (ay met K)] rfl rfl one_cell fX (by have:=HBL.out;unfold maxLen;omega) (by have:=HBL.out;omega) (by simp;omega) ?_;intro v2 w2 own2 grow2 _;refine Hid.out ?_)
      have HE:Hid (GrB W3 (bitsOf (K+1) met) v2 w2):=aa (by rw [nC];exact HB.out.step own2 grow2);clear own2 grow2;refine aa ?_;go_wp2_with fail
      go_roundw
      case rel=>exact⟨K+1,by omega,by go_num,HE⟩
      case measure=>simp [intOf];omega
     ·obtain rfl:K=ll.length:=(by omega);go_wp2_with fail
      go_ret;refine⟨_,rfl,?_,ae B0.out HWq.out⟩;have:=HB.out.1;rw [HBL.out,HE.out] at this;exact aL this (Nat.le_trans (by have:=B0.out.size;exact this) HWB.out.size)
 ·have hbn:(but != 0)=true:=by simpa using hb0
  go_wp2_with (at_builtin;refine wpList_append_own _ rfl (.tmp 15) (.tmp 16) 26 rfl W.heap.size 3 i0 _ 1 8 Tryz.underlying26 hi0 hz0 hz1 hz2 rfl (by decide) _ _ _ rfl ((Grw.start W).1.alloc _) ⟨W.heap.size,0,none⟩ 1 1 [.int .i64 0] rfl rfl one_cell one_one (by unfold maxLen;simp) (by simp) (by simp) ?_;intro v2 w2 own2 grow2 _;refine Hid.out ?_)
  have HG0:Hid (Grw W (aO but [] [0]) v2 w2):=aa (by
   have e:aO but [] [0]= [] ++ [0]:=by
    have h:(0:Int)≠but:=fun e=>hb0 e.symm;simp [aO,js,h,iB,ay]
   rw [e];exact(Grw.start W).step own2 grow2)
  clear own2 grow2;replace hb0:=aa hb0;refine aa ?_;go_wp2_with fail
  go_loopw [7,8] (fun v i wr=>∃(I:Nat) (met:List Int),I≤met.length∧i= .int .i64 I∧Hid (Grw W met v wr)∧Hid (eB ll.length met)∧Hid (fy ll but (ll.length+1 - I) I met=gH ll [0] but)) (fun _ i _=>ll.length+1 - (intOf i).toNat)
  case atStart=>exact⟨0,_,Nat.zero_le _,rfl,HG0,HN0,HM⟩
  case round=>
   clear HG0 HN0 HM;obtain⟨I,met,hI,rfl,HG,HN,HM⟩:=hrel;have hml:met.length≤ll.length:=cH _ _ HN.out.1 HN.out.2;obtain⟨mo,mc,rfl,s1,s2⟩:=HG.out.slice;by_cases hit:I < met.length
   ·have hiI:(I:Int) < met.length:=(by omega);obtain⟨m,hm⟩:∃m,met[I]? =some m:=⟨met[I],List.getElem?_eq_getElem hit⟩;obtain⟨hm0,hm1⟩:=HN.out.2 m (List.mem_of_getElem? hm);obtain⟨M,rfl⟩:∃M:Nat,m=(M:Int):=⟨m.toNat,by omega⟩;have hMl:M < ll.length:=(by omega);obtain⟨l,hl⟩:∃l,ll[M]? =some l:=⟨ll[M],List.getElem?_eq_getElem hMl⟩;have HMs:Hid (fy ll but (ll.length+1 - (I+1)) (I+1) (aO but met l)=gH ll [0] but):=aa (by
     have e:=HM.out;rw [show ll.length+1 - I=(ll.length+1 - (I+1))+1 by omega,kM hm] at e;rw [←e,Int.toNat_natCast,List.getD_eq_getElem?_getD,hl];rfl)
    have HLn:=aa (HEn.out l (List.mem_of_getElem? hl));have hll:=HEl.out l (List.mem_of_getElem? hl);rcases HEd.out with e0 | ⟨eb,eo2,rfl,d1,d2⟩
    ·subst e0;simp at hMl
    obtain⟨_,k1,⟨lo,lc,rfl,k2,k3,k4⟩⟩:=d2 M l hl;have HK1:=aa k1;have hlw:Hid (Sl W lo l):=aa k2;have HMm:=aa hm;have HG0:Hid (Grw W (aO but met (l.take 0)) _ wr):=HG;clear d2 k1 k2 hm hl s1 s2 HG;go_wp2_with fail
    go_loopw [7,9] (fun v i wq=>∃K:Nat,K≤l.length∧i= .int .i64 K∧Hid (Grw W (aO but met (l.take K)) v wq)) (fun _ i _=>l.length - (intOf i).toNat)
    case atStart=>exact⟨0,Nat.zero_le _,rfl,HG0⟩
    case round=>
     clear HG0;obtain⟨K,hK,rfl,HG⟩:=hrel;have HPx:Hid ((aO but met (l.take K))[I]? =some (M:Int)):=aa (fK but _ _ _ _ HMm.out);have HNm:Hid (eB ll.length (aO but met (l.take K))):=aa (eB.aO but _ _ HN.out (HLn.out.take K));have HTk:=fun n hn=>aa (oK (but:=but) (met:=met) (l:=l) (i:=K) (m:=n) hn);have HEnd:Hid (K=l.length→aO but met (l.take K)=aO but met l):=aa (fun e=>by rw [e,List.take_length]);generalize aO but met (l.take K)=me2 at *;have hml2:me2.length≤ll.length:=cH _ _ HNm.out.1 HNm.out.2;have hit2:I < me2.length:=(List.getElem?_eq_some_iff.1 HPx.out).1;have hit3:(I:Int) < me2.length:=(by omega);obtain⟨mo3,mc3,rfl,s1,s2⟩:=HG.out.slice;have HS:=aa s1;rcases s1 with e0 | ⟨mb,mo2,rfl,g1,g2⟩
     ·exfalso;rw [e0] at hit2;simp at hit2
     have c1:=g2 I _ HPx.out;have c2:=(HG.out.2.cell (p:=⟨eb,eo2+M,none⟩) d1).trans HK1.out;have hWs:=HG.out.2.size;clear g2;by_cases hkt:K < l.length
     ·obtain⟨n,hn⟩:∃n,l[K]? =some n:=⟨l[K],List.getElem?_eq_getElem hkt⟩;have hkI:(K:Int) < l.length:=(by omega);have HTk:=HTk n hn;rcases hlw.out with e0 | ⟨fb,fo2,rfl,f1,f2⟩
      ·subst e0;simp at hkt
      have c3:=(HG.out.2.cell (p:=⟨fb,fo2+K,none⟩) f1).trans (f2 K n hn);have HH:=aa (dr me2 n _ mc3 wr HS.out s2);clear f2 s2 hn;by_cases hmb:n=but
      ·have HE:Hid (Grw W (aO but met (l.take (K+1))) _ wr):=aa (by rw [HTk.out,oE hmb];exact HG.out);have hmn:(n != but)=false:=(by simpa using hmb);go_wp2_with fail
       go_roundw
       case rel=>exact⟨K+1,by omega,by go_num,HE⟩
       case measure=>simp [intOf];omega
      ·have hmn:(n != but)=true:=(by simpa using hmb);go_wp2_with fail
       refine HH.out.mono ?_;rintro e w8 ⟨rfl,rfl⟩
       cases hh:ay me2 n with
       |true=>
        have HE:Hid (Grw W (aO but met (l.take (K+1))) _ w8):=aa (by rw [HTk.out,pB hmb hh];exact HG.out);replace hh:=aa hh;go_wp2_with fail
        go_roundw
        case rel=>exact⟨K+1,by omega,by go_num,HE⟩
        case measure=>simp [intOf];omega
       |false=>
        have HA:=aa (HTk.out.trans (oX hmb hh));replace hh:=aa hh;go_wp2_with (at_builtin;refine wpList_append_own _ rfl (.tmp 55) (.tmp 57) 26 rfl W.heap.size 3 i0 _ 1 8 Tryz.underlying26 hi0 hz0 hz1 hz2 rfl (by decide) _ _ _ rfl (HG.out.1.alloc _) ⟨w8.heap.size,0,none⟩ 1 1 [.int .i64 n] rfl rfl one_cell one_one (by unfold maxLen;omega) (by omega) (by simp;omega) ?_;intro v2 w2 own2 grow2 _;refine Hid.out ?_)
        have HE:Hid (Grw W (aO but met (l.take (K+1))) v2 w2):=aa (by rw [HA.out];exact HG.out.step own2 grow2);clear own2 grow2;refine aa ?_;go_wp2_with fail
        go_roundw
        case rel=>exact⟨K+1,by omega,by go_num,HE⟩
        case measure=>simp [intOf];omega
     ·obtain rfl:K=l.length:=(by omega);obtain rfl:me2=aO but met l:=HEnd.out rfl;have HG2:Hid (Grw W (aO but met l) _ wr):=HG;have HN2:Hid (eB ll.length (aO but met l)):=aa (eB.aO but _ _ HN.out HLn.out);have hge:met.length≤(aO but met l).length:=mE _ _ _;go_wp2_with fail
      go_roundw
      case rel=>exact⟨I+1,_,by omega,by go_num,HG2,HN2,HMs⟩
      case measure=>simp [intOf];omega
   ·have HE:Hid (met=gH ll [0] but):=aa ((mR (by omega)).symm.trans HM.out);have HS:=aa s1;have HWB:=aa HG.out.2;clear s1 HG HM;go_wp2_with fail
    generalize wr=W3 at *;go_loopw [11,12] (fun v i wq=>∃K:Nat,K≤ll.length∧i= .int .i64 K∧Hid (GrB W3 (bitsOf K met) v wq)) (fun _ i _=>ll.length - (intOf i).toNat)
    case atStart=>exact⟨0,Nat.zero_le _,rfl,aa (GrB.start _)⟩
    case round=>
     obtain⟨K,hK,rfl,HB⟩:=hrel;have HWq:=aa (ae HWB.out HB.out.2);have x3:=(X0.out.below HWq.out).2 3 _ rfl;have HBL:Hid ((bitsOf K met).length=K):=aa (by simp [bitsOf]);by_cases hkt:K < ll.length
     ·have hkI:(K:Int) < ll.length:=(by omega);have HH:=aa (dr met K mo mc wr (HS.out.below HB.out.2) s2);obtain⟨vo,vc,rfl⟩:=HB.out.len;go_wp2_with fail
      refine HH.out.mono ?_;rintro e w8 ⟨rfl,rfl⟩;have hWs:=HWq.out.size;have h8:=HB.out.2.size;go_wp2_with (at_builtin;refine wpList_append_own _ rfl (.tmp 66) (.tmp 70) 167 rfl W3.heap.size 4 i4 _ 1 1 Tryz.underlying167 hi4 hy0 hy1 hy2 rfl (by decide) _ _ _ rfl (HB.out.1.alloc _) ⟨w8.heap.size,0,none⟩ 1 1 [.bool (ay met K)] rfl rfl one_cell fX (by have:=HBL.out;unfold maxLen;omega) (by have:=HBL.out;omega) (by simp;omega) ?_;intro v2 w2 own2 grow2 _;refine Hid.out ?_)
      have HE:Hid (GrB W3 (bitsOf (K+1) met) v2 w2):=aa (by rw [nC];exact HB.out.step own2 grow2);clear own2 grow2;refine aa ?_;go_wp2_with fail
      go_roundw
      case rel=>exact⟨K+1,by omega,by go_num,HE⟩
      case measure=>simp [intOf];omega
     ·obtain rfl:K=ll.length:=(by omega);go_wp2_with fail
      go_ret;refine⟨_,rfl,?_,ae B0.out HWq.out⟩;have:=HB.out.1;rw [HBL.out,HE.out] at this;exact aL this (Nat.le_trans (by have:=B0.out.size;exact this) HWB.out.size)
end Go.Proofs.YtaiaakklokahjaaGreatDoor
