/- Texts of one chain, joined. -/
import Derived.Test.YtljkgcfnoegibaaGreatDoorZAAD
import Derived.Test.YtljkgcfnoegibaaGreatDoorZAAP
import Derived.Test.YtljkgcfnoegibaaGreatDoorZAAQ
import Derived.Deep.LoopGhost
import Derived.Laws.OwnMore
set_option maxHeartbeats 8000000
set_option maxRecDepth 20000
namespace Go.Proofs.YtljkgcfnoegibaaGreatDoor
open Go Go.RowKit
open G (Tok Er Ins Fun)
theorem Tryz.DG:(Tryz.prog.info? 4).map (fun i=>(i.zero,i.size,i.bytes))=some (some (.bool false),1,1):=by kernel_rfl
theorem Ip {B g n c:Nat} {w:World} {l:List Int} {x:Int} (h:w.ownsRow B 3 1 (.slice (some ⟨g,0,none⟩) (n+1) c) (n+1) (ints (l ++ [x]))) (hn:l.length=n):w.ownsRow B 3 1 (.slice (some ⟨g,0,none⟩) n c) n (ints l):=by
 rcases h.2 with ⟨h',_⟩ | ⟨g',cap',cur,h',hb,hg,hnc,hcm,hcs,htake⟩
 ·simp at h'
 ·simp only [Value.slice.injEq,Option.some.injEq,Addr.mk.injEq,and_true,true_and] at h';obtain⟨rfl,rfl⟩:=h';refine⟨by simp [ints,hn],.inr ⟨g,c,cur,rfl,hb,hg,by omega,hcm,hcs,?_⟩⟩;have e:cur.toList.take (n * 1)=(cur.toList.take ((n+1) * 1)).take (n * 1):=by rw [List.take_take];congr 1;omega
  rw [e,htake];simp [ints,←hn]
def mY (u v:Value):Prop:=u.ownBlock=none∨u.ownBlock≠v.ownBlock
theorem mY.symm {u v:Value} (h:mY u v):mY v u:=by
 rcases h with h | h
 ·cases hv:v.ownBlock with
  |none=>exact .inl hv
  |some k=>right;rw [h,hv];simp
 ·exact .inr fun e=>h e.symm
theorem mY.grow {B n:Nat} {u v v':Value} {xs:List Value} {w:World} {o:Obj} (h:mY u v) (hu:w.ownsRow B 3 1 u n xs) (hat:v'.ownBlock=v.ownBlock∨v'.ownBlock=some (w.alloc o).heap.size):mY u v':=by
 rcases hat with e | e
 ·rcases h with h | h
  ·exact .inl h
  ·right;rw [e];exact h
 ·cases hb:u.ownBlock with
  |none=>exact .inl hb
  |some k=>
   right;rw [e,hb];have:=(hu.lt k hb).2;simp;omega
def FZ (f:Fun) (B g1 g2:Nat) (W:World) (k:Nat) (way done:List Int) (wv dv:Value) (wr:World):Prop:=∃tr mt,Dfs f way done tr mt∧eT f done tr≤k∧aS wr W.heap.size 4 g1 f.2.2.2.1.length (fi mt)∧aS wr W.heap.size 3 g2 f.2.2.2.1.length (ints tr)∧
 wr.ownsRow B 3 1 wv way.length (ints way)∧wr.ownsRow B 3 1 dv done.length (ints done)∧mY wv dv∧Below W.heap.size W wr∧B≤wr.heap.size
theorem Ew {l:List Int} (h:l≠ []):∃up k,l=up ++ [k]:=⟨l.dropLast,l.getLast h,(List.dropLast_concat_getLast h).symm⟩
theorem sE (f:Fun) (no:Option Addr) (nc:Nat) (w:World) (hr:lW w no (aD f)) (hF:Ful f) (hT:Tos f) (h0:0 < f.2.2.2.1.length):
  Calls Tryz.prog 121 #[.slice no f.2.2.2.1.length nc] w fun e w'=>∃u,e= .returned u∧w'.ownsRow w.heap.size 3 1 u (aC f).length (ints (aC f))∧Below w.heap.size w w':=by
 obtain⟨i4,hi4,hy0,hy1,hy2⟩:=info_parts Tryz.DG;obtain⟨i3,hi3,hz3,hz4,hz5⟩:=info_parts Tryz.cr;have HR:=ae hr;have HFu:=ae hF;have HTo:=ae hT;have hbl:f.2.2.2.1.length≤1000000:=hF.1;have HSt:=ae (Dfs.start h0);have hol:=gj hT h0;have HOr:Hid ((cL f f.2.2.2.1.length 0 [] []).reverse=aC f∧(aC f).length=(cL f f.2.2.2.1.length 0 [] []).length∧0 < (cL f f.2.2.2.1.length 0 [] []).length):=ae (by
  refine⟨rfl,by simp [aC],?_⟩;obtain⟨M,hM⟩:∃M,f.2.2.2.1.length=M+1:=⟨f.2.2.2.1.length - 1,by omega⟩;rw [hM,eB];simp)
 obtain⟨N,hN⟩:∃N,N=f.2.2.2.1.length:=⟨_,rfl⟩;have HN:=ae hN;rw [←hN] at hbl HSt hol h0;rw [←hN];have hN0:((N:Int) == 0)=false:=beq_eq_false_iff_ne.2 (by omega);clear hr hF hT hN;go_enter Tryz.func121,Tryz.ntmps121
 go_upto_region 4 with (at_make;refine wpList_make_full _ rfl _ _ 124 rfl w.heap.size 4 i4 _ 1 Tryz.underlying124 hi4 hy0 hy1 .i64 .i64 N N N rfl rfl rfl rfl (by rw [hy2];omega) (by unfold maxLen;omega) (Nat.le_refl _) ?_;intro w1 own1 grow1;refine Hid.out ?_)
 rw [zT] at own1;have R1:Hid (aS w1 w.heap.size 4 w.heap.size N (fi (List.replicate N false))):=ae own1;have B1:=ae (gq grow1);have hs1:=B1.out.size;clear own1 grow1;refine ae ?_;go_upto_region 5 with (at_make;refine wpList_make_full _ rfl _ _ 33 rfl w.heap.size 3 i3 _ 1 Tryz.underlying33 hi3 hz3 hz4 .i64 .i64 N N N rfl rfl rfl rfl (by rw [hz5];omega) (by unfold maxLen;omega) hs1 ?_;intro w2 own2 grow2;refine Hid.out ?_)
 rw [fW] at own2;have R2:Hid (aS w2 w.heap.size 3 w1.heap.size N (ints (List.replicate N 0))):=ae own2;have B2:=ae (gq grow2);have R12:=ae (R1.out.below B2.out);have B12:=ae (af B1.out B2.out);have hg1:w.heap.size < w1.heap.size:=R1.out.lt.2;have hg2:w1.heap.size < w2.heap.size:=R2.out.lt.2;clear own2 grow2 hs1 R1 B1 B2;have c0:=R12.out.cell (j:=0) (u:= .bool false) (by rw [fi,List.getElem?_map,List.getElem?_replicate,if_pos h0];rfl);have z0:=R12.out.frozen 0;have hNI:(0:Int) < N:=by omega
 refine ae ?_;go_upto_region 6 with fail
 show Code.wp _ _ _ _ (w2.setCell ⟨w.heap.size,0,none⟩ (.bool true));have hs3:(w2.setCell ⟨w.heap.size,0,none⟩ (.bool true)).heap.size=w2.heap.size:=by simp
 have R13:Hid (aS (w2.setCell ⟨w.heap.size,0,none⟩ (.bool true)) w.heap.size 4 w.heap.size N (fi ((List.replicate N false).set 0 true))):=ae (by rw [←rW];exact R12.out.set 0 _);have R23:Hid (aS (w2.setCell ⟨w.heap.size,0,none⟩ (.bool true)) w.heap.size 3 w1.heap.size N (ints (List.replicate N 0))):=ae (R2.out.other (p:=⟨w.heap.size,0,none⟩) (by show w1.heap.size≠w.heap.size;omega) _);have B3:Hid (Below w.heap.size w (w2.setCell ⟨w.heap.size,0,none⟩ (.bool true))):=ae (B12.out.setCell (p:=⟨w.heap.size,0,none⟩) (Nat.le_refl _) _);generalize w2.setCell ⟨w.heap.size,0,none⟩ (.bool true)=w3 at *;have b4:=ah w3 (.cells #[.int .i64 0] 3);have HS4:Hid (FZ f w2.heap.size w.heap.size w1.heap.size w (eT f [] (List.replicate N 0)) [0] [] (.slice (some ⟨w3.heap.size,0,none⟩) 1 1) (.slice none 0 0) (w3.alloc (.cells #[.int .i64 0] 3))):=ae (by
  refine⟨_,_,HSt.out,Nat.le_refl _,?_,?_,World.ownsRow_lit w3 #[.int .i64 0] 1 (by omega) (by unfold maxLen;omega) rfl,World.ownsRow_nil _ _ _ _,.inr (by simp [Value.ownBlock]),af B3.out b4,by have:=b4.size;omega⟩
  ·rw [←HN.out];exact R13.out.below b4
  ·rw [←HN.out];exact R23.out.below b4)
 have hs4:Hid (w2.heap.size≤w3.heap.size):=ae (by omega);clear c0 z0 R12 R2 R13 R23 B12 B3 b4 HSt hs3;go_wp2_with fail
 generalize w3.alloc (.cells #[.int .i64 0] 3)=w4 at *;generalize w3.heap.size=gw at *;generalize w2.heap.size=B at *;generalize hg2e:w1.heap.size=g2 at *;generalize hg1e:w.heap.size=g1 at *;go_loopg [5,6] (eT f [] (List.replicate N 0)) (fun k wv dv wr=>∃way done,Hid (FZ f B g1 g2 w k way done wv dv wr))
 case atStart=>exact⟨_,_,HS4⟩
 case round=>
  clear HS4;obtain⟨way,done,HS⟩:=hrel;by_cases hw0:way= []
  ·subst hw0;obtain⟨tr,mt,h1,h2,h3,h4,h5,h6,h7,h8,h9⟩:=HS.out;obtain⟨wo,wc,rfl⟩:=aL h5;have hde:=h1.ended;rw [←hde] at HOr;obtain⟨hrv,hln,hpos⟩:=HOr.out;rcases dn h6 with ⟨_,hn⟩ | ⟨gd,dc,rfl,d1,d2,d3,d4,d5,d6⟩
   ·omega
   have HC:=ae (xN done (aC f) hrv B gd dc wr h6 (by omega));have H8:=ae h8;have hB:g1≤B:=(by omega);have hwl:w.heap.size=g1:=hg1e;replace hln:=ae hln;have h9':=ae h9;clear h1 h2 h3 h4 h5 h6 h7 h8 h9 d5 d6 hrv HS hde;go_wp2_with fail
   refine HC.out.mono ?_;rintro e wE ⟨rfl,o9,b9⟩;have HE:Hid (wE.ownsRow w.heap.size 3 1 (.slice (some ⟨gd,0,none⟩) done.length dc) (aC f).length (ints (aC f))∧Below w.heap.size w wE):=ae (by
    refine⟨by rw [hln.out,hwl];exact aT o9 hB,?_⟩;exact H8.out.trans (b9.mono (by rw [hwl];exact hB)))
   clear o9 b9;go_wp2_with fail
   go_ret;exact⟨_,rfl,HE.out.1,HE.out.2⟩
  ·obtain⟨up,kI,rfl⟩:=Ew hw0;obtain⟨tr,mt,h1,h2,h3,h4,h5,h6,h7,h8,h9⟩:=HS.out;have hkn:=h1.2.1.2 kI (by simp);obtain⟨k,rfl⟩:∃k:Nat,kI=(k:Int):=⟨kI.toNat,by omega⟩;rw [←HN.out] at h3 h4 hkn;have hkN:(k:Int) < N:=hkn.2;have hk':k < f.2.2.2.1.length:=(by rw [←HN.out];omega);have hlu:(up ++ [(k:Int)]).length=up.length+1:=(by simp);have hul:up.length+1≤N:=by
    have:=dU _ _ h1.2.1.1 h1.2.1.2;rw [hlu,←HN.out] at this;exact this
   have hdl:done.length+1≤N:=by
    have q:=h1.2.2.1;have:=dU _ (done ++ [(k:Int)]) (List.nodup_append.2 ⟨q.1,by simp,fun x hx y hy e=>by
     simp at hy;subst hy;subst e;exact h1.2.2.2.1 _ hx (by simp)⟩) (fun m hm=>by
     rcases List.mem_append.1 hm with hm | hm
     ·exact q.2 m hm
     ·simp at hm;subst hm;rw [←HN.out];exact hkn)
    rw [←HN.out] at this;simpa using this
   rw [hlu] at h5;rcases dn h5 with ⟨_,hn⟩ | ⟨gw2,wc,rfl,d1,d2,d3,d4,d5,d6⟩
   ·omega
   obtain⟨P,hP⟩:∃P,P=up.length+1:=⟨_,rfl⟩;obtain⟨L,hL⟩:∃L,L=up.length:=⟨_,rfl⟩;have hPL:(P:Int) - 1=(L:Int):=(by omega);have hLP:(L:Int) < P:=(by omega);have hLP2:L < P:=(by omega);have cw:wr.cell? ⟨gw2,L,none⟩=some (.int .i64 k):=d5 L _ (ints_at (by rw [hL];simp));rw [←hP] at h5 d1;have hP0:(0:Int) < P:=(by omega);have hPc:P≤wc:=d1;unfold maxLen at d2;obtain⟨cN,t1,t2,_⟩:=h1.2.2.2.2.2.2.2 k hk';have ct:=h4.cell (ints_at t1);obtain⟨do',dc,rfl⟩:=aL h6;rcases(HR.out.below h8)with e0 | ⟨sb,so,rfl,s1,s2⟩
   ·have:=bI f;rw [e0] at this;simp at this;omega
   obtain⟨lv,s3,lo,lc,rfl,s4,s5,s6⟩:=s2 k _ (ia hk');have HNu:Hid (Num N (aW f k)):=ae (by have:=HTo.out k;rwa [←HN.out] at this);have hll:(aW f k).length≤1000000:=lx HFu.out hk';have HS4:=ae s4;have H1:=ae h1;have H2:=ae h2;have H3:=ae h3;have H4:=ae h4;have H5:=ae h5;have H6:=ae h6;have H7:=ae h7;have H8:=ae h8;have T1:=ae t1;clear h1 h2 h3 h4 h5 h6 h7 h8 d5 d6 s2 s4 t1 HS hw0 hkn d4 d3;rw [←hP];have hkN2:k < N:=(by omega);have hP1:P≤N:=(by omega);replace hP:=ae hP;replace hL:=ae hL;clear hlu;go_wp2_with fail
   go_region
   have b9:=L5.fB wr;replace H3:=ae (H3.out.below b9);replace H4:=ae (H4.out.below b9);replace H5:=ae (br b9 _ _ _ _ _ _ H5.out);replace H6:=ae (br b9 _ _ _ _ _ _ H6.out);replace H8:=ae (af H8.out b9);replace HS4:=ae (HS4.out.below b9);replace ct:=(b9.cell (p:=⟨g2,k,none⟩) H4.out.lt.2).trans ct;replace s3:=(b9.cell (p:=⟨sb,so+k,none⟩) s1).trans s3;replace h9:B≤wr.drew.heap.size:=Nat.le_trans h9 b9.size;clear b9 cw s1;generalize wr.drew=wD at *;by_cases hce:cN=(aW f k).length
   ·have hce':((cN:Int) == ((aW f k).length:Int))=true:=beq_iff_eq.2 (by omega);obtain⟨hp1,hp2⟩:=H1.out.pop (by rw [←hce];exact T1.out);have HP1:=ae hp1;have hlk:eT f (done ++ [(k:Int)]) tr < gk:=Nat.lt_of_lt_of_le hp2 H2.out;have hAp:=ae (H7.out.symm);replace hce:=ae hce;generalize (aW f k).length=ln at *;clear hp1 hp2;go_wp2_with (at_builtin;refine wpList_append_own_at _ rfl (.tmp 40) (.tmp 42) 33 rfl B 3 i3 _ 1 8 Tryz.underlying33 hi3 hz3 hz4 hz5 rfl (by decide) _ _ _ rfl (H6.out.alloc _) ⟨wD.heap.size,0,none⟩ 1 1 [.int .i64 k] rfl rfl aM bt (by unfold maxLen;omega) (by omega) (by simp;omega) ?_;intro v2 wB own2 grow2 _ at2;refine Hid.out ?_)
    have far:∀g,g < B→some g≠(Value.slice do' done.length dc).ownBlock:=fun g hg e=>by have:=(H6.out.lt g e.symm).1;omega
    have HE:Hid (FZ f B g1 g2 w (eT f (done ++ [(k:Int)]) tr) up (done ++ [(k:Int)]) (.slice (some ⟨gw2,0,none⟩) L wc) v2 wB):=ae (by
     refine⟨tr,mt,HP1.out,Nat.le_refl _,?_,?_,?_,by simpa [ints] using own2,?_,?_,?_⟩
     ·rw [←HN.out];exact(H3.out.alloc _).kept grow2 (far g1 (by omega))
     ·rw [←HN.out];exact(H4.out.alloc _).kept grow2 (far g2 (by omega))
     ·rw [←hL.out];refine Ip (x:=(k:Int)) ?_ hL.out.symm;rw [hL.out,←hP.out];exact(H5.out.alloc _).kept grow2 H7.out
     ·exact(mY.grow (w:=wD) (u:= .slice (some ⟨gw2,0,none⟩) P wc) H7.out H5.out at2)
     ·exact Below.grown (H8.out.alloc H8.out.size _) grow2 (by have:=H8.out.size;simp;omega) (fun k hk=>by have:=(H6.out.lt k hk).1;omega)
     ·have:=grow2.size;simp at this;omega)
    clear own2 grow2 at2 far;obtain⟨vo,vc,rfl⟩:∃vo vc,v2= .slice vo (done.length+1) vc:=by
     obtain⟨_,_,_,_,_,_,_,h,_⟩:=HE.out;obtain⟨vo,vc,e⟩:=aL h;exact⟨vo,vc,by simpa using e⟩
    have hLc:(L:Int)≤wc:=(by omega);refine ae ?_;go_wp2_with fail
    go_roundg (eT f (done ++ [(k:Int)]) tr)
    case measure=>exact hlk
    case rel=>exact⟨_,_,HE⟩
   ·have hce':((cN:Int) == ((aW f k).length:Int))=false:=beq_eq_false_iff_ne.2 (by omega);have hcl:cN < (aW f k).length:=(by omega);have hclI:(cN:Int) < (aW f k).length:=(by omega);obtain⟨m,hm⟩:∃m,(aW f k)[cN]? =some m:=⟨_,List.getElem?_eq_getElem hcl⟩;obtain⟨hm0,hm1⟩:=HNu.out m (List.mem_of_getElem? hm);obtain⟨M,rfl⟩:∃M:Nat,m=(M:Int):=⟨m.toNat,by omega⟩;have hM':M < f.2.2.2.1.length:=(by rw [←HN.out];omega);have hMN:M < N:=(by omega);rcases HS4.out with e0 | ⟨tb,to2,rfl,u1,u2⟩
    ·rw [e0] at hcl;simp at hcl
    have ce:=u2 cN _ hm;have hmt:=H1.out.2.2.2.2.2.2.1 M hM';have HOld:=ae (fun h=>H1.out.old T1.out hm hM' h);have HNew:=ae (fun h=>H1.out.new T1.out hm hM' h);clear u2 hm hce;generalize hln:(aW f k).length=ln at *;clear hln;go_wp2_with fail
    go_region
    have b9:=L5.fB wD;replace H3:=ae (H3.out.below b9);replace H4:=ae (H4.out.below b9);replace H5:=ae (br b9 _ _ _ _ _ _ H5.out);replace H6:=ae (br b9 _ _ _ _ _ _ H6.out);replace H8:=ae (af H8.out b9);replace ct:=(b9.cell (p:=⟨g2,k,none⟩) H4.out.lt.2).trans ct;have zt:=H4.out.frozen k;replace h9:B≤wD.drew.heap.size:=Nat.le_trans h9 b9.size;clear b9 ce s3 HS4;generalize wD.drew=wE at *;go_upto_region 15 with fail
    show Code.wp _ _ _ _ (wE.setCell ⟨g2,k,none⟩ (.int .i64 ((cN:Int)+1)));replace H3:Hid (aS (wE.setCell ⟨g2,k,none⟩ (.int .i64 ((cN:Int)+1))) w.heap.size 4 g1 N (fi mt)):=ae (H3.out.other (p:=⟨g2,k,none⟩) (by show g1≠g2;omega) _);replace H4:Hid (aS (wE.setCell ⟨g2,k,none⟩ (.int .i64 ((cN:Int)+1))) w.heap.size 3 g2 N (ints (tr.set k ((cN:Int)+1)))):=ae (by rw [←ints_set];exact H4.out.set k _);replace H5:Hid ((wE.setCell ⟨g2,k,none⟩ (.int .i64 ((cN:Int)+1))).ownsRow B 3 1 (.slice (some ⟨gw2,0,none⟩) P wc) P (ints (up ++ [(k:Int)]))):=ae (ownsRow_setCell_below H5.out (a:=⟨g2,k,none⟩) hg2 _);replace H6:Hid ((wE.setCell ⟨g2,k,none⟩ (.int .i64 ((cN:Int)+1))).ownsRow B 3 1 (.slice do' done.length dc) done.length (ints done)):=ae (ownsRow_setCell_below H6.out (a:=⟨g2,k,none⟩) hg2 _);replace H8:Hid (Below w.heap.size w (wE.setCell ⟨g2,k,none⟩ (.int .i64 ((cN:Int)+1)))):=ae (H8.out.setCell (p:=⟨g2,k,none⟩) (by show w.heap.size≤g2;omega) _);replace h9:B≤(wE.setCell ⟨g2,k,none⟩ (.int .i64 ((cN:Int)+1))).heap.size:=(by simpa using h9);clear ct zt;generalize wE.setCell ⟨g2,k,none⟩ (.int .i64 ((cN:Int)+1))=w5 at *
    cases hb:(az done M || az (up ++ [(k:Int)]) M)with
    |true=>
     rw [hb] at hmt;have cm:=H3.out.cell (nf hmt);obtain⟨hp1,hp2⟩:=HOld.out hmt;have hlk:eT f done (tr.set k ((cN:Int)+1)) < gk:=Nat.lt_of_lt_of_le hp2 H2.out;have HE:Hid (FZ f B g1 g2 w (eT f done (tr.set k ((cN:Int)+1))) (up ++ [(k:Int)]) done (.slice (some ⟨gw2,0,none⟩) P wc) (.slice do' done.length dc) w5):=ae (by
      refine⟨_,mt,hp1,Nat.le_refl _,by rw [←HN.out];exact H3.out,by rw [←HN.out];exact H4.out,?_,H6.out,H7.out,H8.out,h9⟩;have e:(up ++ [(k:Int)]).length=P:=(by rw [hP.out];simp);rw [e];exact H5.out)
     replace hb:=ae hb;clear hp1 hp2 hmt HOld HNew;go_wp2_with fail
     go_roundg (eT f done (tr.set k ((cN:Int)+1)))
     case measure=>exact hlk
     case rel=>exact⟨_,_,HE⟩
    |false=>
     rw [hb] at hmt;have cm:=H3.out.cell (nf hmt);have zm:=H3.out.frozen M;obtain⟨hp1,hp2⟩:=HNew.out hmt;have HP1:=ae hp1;have hlk:eT f done (tr.set k ((cN:Int)+1)) < gk:=Nat.lt_of_lt_of_le hp2 H2.out;replace hb:=ae hb;clear hp1 hp2 hmt HOld HNew;go_upto_region 17 with fail
     show Code.wp _ _ _ _ (w5.setCell ⟨g1,M,none⟩ (.bool true));replace H3:Hid (aS (w5.setCell ⟨g1,M,none⟩ (.bool true)) w.heap.size 4 g1 N (fi (mt.set M true))):=ae (by rw [←rW];exact H3.out.set M _);replace H4:Hid (aS (w5.setCell ⟨g1,M,none⟩ (.bool true)) w.heap.size 3 g2 N (ints (tr.set k ((cN:Int)+1)))):=ae (H4.out.other (p:=⟨g1,M,none⟩) (by show g2≠g1;omega) _);replace H5:Hid ((w5.setCell ⟨g1,M,none⟩ (.bool true)).ownsRow B 3 1 (.slice (some ⟨gw2,0,none⟩) P wc) P (ints (up ++ [(k:Int)]))):=ae (ownsRow_setCell_below H5.out (a:=⟨g1,M,none⟩) (by show g1 < B;omega) _);replace H6:Hid ((w5.setCell ⟨g1,M,none⟩ (.bool true)).ownsRow B 3 1 (.slice do' done.length dc) done.length (ints done)):=ae (ownsRow_setCell_below H6.out (a:=⟨g1,M,none⟩) (by show g1 < B;omega) _);replace H8:Hid (Below w.heap.size w (w5.setCell ⟨g1,M,none⟩ (.bool true))):=ae (H8.out.setCell (p:=⟨g1,M,none⟩) (by show w.heap.size≤g1;omega) _);replace h9:B≤(w5.setCell ⟨g1,M,none⟩ (.bool true)).heap.size:=(by simpa using h9);clear cm zm;generalize w5.setCell ⟨g1,M,none⟩ (.bool true)=w6 at *;go_wp2_with (at_builtin;refine wpList_append_own_at _ rfl (.tmp 73) (.tmp 75) 33 rfl B 3 i3 _ 1 8 Tryz.underlying33 hi3 hz3 hz4 hz5 rfl (by decide) _ _ _ rfl (H5.out.alloc _) ⟨w6.heap.size,0,none⟩ 1 1 [.int .i64 M] rfl rfl aM bt (by unfold maxLen;omega) (by omega) (by simp;omega) ?_;intro v2 wB own2 grow2 _ at2;refine Hid.out ?_)
     have far:∀g,g < B→some g≠(Value.slice (some ⟨gw2,0,none⟩) P wc).ownBlock:=fun g hg e=>by have:=(H5.out.lt g e.symm).1;omega
     have HE:Hid (FZ f B g1 g2 w (eT f done (tr.set k ((cN:Int)+1))) (up ++ [(k:Int)] ++ [(M:Int)]) done v2 (.slice do' done.length dc) wB):=ae (by
      refine⟨_,_,HP1.out,Nat.le_refl _,?_,?_,?_,?_,?_,?_,?_⟩
      ·rw [←HN.out];exact(H3.out.alloc _).kept grow2 (far g1 (by omega))
      ·rw [←HN.out];exact(H4.out.alloc _).kept grow2 (far g2 (by omega))
      ·have e:(up ++ [(k:Int)] ++ [(M:Int)]).length=P+1:=(by rw [hP.out];simp);rw [e];have:=own2;simpa [ints] using this
      ·exact(H6.out.alloc _).kept grow2 H7.out.symm
      ·exact(mY.grow (w:=w6) H7.out.symm H6.out at2).symm
      ·exact Below.grown (H8.out.alloc H8.out.size _) grow2 (by have:=H8.out.size;simp;omega) (fun k hk=>by have:=(H5.out.lt k hk).1;omega)
      ·have:=grow2.size;simp at this;omega)
     obtain⟨vo,vc,rfl⟩:=aL own2;clear own2 grow2 at2 far;refine ae ?_;go_wp2_with fail
     go_roundg (eT f done (tr.set k ((cN:Int)+1)))
     case measure=>exact hlk
     case rel=>exact⟨_,_,HE⟩
def GrB (w:World) (l:List Bool) (v:Value) (wr:World):Prop:=wr.ownsRow w.heap.size 4 1 v l.length (fi l)∧Below w.heap.size w wr
theorem GrB.start (w:World):GrB w [] (.slice none 0 0) w:=⟨World.ownsRow_nil _ _ _ _,Below.refl _ _⟩
theorem GrB.step {w wr w2:World} {l:List Bool} {v v':Value} {x:Bool} {o:Obj} (h:GrB w l v wr) (own:w2.ownsRow w.heap.size 4 1 v' (l.length+1) (fi l ++ [.bool x])) (hg:(wr.alloc o).grownBy w2 v.ownBlock):GrB w (l ++ [x]) v' w2:=by
 refine⟨by simpa [fi] using own,?_⟩;refine Below.grown (h.2.alloc h.2.size o) hg (by simp;have:=h.2.size;omega) ?_;intro k hk;exact(h.1.lt k hk).1
theorem GrB.len {w wr:World} {l:List Bool} {v:Value} (h:GrB w l v wr):∃ao c,v= .slice ao l.length c:=aL h.1
def dK (ll:List (List Int)) (a:Int) (K:Nat):List Bool:=(List.range K).map fun(b:Nat)=>cd ll a b
def kG (ll:List (List Int)) (K:Nat):List (List Bool):=(List.range K).map fun(a:Nat)=>dK ll a ll.length
def DU (ll:List (List Int)):List (List Bool):=kG ll ll.length
theorem rM (ll:List (List Int)) (a:Int) (K:Nat):(dK ll a K).length=K:=by simp [dK]
theorem DW {ll:List (List Int)} {a:Int} {K b:Nat} (h:b < K):(dK ll a K)[b]? =some (cd ll a b):=by
 unfold dK;rw [List.getElem?_map,List.getElem?_range h];rfl
theorem rT (ll:List (List Int)) (K:Nat):(kG ll K).length=K:=by simp [kG]
theorem FE {ll:List (List Int)} {K a:Nat} (h:a < K):(kG ll K)[a]? =some (dK ll a ll.length):=by
 unfold kG;rw [List.getElem?_map,List.getElem?_range h];rfl
def jQ (B:Nat) (w:World) (t:List (List Bool)) (v:Value):Prop:=∃us:List Value,w.ownsRow B 124 1 v t.length us∧us.length=t.length∧∀(i:Nat) (l:List Bool),t[i]? =some l→∃u,us[i]? =some u∧w.ownsRow B 4 1 u l.length (fi l)
theorem jQ.nil (B:Nat) (w:World):jQ B w [] (.slice none 0 0):=⟨[],World.ownsRow_nil _ _ _ _,rfl,fun i l h=>by simp at h⟩
theorem jQ.below {B:Nat} {w w':World} {t:List (List Bool)} {v:Value} (h:jQ B w t v) (b:Below w.heap.size w w'):jQ B w' t v:=by
 obtain⟨us,h1,h2,h3⟩:=h;refine⟨us,br b B _ _ _ _ _ h1,h2,fun i l hl=> ?_⟩;obtain⟨u,k1,k2⟩:=h3 i l hl;exact⟨u,k1,br b B _ _ _ _ _ k2⟩
theorem jQ.base {B B':Nat} {w:World} {t:List (List Bool)} {v:Value} (h:jQ B w t v) (hB:B'≤B):jQ B' w t v:=by
 obtain⟨us,h1,h2,h3⟩:=h;refine⟨us,aT h1 hB,h2,fun i l hl=> ?_⟩;obtain⟨u,k1,k2⟩:=h3 i l hl;exact⟨u,k1,aT k2 hB⟩
theorem jQ.len {B:Nat} {w:World} {t:List (List Bool)} {v:Value} (h:jQ B w t v):∃ao c,v= .slice ao t.length c:=by
 obtain⟨us,h1,_⟩:=h;exact aL h1
theorem jQ.step {B:Nat} {wr w2:World} {t:List (List Bool)} {l:List Bool} {v v' u:Value} {us:List Value} {o:Obj} (h1:wr.ownsRow B 124 1 v t.length us)
  (h:us.length=t.length∧∀(i:Nat) (l:List Bool),t[i]? =some l→∃u,us[i]? =some u∧wr.ownsRow B 4 1 u l.length (fi l)) (hu:wr.ownsRow B 4 1 u l.length (fi l))
  (own:w2.ownsRow B 124 1 v' (t.length+1) (us ++ [u])) (hg:(wr.alloc o).grownBy w2 v.ownBlock):jQ B w2 (t ++ [l]) v':=by
 obtain⟨h2,h3⟩:=h;refine⟨us ++ [u],by simpa using own,by simp [h2],fun i m hm=> ?_⟩;have other:∀(x:Value) (n:Nat) (xs:List Value),wr.ownsRow B 4 1 x n xs→w2.ownsRow B 4 1 x n xs:=fun x n xs hx=>fE hg (h1.alloc o) (by decide) x n xs (hx.alloc o);by_cases hi:i < t.length
 ·rw [List.getElem?_append_left hi] at hm;obtain⟨y,k1,k2⟩:=h3 i m hm;exact⟨y,by rw [List.getElem?_append_left (by omega)];exact k1,other _ _ _ k2⟩
 ·rw [List.getElem?_append_right (by omega)] at hm;have hi2:i - t.length=0:=by
   have:=(List.getElem?_eq_some_iff.1 hm).1;simp at this;omega
  rw [hi2] at hm;simp at hm;subst hm;exact⟨u,by rw [List.getElem?_append_right (by omega),h2,hi2];rfl,other _ _ _ hu⟩
theorem pe {B:Nat} {f:Fun} {w:World} {v:Value} (h:cF B w (aD f) v):∃ao c,v= .slice ao f.2.2.2.1.length c∧lW w ao (aD f):=by
 obtain⟨ao,c,e,h1,_⟩:=h.read;exact⟨ao,c,by rw [e,bI],h1⟩
theorem Ag (nm:List UInt8) (ps:List Int) (rt pl:Int) (bl:List (List Ins)) (ao bo:Option Addr) (c cb:Nat) (w:World)
  (hv:cg w (nm,ps,rt,bl,pl) (.agg #[.string (bs nm),.slice ao ps.length c,.int .i64 rt,.slice bo bl.length cb,.int .i64 pl])) (hF:Ful (nm,ps,rt,bl,pl)) (hT:Tos (nm,ps,rt,bl,pl)) (h0:0 < bl.length):
  Calls Tryz.prog 94 #[.agg #[.string (bs nm),.slice ao ps.length c,.int .i64 rt,.slice bo bl.length cb,.int .i64 pl]] w fun e w'=>∃u,e= .returned u∧w'.ownsRow w.heap.size 3 1 u (aC (nm,ps,rt,bl,pl)).length (ints (aC (nm,ps,rt,bl,pl)))∧Below w.heap.size w w':=by
 have b0:=ah w (.cells #[.string (bs nm),.slice ao ps.length c,.int .i64 rt,.slice bo bl.length cb,.int .i64 pl] 36);have X0:=ae (L5.Box.new w [.string (bs nm),.slice ao ps.length c,.int .i64 rt,.slice bo bl.length cb,.int .i64 pl] 36);have HC:=ae (nE (nm,ps,rt,bl,pl) _ _ (hv.below b0) hF hT);have HO:=ae (fun no nc w hr=>sE (nm,ps,rt,bl,pl) no nc w hr hF hT h0);have B0:=ae b0;clear b0 hv hF hT h0;go_enter Tryz.func94,Tryz.ntmps94
 go_upto_region 1 with fail
 show Code.wp _ _ _ _ (w.alloc (.cells #[.string (bs nm),.slice ao ps.length c,.int .i64 rt,.slice bo bl.length cb,.int .i64 pl] 36));replace X0:Hid (L5.Box (w.alloc (.cells #[.string (bs nm),.slice ao ps.length c,.int .i64 rt,.slice bo bl.length cb,.int .i64 pl] 36)) w.heap.size [.string (bs nm),.slice ao ps.length c,.int .i64 rt,.slice bo bl.length cb,.int .i64 pl]):=X0;generalize w.alloc (.cells #[.string (bs nm),.slice ao ps.length c,.int .i64 rt,.slice bo bl.length cb,.int .i64 pl] 36)=W at *;obtain⟨x0,x1,x2,x3,x4⟩:_∧_∧_∧_∧_:=⟨X0.out.2 0 _ rfl,X0.out.2 1 _ rfl,X0.out.2 2 _ rfl,X0.out.2 3 _ rfl,X0.out.2 4 _ rfl⟩;go_wp2_with fail
 refine HC.out.mono ?_;rintro e w1 ⟨v,rfl,hr,b1⟩;obtain⟨no,nc,rfl,hrr⟩:=pe hr;have HO1:=ae (HO.out no nc w1 hrr);have B1:=ae b1;clear x0 x1 x2 x3 x4 hr hrr b1 HC HO;go_wp2_with fail
 refine HO1.out.mono ?_;rintro e w2 ⟨u,rfl,hu,b2⟩;have HE:=ae (And.intro (aT hu (Nat.le_trans B0.out.size B1.out.size)) (af B0.out (af B1.out b2)));clear hu b2 HO1;go_wp2_with fail
 go_ret;exact⟨_,rfl,HE.out.1,HE.out.2⟩
theorem pF (f:Fun) (v:Value) (w:World) (hv:cg w f v) (hF:Ful f) (hT:Tos f) (h0:0 < f.2.2.2.1.length):
  Calls Tryz.prog 94 #[v] w fun e w'=>∃u,e= .returned u∧w'.ownsRow w.heap.size 3 1 u (aC f).length (ints (aC f))∧Below w.heap.size w w':=by
 obtain⟨nm,ps,rt,bl,pl⟩:=f;have hv2:=hv;obtain⟨vp,vb,rfl,⟨ao,c,rfl,h1,_⟩,h2⟩:=hv;obtain⟨bo,cb,rfl,_⟩:=h2;exact Ag nm ps rt pl bl ao bo c cb w hv2 hF hT h0
def bR (n I:Nat):List Int:=List.replicate I (-1) ++ List.replicate (n - I) 0
theorem zk {n I:Nat} (h:I≤n):(bR n I).length=n:=by simp [bR];omega
theorem yh {n I:Nat} (h:I < n):(bR n I).set I (-1)=bR n (I+1):=by
 unfold bR;obtain⟨M,hM⟩:∃M,n - I=M+1:=⟨n - I - 1,by omega⟩;rw [List.set_append_right _ _ (by simp),List.length_replicate,Nat.sub_self,hM,List.replicate_succ,List.set_cons_zero,Nat.sub_add_eq,hM,Nat.add_sub_cancel,List.replicate_succ',List.append_assoc];rfl
theorem ya (n:Nat):bR n n=dM n []:=by rw [tf];simp [bR]
theorem hH {f:Fun} (hT:Tos f) (h0:0 < f.2.2.2.1.length):(aC f).Nodup∧Num f.2.2.2.1.length (aC f):=by
 obtain⟨h1,h2⟩:=nK hT h0;exact⟨List.pairwise_reverse.2 (h1.imp fun h e=>h e.symm),fun m hm=>h2 m (List.mem_reverse.1 hm)⟩
theorem zI (f:Fun) (no:Option Addr) (nc:Nat) (w:World) (hr:lW w no (aD f)) (hF:Ful f) (hT:Tos f) (h0:0 < f.2.2.2.1.length):
  Calls Tryz.prog 127 #[.slice no f.2.2.2.1.length nc] w fun e w'=>∃g,e= .returned (.slice (some ⟨g,0,none⟩) f.2.2.2.1.length f.2.2.2.1.length)∧aS w' w.heap.size 3 g f.2.2.2.1.length (ints (dD f))∧Below w.heap.size w w':=by
 obtain⟨i3,hi3,hz3,hz4,hz5⟩:=info_parts Tryz.cr;have HR:=ae hr;have HO:=ae (fun w hr=>sE f no nc w hr hF hT h0);have hbl:f.2.2.2.1.length≤1000000:=hF.1;have hol:=gj hT h0;obtain⟨hnd,hnu⟩:=hH hT h0;have HNd:=ae hnd;have HNu:=ae hnu;have HPl:=ae (Ad f);generalize aC f=l at *;generalize dD f=pf at *;generalize f.2.2.2.1.length=N at *;clear hr hF hT h0 hnd hnu;go_enter Tryz.func127,Tryz.ntmps127
 go_upto_region 2 with (at_make;refine wpList_make_full _ rfl _ _ 33 rfl w.heap.size 3 i3 _ 1 Tryz.underlying33 hi3 hz3 hz4 .i64 .i64 N N N rfl rfl rfl rfl (by rw [hz5];omega) (by unfold maxLen;omega) (Nat.le_refl _) ?_;intro w1 own1 grow1;refine Hid.out ?_)
 rw [fW] at own1;have R1:Hid (aS w1 w.heap.size 3 w.heap.size N (ints (bR N 0))):=ae (by
  have e:bR N 0=List.replicate N 0:=by simp [bR]
  rw [e];exact own1)
 have B1:=ae (gq grow1);clear own1 grow1;generalize hg:w.heap.size=g at *;refine ae ?_;go_wp2_with fail
 go_loopw [12] (fun i wr=>∃I:Nat,I≤N∧i= .int .i64 I∧Hid (aS wr g 3 g N (ints (bR N I)))∧Hid (Below g w wr)) (fun i _=>N - (intOf i).toNat)
 case atStart=>exact⟨0,Nat.zero_le _,rfl,R1,B1⟩
 case round=>
  clear R1 B1;obtain⟨I,hI,rfl,HA,HW⟩:=hrel;by_cases hit:I < N
  ·have hiI:(I:Int) < N:=(by omega);obtain⟨x,hx⟩:∃x,(bR N I)[I]? =some x:=⟨_,List.getElem?_eq_getElem (by rw [zk hI];exact hit)⟩;have c1:=HA.out.cell (ints_at hx);have z1:=HA.out.frozen I;have HE:Hid (aS (wr.setCell ⟨g,I,none⟩ (.int .i64 (-1))) g 3 g N (ints (bR N (I+1)))):=ae (by rw [←yh hit,←ints_set];exact HA.out.set I _);have HE2:Hid (Below g w (wr.setCell ⟨g,I,none⟩ (.int .i64 (-1)))):=ae (HW.out.setCell (p:=⟨g,I,none⟩) (Nat.le_refl _) _);clear hx;go_wp2_with fail
   go_roundw
   case rel=>exact⟨I+1,by omega,by go_num,HE,HE2⟩
   case measure=>simp [intOf];omega
  ·obtain rfl:I=N:=(by omega);have HA0:Hid (aS wr g 3 g I (ints (dM I (l.take 0)))):=ae (by have:=HA.out;rw [ya] at this;exact this);have HRr:Hid (lW wr no (aD f)):=ae (HR.out.below (by rw [hg];exact HW.out));have HO1:=ae (HO.out wr HRr.out);have hgl:g < wr.heap.size:=HA.out.lt.2;clear HA;go_wp2_with fail
   refine HO1.out.mono ?_;rintro e w2 ⟨u,rfl,hu,b2⟩;have HA2:=ae (HA0.out.below b2);have HW2:Hid (Below g w w2):=ae (HW.out.trans (b2.mono (by omega)));have HU:=ae hu;obtain⟨uo,uc,rfl⟩:=aL hu;clear hu b2 HO1 HA0 HRr HW;go_wp2_with fail
   generalize wr.heap.size=B at *;go_loopw [22] (fun i wr=>∃J:Nat,J≤l.length∧i= .int .i64 J∧Hid (aS wr g 3 g I (ints (dM I (l.take J))))∧Hid (Below g w wr)∧Hid (wr.ownsRow B 3 1 (.slice uo l.length uc) l.length (ints l))) (fun i _=>l.length - (intOf i).toNat)
   case atStart=>exact⟨0,Nat.zero_le _,rfl,HA2,HW2,HU⟩
   case round=>
    clear HA2 HW2 HU;obtain⟨J,hJ,rfl,HA,HW,HU⟩:=hrel;by_cases hjt:J < l.length
    ·have hjI:(J:Int) < l.length:=(by omega);obtain⟨m,hm⟩:∃m,l[J]? =some m:=⟨_,List.getElem?_eq_getElem hjt⟩;obtain⟨hm0,hm1⟩:=HNu.out m (List.mem_of_getElem? hm);obtain⟨M,rfl⟩:∃M:Nat,m=(M:Int):=⟨m.toNat,by omega⟩;have hMI:M < I:=(by omega);have hfr:=il HNd.out hm;obtain⟨gl,rfl,c9,_⟩:=vF HU.out hm;obtain⟨x,hx⟩:∃x,(dM I (l.take J))[M]? =some x:=⟨_,List.getElem?_eq_getElem (by rw [tH];exact hMI)⟩;have c1:=HA.out.cell (ints_at hx);have z1:=HA.out.frozen M;have hlj:(l.take J).length=J:=(by rw [List.length_take];omega);have HE:Hid (aS (wr.setCell ⟨g,M,none⟩ (.int .i64 J)) g 3 g I (ints (dM I (l.take (J+1))))):=ae (by
      have e:=rl (n:=I) hfr;rw [cV hm,e,hlj,←ints_set];exact HA.out.set M _)
     have HE2:Hid (Below g w (wr.setCell ⟨g,M,none⟩ (.int .i64 J))):=ae (HW.out.setCell (p:=⟨g,M,none⟩) (Nat.le_refl _) _);have HE3:Hid ((wr.setCell ⟨g,M,none⟩ (.int .i64 J)).ownsRow B 3 1 (.slice (some ⟨gl,0,none⟩) l.length uc) l.length (ints l)):=ae (ownsRow_setCell_below HU.out (a:=⟨g,M,none⟩) hgl _);clear hx hm hfr hlj;go_wp2_with fail
     go_roundw
     case rel=>exact⟨J+1,by omega,by go_num,HE,HE2,HE3⟩
     case measure=>simp [intOf];omega
    ·obtain rfl:J=l.length:=(by omega);have HE:Hid (aS wr w.heap.size 3 g I (ints pf)∧Below w.heap.size w wr):=ae (by
      refine⟨?_,by rw [hg];exact HW.out⟩;have:=HA.out;rw [List.take_length,←HPl.out] at this;rw [hg];exact this)
     go_wp2_with fail
     go_ret;exact⟨g,rfl,HE.out.1,HE.out.2⟩
def zf (w:World) (ll:List (List Int)) (v:Value):Prop:=∃b o c,v= .slice (some ⟨b,o,none⟩) ll.length c∧b < w.heap.size∧∀i:Nat,i < ll.length→∃lb lo lc,w.cell? ⟨b,o+i,none⟩=some (.slice (some ⟨lb,lo,none⟩) ll.length lc)∧lb < w.heap.size∧
 ∀j:Nat,j < ll.length→w.cell? ⟨lb,lo+j,none⟩=some (.bool (cd ll i j))
theorem zf.below {w w':World} {ll:List (List Int)} {v:Value} (h:zf w ll v) (hb:Below w.heap.size w w'):zf w' ll v:=by
 obtain⟨b,o,c,e,h1,h2⟩:=h;refine⟨b,o,c,e,Nat.lt_of_lt_of_le h1 hb.size,fun i hi=> ?_⟩;obtain⟨lb,lo,lc,k1,k2,k3⟩:=h2 i hi;exact⟨lb,lo,lc,(hb.cell (p:=⟨b,o+i,none⟩) h1).trans k1,Nat.lt_of_lt_of_le k2 hb.size,fun j hj=>(hb.cell (p:=⟨lb,lo+j,none⟩) k2).trans (k3 j hj)⟩
theorem jQ.read {B:Nat} {w:World} {ll:List (List Int)} {v:Value} (h:jQ B w (DU ll) v) (hn:0 < ll.length):zf w ll v:=by
 obtain⟨us,h1,h2,h3⟩:=h;have hl:(DU ll).length=ll.length:=rT _ _;rw [hl] at h1;rcases dn h1 with ⟨_,e⟩ | ⟨g,cap,e,k1,k2,k3,k4,k5,k6⟩
 ·omega
 refine⟨g,0,cap,e,k4,fun i hi=> ?_⟩;obtain⟨u,q1,q2⟩:=h3 i _ (FE hi);rw [rM] at q2;rcases dn q2 with ⟨_,e⟩ | ⟨g2,cap2,e2,m1,m2,m3,m4,m5,m6⟩
 ·omega
 refine⟨g2,0,cap2,by rw [Nat.zero_add,k5 i u q1,e2],m4,fun j hj=> ?_⟩;rw [Nat.zero_add];exact m5 j _ (nf (DW hj))
theorem FU (p:Nat→Bool):∀n,lV p n≤n:=by
 intro n;induction n with
 |zero=>exact Nat.le_refl _
 |succ n ih=>
  rw [jt];split <;> omega
theorem sR (ll:List (List Int)) (b:Int):bf ll b≤ll.length:=FU _ _
def firstQ (p:Nat→Bool):Nat→Int
 |0=> -1
 |n+1=>if 0≤firstQ p n then firstQ p n else if p n then n else -1
theorem oz {p:Nat→Bool}:∀n,(∀j,j < n→p j=false)→firstQ p n= -1:=by
 intro n;induction n with
 |zero=>intro _;rfl
 |succ n ih=>
  intro h;have h1:=ih (fun j hj=>h j (by omega));simp [firstQ,h1,h n (by omega)]
theorem vS {p:Nat→Bool} {K:Nat} (hp:p K=true) (h0:∀j,j < K→p j=false):∀n,K < n→firstQ p n=K:=by
 intro n;induction n with
 |zero=>intro h;omega
 |succ n ih=>
  intro h;by_cases e:K=n
  ·subst e;have h1:=oz K h0;simp [firstQ,h1,hp]
  ·have h1:=ih (by omega);simp [firstQ,h1]
def oy (ll:List (List Int)) (b:Int) (a:Nat):Bool:=decide ((a:Int)≠b) && cd ll a b && decide (bf ll a+1=bf ll b)
def upB (ll:List (List Int)) (b:Int):Int:=firstQ (oy ll b) ll.length
theorem wC (nm:List UInt8) (ps:List Int) (rt pl:Int) (bl:List (List Ins)) (ao bo:Option Addr) (c cb:Nat) (w:World)
  (hv:cg w (nm,ps,rt,bl,pl) (.agg #[.string (bs nm),.slice ao ps.length c,.int .i64 rt,.slice bo bl.length cb,.int .i64 pl])) (hF:Ful (nm,ps,rt,bl,pl)) (hT:Tos (nm,ps,rt,bl,pl)) (h0:0 < bl.length):
  Calls Tryz.prog 97 #[.agg #[.string (bs nm),.slice ao ps.length c,.int .i64 rt,.slice bo bl.length cb,.int .i64 pl]] w fun e w'=>∃g,e= .returned (.slice (some ⟨g,0,none⟩) bl.length bl.length)∧aS w' w.heap.size 3 g bl.length (ints (dD (nm,ps,rt,bl,pl)))∧Below w.heap.size w w':=by
 have b0:=ah w (.cells #[.string (bs nm),.slice ao ps.length c,.int .i64 rt,.slice bo bl.length cb,.int .i64 pl] 36);have X0:=ae (L5.Box.new w [.string (bs nm),.slice ao ps.length c,.int .i64 rt,.slice bo bl.length cb,.int .i64 pl] 36);have HC:=ae (nE (nm,ps,rt,bl,pl) _ _ (hv.below b0) hF hT);have HO:=ae (fun no nc w hr=>zI (nm,ps,rt,bl,pl) no nc w hr hF hT h0);have B0:=ae b0;clear b0 hv hF hT h0;go_enter Tryz.func97,Tryz.ntmps97
 go_upto_region 1 with fail
 show Code.wp _ _ _ _ (w.alloc (.cells #[.string (bs nm),.slice ao ps.length c,.int .i64 rt,.slice bo bl.length cb,.int .i64 pl] 36));replace X0:Hid (L5.Box (w.alloc (.cells #[.string (bs nm),.slice ao ps.length c,.int .i64 rt,.slice bo bl.length cb,.int .i64 pl] 36)) w.heap.size [.string (bs nm),.slice ao ps.length c,.int .i64 rt,.slice bo bl.length cb,.int .i64 pl]):=X0;generalize w.alloc (.cells #[.string (bs nm),.slice ao ps.length c,.int .i64 rt,.slice bo bl.length cb,.int .i64 pl] 36)=W at *;obtain⟨x0,x1,x2,x3,x4⟩:_∧_∧_∧_∧_:=⟨X0.out.2 0 _ rfl,X0.out.2 1 _ rfl,X0.out.2 2 _ rfl,X0.out.2 3 _ rfl,X0.out.2 4 _ rfl⟩;go_wp2_with fail
 refine HC.out.mono ?_;rintro e w1 ⟨v,rfl,hr,b1⟩;obtain⟨no,nc,rfl,hrr⟩:=pe hr;have HO1:=ae (HO.out no nc w1 hrr);have B1:=ae b1;clear x0 x1 x2 x3 x4 hr hrr b1 HC HO;go_wp2_with fail
 refine HO1.out.mono ?_;rintro e w2 ⟨g,rfl,hu,b2⟩;have HE:=ae (And.intro (hu.base (Nat.le_trans B0.out.size B1.out.size)) (af B0.out (af B1.out b2)));clear hu b2 HO1;go_wp2_with fail
 go_ret;exact⟨g,rfl,HE.out.1,HE.out.2⟩
theorem uO (f:Fun) (v:Value) (w:World) (hv:cg w f v) (hF:Ful f) (hT:Tos f) (h0:0 < f.2.2.2.1.length):
  Calls Tryz.prog 97 #[v] w fun e w'=>∃g,e= .returned (.slice (some ⟨g,0,none⟩) f.2.2.2.1.length f.2.2.2.1.length)∧aS w' w.heap.size 3 g f.2.2.2.1.length (ints (dD f))∧Below w.heap.size w w':=by
 obtain⟨nm,ps,rt,bl,pl⟩:=f;have hv2:=hv;obtain⟨vp,vb,rfl,⟨ao,c,rfl,h1,_⟩,h2⟩:=hv;obtain⟨bo,cb,rfl,_⟩:=h2;exact wC nm ps rt pl bl ao bo c cb w hv2 hF hT h0
theorem xx {p:Nat→Bool}:∀n,0≤firstQ p n→p (firstQ p n).toNat=true∧firstQ p n < n:=by
 intro n;induction n with
 |zero=>intro h;simp [firstQ] at h
 |succ n ih=>
  intro h;by_cases h0:0≤firstQ p n
  ·have e:firstQ p (n+1)=firstQ p n:=(by simp [firstQ,h0]);rw [e];have:=ih h0;exact⟨this.1,by omega⟩
  ·cases hp:p n with
   |true=>
    have e:firstQ p (n+1)=n:=(by simp [firstQ,h0,hp]);rw [e];exact⟨by simpa using hp,by omega⟩
   |false=>
    have e:firstQ p (n+1)= -1:=(by simp [firstQ,h0,hp]);rw [e] at h;omega
theorem I0 {ll:List (List Int)} (h:Gr ll) {b:Int} (h0:0≤upB ll b):iW ll b (upB ll b):=by
 have h1:=(xx _ h0).1;have e:(((upB ll b).toNat:Nat):Int)=upB ll b:=Int.toNat_of_nonneg h0;have h2:oy ll b (upB ll b).toNat=true:=h1;unfold oy at h2;rw [e] at h2;simp only [Bool.and_eq_true,decide_eq_true_eq,cn h] at h2;exact⟨h2.1.1,h2.1.2,h2.2⟩
theorem tq {ll:List (List Int)} (h:Gr ll) {b a:Int} (ha:iW ll b a):upB ll b=a:=by
 obtain⟨n0,n1⟩:=ha.2.1.1.num h;obtain⟨A,rfl⟩:∃A:Nat,a=(A:Int):=⟨a.toNat,by omega⟩;refine vS (K:=A) ?_ ?_ _ (by omega)
 ·unfold oy;simp only [Bool.and_eq_true,decide_eq_true_eq,cn h];exact⟨⟨ha.1,ha.2.1⟩,ha.2.2⟩
 ·intro j hj
  cases hp:oy ll b j with
  |false=>rfl
  |true=>
   exfalso;unfold oy at hp;simp only [Bool.and_eq_true,decide_eq_true_eq,cn h] at hp;have:=iW.one h ⟨hp.1.1,hp.1.2,hp.2⟩ ha;omega
theorem uC {ll:List (List Int)} (h:Gr ll) {b:Int} (hb:∀a,¬iW ll b a):upB ll b= -1:=by
 by_cases h0:0≤upB ll b
 ·exact absurd (I0 h h0) (hb _)
 ·refine oz _ fun j hj=> ?_
  cases hp:oy ll b j with
  |false=>rfl
  |true=>
   exfalso;unfold oy at hp;simp only [Bool.and_eq_true,decide_eq_true_eq,cn h] at hp;exact hb _ ⟨hp.1.1,hp.1.2,hp.2⟩
open Mix (Up)
def Kl (w:World) (l:List (Int × Int)) (v:Value):Prop:=∃ao c,v= .slice ao l.length c∧(l= []∨∃b,ao=some ⟨b,0,none⟩∧b < w.heap.size∧∀(i:Nat) (p:Int × Int),l[i]? =some p→w.cell? ⟨b,i * 2,none⟩=some (.int .i64 p.1)∧w.cell? ⟨b,i * 2+1,none⟩=some (.int .i64 p.2))∧l.length≤maxLen
def Up.rows (ll:List (List Int)):Up:=⟨fun v w=>fL w ll v,fun _ _ _ b h=>h.below b⟩
def Up.ints (l:List Int):Up:=⟨fun v w=>bX w l v,fun _ _ _ b h=>h.below b⟩
theorem dj {P:Program} {f:FuncId} {args:Array Value} {w:World} {R:Ending→World→Prop} (h:Calls P f args w R):∃e w',R e w':=by
 obtain⟨e,w',_,h1,_⟩:=h [];exact⟨e,w',h1⟩
theorem cD {W:World} {F:Tmp→Up} {d:Tmp} {f:FuncId} {args:Array Value} (h:Calls Tryz.prog f args W fun e w'=>∃v,e= .returned v∧Below W.heap.size W w'∧(F d).1 v w'):∃v,Mix.Valid W F (some d) v:=by
 obtain⟨e,w',v,_,b,hf⟩:=dj h;exact⟨v,w',b,fun d' hd=>by cases hd;exact hf⟩
theorem aq {W:World} {F:Tmp→Up} {d:Tmp} (c:Value) (h:(F d).1 c W):∃v,Mix.Valid W F (some d) v:=⟨c,W,Below.refl _ _,fun d' hd=>by cases hd;exact h⟩
theorem rn (N:Nat):∀(l:List (List Ins)) (k:Nat),(shapedGo N k l).1=0→∀b∈l,jw N b=0:=by
 intro l;induction l with
 |nil=>intro k _ b hb;cases hb
 |cons c l ih=>
  intro k h b hb;by_cases e:jw N c=0
  ·rw [jc e] at h;rcases List.mem_cons.1 hb with rfl | hb
   ·exact e
   ·exact ih _ h b hb
  ·rw [dT rfl e] at h;exact absurd h e
theorem yA (N n:Nat):∀(l:List Ins) (i:Nat),blkGo N n i l=0→∀(j:Nat) (x:Ins),l[j]? =some x→fj x.1=decide (i+j+1=n)∧fT N x=false:=by
 intro l;induction l with
 |nil=>intro i _ j x hx;simp at hx
 |cons y l ih=>
  intro i h j x hx;by_cases e:fj y.1=decide (i+1=n)
  ·cases hb:fT N y with
   |true=>rw [jj e hb] at h;cases h
   |false=>
    rw [ix e hb] at h
    cases j with
    |zero=>simp at hx;subst hx;exact⟨e,hb⟩
    |succ j=>
     have:=ih (i+1) h j x (by simpa using hx);rw [show i+1+j+1=i+(j+1)+1 by omega] at this;exact this
  ·rw [jk e] at h;cases h
theorem wZ {w:World} {B g:Nat} {f:Fun} (h:aS w B 3 g f.2.2.2.1.length (ints (dD f))):bX w (dD f) (.slice (some ⟨g,0,none⟩) f.2.2.2.1.length f.2.2.2.1.length):=by
 have e:=kA f;rw [←e] at h ⊢;exact dG h
end Go.Proofs.YtljkgcfnoegibaaGreatDoor
