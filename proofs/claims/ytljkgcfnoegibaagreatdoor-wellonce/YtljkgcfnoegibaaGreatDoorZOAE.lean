/- Texts of one chain, joined. -/
import Derived.Test.YtljkgcfnoegibaaGreatDoorZOAD
import Derived.Test.YtljkgcfnoegibaaGreatDoorZAAU
set_option maxHeartbeats 8000000
set_option maxRecDepth 20000
namespace Go.Proofs.YtljkgcfnoegibaaGreatDoor
open Go Go.RowKit
open G (Tok Er Ins Fun peek0 peek1 fG)
def qm (w:World) (a c g2 g3:Nat) (L:List Tok) (E:Int) (q n:Nat) (ec:Int) (xs:List Fun) (wk:World):Prop:=
 RA a L E q n ec wk∧(∃v,wk.heap[c]? =some (.cells #[v] 24 (0,0))∧iM (a+1) xs v wk)∧wk.heap[g2]? =some (.cells #[.slice none 0 0] 24 (0,0))∧wk.heap[g3]? =some (.cells #[.int .i64 0,.int .i64 0] 29 (0,0))∧Below w.heap.size w wk∧(w.heap.size≤g2∧g2 < g3∧g3 < a∧a < c)∧∀f∈xs,GF E f
section
variable {w:World} {a c g2 g3:Nat} {L:List Tok} {E:Int} {q n q' n':Nat} {ec ec':Int} {xs:List Fun} {wk wk':World}
theorem qm.lt (h:qm w a c g2 g3 L E q n ec xs wk):w.heap.size≤g2∧g2 < g3∧g3 < a∧a < c∧c < wk.heap.size:=by
 obtain⟨h1,⟨v,h2,_⟩,h3,h4,h5,h6,h7⟩:=h;exact⟨h6.1,h6.2.1,h6.2.2.1,h6.2.2.2,(Array.getElem?_eq_some_iff.1 h2).1⟩
theorem qm.kr (h:qm w a c g2 g3 L E q n ec xs wk) (r:RA a L E q' n' ec' wk') (k:Kr a wk wk'):qm w a c g2 g3 L E q' n' ec' xs wk':=by
 have hl:=h.lt;obtain⟨h1,⟨v,h2,cs,o1,o2⟩,h3,h4,h5,h6,h7⟩:=h;exact⟨r,⟨v,(k.2.2.2.2 c (by omega) (by omega)).trans h2,cs,zG o1 k (by omega),jX.stay (oX k (by omega)) _ _ o2⟩,(k.2.2.2.2 g2 (by omega) (by omega)).trans h3,(k.2.2.2.2 g3 (by omega) (by omega)).trans h4,h5.trans (k.below (by omega) (by omega)),h6,h7⟩
theorem qm.below (h:qm w a c g2 g3 L E q n ec xs wk) (b:Below wk.heap.size wk wk'):qm w a c g2 g3 L E q n ec xs wk':=h.kr (h.1.below b) (Kr.bJ b)
end
def LQ (s:ByteArray) (w:World) (e:Ending) (w':World):Prop:=
 (∃ao n c ec ep,e= .returned (.tuple #[.agg #[.slice ao n c],.agg #[.int .i64 ec,.int .i64 ep]])∧(ec=0→∃xs,iM w.heap.size xs (.slice ao n c) w'∧(∀f∈xs,GF s.size f)∧xs.length≤32))∧Below w.heap.size w w'
theorem KP (s:ByteArray) (hs:s.size≤65536) (w:World):Calls Tryz.prog 20 #[.string s] w (LQ s w):=by
 obtain⟨i0,hi0,hz0,hz1,hz2⟩:=info_parts Tryz.FC;have b0:=ah w (.cells #[.slice none 0 0] 24);have b1:=ah (w.alloc (.cells #[.slice none 0 0] 24)) (.cells #[.int .i64 0,.int .i64 0] 29);have S2:Hid (((w.alloc (.cells #[.slice none 0 0] 24)).alloc (.cells #[.int .i64 0,.int .i64 0] 29)).heap[w.heap.size]? =some (.cells #[.slice none 0 0] 24 (0,0))):=ae ((b1.block _ (by simp)).trans (heap_alloc_new w _));have S3:Hid (((w.alloc (.cells #[.slice none 0 0] 24)).alloc (.cells #[.int .i64 0,.int .i64 0] 29)).heap[w.heap.size+1]? =some (.cells #[.int .i64 0,.int .i64 0] 29 (0,0))):=ae (by
  have s1:(w.alloc (.cells #[.slice none 0 0] 24)).heap.size=w.heap.size+1:=by simp
  rw [←s1];exact heap_alloc_new _ _)
 have B0:=ae (af b0 b1);have hsz0:w.heap.size+1 < ((w.alloc (.cells #[.slice none 0 0] 24)).alloc (.cells #[.int .i64 0,.int .i64 0] 29)).heap.size:=by simp
 clear b0 b1;go_enter Tryz.func20,Tryz.ntmps20
 go_upto_region 1 with fail
 show Code.wp _ _ _ _ ((w.alloc (.cells #[.slice none 0 0] 24)).alloc (.cells #[.int .i64 0,.int .i64 0] 29));generalize (w.alloc (.cells #[.slice none 0 0] 24)).alloc (.cells #[.int .i64 0,.int .i64 0] 29)=W0 at *;go_wp2_with fail
 refine(Kh s hs _).mono ?_;rintro e w1 ⟨⟨p1,rfl⟩ | ⟨v1,L,rfl,o1,hL⟩,b1⟩
 ·have b2:=ah w1 (.cells #[.int .i64 1,.int .i64 p1] 29);have B2:=af b1 b2;have s2:=(B2.block _ (by omega)).trans S2.out;have s3:=(B2.block _ (by omega)).trans S3.out;have bb:=af B0.out B2;have hn:=heap_alloc_new w1 (.cells #[.int .i64 1,.int .i64 p1] 29);go_upto_region 2 with fail
  show Code.wp _ _ _ _ (w1.alloc (.cells #[.int .i64 1,.int .i64 p1] 29));have hg5:w.heap.size+1 < w1.heap.size:=Nat.lt_of_lt_of_le hsz0 b1.size;generalize w1.alloc (.cells #[.int .i64 1,.int .i64 p1] 29)=W2 at *;generalize w1.heap.size=g5 at *;have y0:W2.cell? ⟨g5,0,none⟩=some (.int .i64 1):=by simp [World.cell?,hn]
  have y1:W2.cell? ⟨g5,1,none⟩=some (.int .i64 p1):=by simp [World.cell?,hn]
  have u0:W2.cell? ⟨w.heap.size,0,none⟩=some (.slice none 0 0):=by simp [World.cell?,s2]
  have u1:W2.cell? ⟨w.heap.size+1,0,none⟩=some (.int .i64 0):=by simp [World.cell?,s3]
  have u2:W2.cell? ⟨w.heap.size+1,1,none⟩=some (.int .i64 0):=by simp [World.cell?,s3]
  have v0:W2.frozen? ⟨w.heap.size,0,none⟩=false:=by simp [World.frozen?,s2]
  have v1:W2.frozen? ⟨w.heap.size+1,0,none⟩=false:=by simp [World.frozen?,s3]
  have v2:W2.frozen? ⟨w.heap.size+1,1,none⟩=false:=by simp [World.frozen?,s3]
  have hg23:w.heap.size+1≠w.heap.size:=by omega
  have hg53:g5≠w.heap.size+1:=by omega
  have hg52:g5≠w.heap.size:=by omega
  have BB:=ae bb;clear b1 b2 B2 s2 s3 bb hn S2 S3 B0 hsz0 hg5;go_wp2_with fail
  go_region
  all_goals
   have BBf:=ae ((((BB.out.setCell (p:=⟨w.heap.size,0,none⟩) (Nat.le_refl _) (.slice none 0 0)).setCell (p:=⟨w.heap.size+1,0,none⟩) (Nat.le_succ _) (.int .i64 1)).setCell (p:=⟨w.heap.size+1,1,none⟩) (Nat.le_succ _) (.int .i64 p1)).drew);go_wp2_with fail
   exact bodyPost_ret (v:= .tuple #[.agg #[.slice none 0 0],.agg #[.int .i64 1,.int .i64 p1]]) (by simp [results,Tryz.results20,go_sem,u0,u1,u2]) rfl ⟨⟨none,0,0,1,p1,rfl,fun e=>by cases e⟩,BBf.out⟩
 ·obtain⟨ao,cp,rfl⟩:=aL o1;have b2:=ah w1 (.cells #[.int .i64 0,.int .i64 0] 29);have O2:=ae (o1.alloc (.cells #[.int .i64 0,.int .i64 0] 29));have B2:=ae (af b1 b2);have HL:=ae hL;have x0:(w1.alloc (.cells #[.int .i64 0,.int .i64 0] 29)).cell? ⟨w1.heap.size,0,none⟩=some (.int .i64 0):=by simp
  clear o1 b1 b2 hL;go_upto_region 2 with fail
  show Code.wp _ _ _ _ (w1.alloc (.cells #[.int .i64 0,.int .i64 0] 29));generalize w1.alloc (.cells #[.int .i64 0,.int .i64 0] 29)=W2 at *;generalize w1.heap.size=g5 at *;have b3:=ah W2 (.cells #[.slice ao L.length cp,.int .i64 0,.int .i64 s.size,.int .i64 0,.int .i64 0,.int .i64 0] 70);have b4:=ah (W2.alloc (.cells #[.slice ao L.length cp,.int .i64 0,.int .i64 s.size,.int .i64 0,.int .i64 0,.int .i64 0] 70)) (.cells #[.slice none 0 0] 24);have hW3:(W2.alloc (.cells #[.slice ao L.length cp,.int .i64 0,.int .i64 s.size,.int .i64 0,.int .i64 0,.int .i64 0] 70)).heap.size=W2.heap.size+1:=by simp
  have M0:Hid (qm w W2.heap.size (W2.heap.size+1) w.heap.size (w.heap.size+1) L s.size 0 0 0 [] ((W2.alloc (.cells #[.slice ao L.length cp,.int .i64 0,.int .i64 s.size,.int .i64 0,.int .i64 0,.int .i64 0] 70)).alloc (.cells #[.slice none 0 0] 24))):=ae (by
   have hz:=B2.out.size;have hB:=B0.out.size;have BB:=af B2.out (af b3 b4);refine⟨⟨.slice ao L.length cp,0,?_,?_,HL.out,by omega,by omega,by omega,fun _=>⟨by omega,by omega⟩⟩,⟨.slice none 0 0,?_,[],World.ownsRow_nil _ _ _ _,rfl⟩,(BB.block _ (by omega)).trans S2.out,(BB.block _ (by omega)).trans S3.out,af B0.out BB,⟨Nat.le_refl _,by omega,by omega,by omega⟩,by simp⟩
   ·refine(b4.block _ (by omega)).trans ((heap_alloc_new W2 _).trans ?_);simp
   ·exact aT ((O2.out.alloc _).alloc _) (Nat.zero_le _)
   ·rw [←hW3];exact heap_alloc_new _ _)
  clear b3 b4 hW3 B2 O2 S2 S3 B0 hsz0;go_wp2_with fail
  generalize (W2.alloc (.cells #[.slice ao L.length cp,.int .i64 0,.int .i64 s.size,.int .i64 0,.int .i64 0,.int .i64 0] 70)).alloc (.cells #[.slice none 0 0] 24)=W4 at *;generalize W2.heap.size=a at *;generalize a+1=c at *;generalize w.heap.size+1=g3 at *;clear x0;go_loopw [] (fun wr=>∃(q m:Nat) (ec:Int) (acc:List Fun),Hid (qm w a c w.heap.size g3 L s.size q m ec acc wr)∧acc.length≤32) (fun wr=>left a L.length wr)
  case atStart=>exact⟨0,0,0,[],M0,by simp⟩
  case round=>
   obtain⟨q,m,ec,acc,M,h32⟩:=hrel;obtain⟨c1,_,c4,hq9⟩:=M.out.1.at1;have hlt:=M.out.lt;by_cases he:ec=0
   ·subst he;by_cases hq:q < L.length
    ·have hq1:(q:Int) < (L.length:Int):=(by omega);have hq2:decide ((q:Int) < (L.length:Int))=true:=(by simpa using hq1);obtain⟨v,hc,cs,o1,o2⟩:=M.out.2.1;obtain⟨aoV,cpV,rfl⟩:=aL o1;have y0:wr.cell? ⟨c,0,none⟩=some (.slice aoV acc.length cpV):=(by simp [World.cell?,hc]);clear hc o1 o2;by_cases hl:32≤acc.length
     ·have g4:(32:Int)≤(acc.length:Int):=(by omega);have g5':decide ((32:Int)≤(acc.length:Int))=true:=(by simpa using g4);go_wp2_with fail
      refine(gE 6 (by omega) _ M.out.1).mono ?_;rintro e WB ⟨rfl,⟨ecB,heB,rB⟩,kB⟩;have MB:=ae (M.out.kr rB kB);clear M rB kB y0 c1 c4 g4 g5' hq1 hq2;obtain⟨r0,_,s2,s3,bb,hord,_⟩:=MB.out;obtain⟨_,_,ea,_,_,_,_,y4,y5,_,_⟩:=r0.cells;have u0:WB.cell? ⟨w.heap.size,0,none⟩=some (.slice none 0 0):=(by simp [World.cell?,s2]);have u1:WB.cell? ⟨g3,0,none⟩=some (.int .i64 0):=(by simp [World.cell?,s3]);have u2:WB.cell? ⟨g3,1,none⟩=some (.int .i64 0):=(by simp [World.cell?,s3]);have v0:WB.frozen? ⟨w.heap.size,0,none⟩=false:=(by simp [World.frozen?,s2]);have v1:WB.frozen? ⟨g3,0,none⟩=false:=(by simp [World.frozen?,s3]);have v2:WB.frozen? ⟨g3,1,none⟩=false:=(by simp [World.frozen?,s3]);have hg23:g3≠w.heap.size:=(by omega);have hga2:a≠w.heap.size:=(by omega);have hga3:a≠g3:=(by omega);have k1:(ecB == 0)=false:=(by simpa using heB);have k2:(ecB != 0)=true:=(by simpa using heB);have BBf:=ae ((((bb.setCell (p:=⟨w.heap.size,0,none⟩) (Nat.le_refl _) (.slice none 0 0)).setCell (p:=⟨g3,0,none⟩) (by show _≤g3;omega) (.int .i64 ecB)).setCell (p:=⟨g3,1,none⟩) (by show _≤g3;omega) (.int .i64 ea)).drew);clear r0 s2 s3 bb MB;go_wp2_with fail
      go_region
      all_goals
       go_wp2_with fail
       exact bodyPost_ret (v:= .tuple #[.agg #[.slice none 0 0],.agg #[.int .i64 ecB,.int .i64 ea]]) (by simp [results,Tryz.results20,go_sem,u0,u1,u2]) rfl ⟨⟨none,0,0,ecB,ea,rfl,fun e=>absurd e heB⟩,BBf.out⟩
     ·have g4:¬(32:Int)≤(acc.length:Int):=(by omega);have g5':decide ((32:Int)≤(acc.length:Int))=false:=(by simpa using g4);have MM:=M;go_wp2_with fail
      refine(Bk _ M.out.1 hq).mono ?_;rintro e w9 ⟨v9,x,q9,m9,ec9,rfl,⟨vp,vb,rfl,V9a,V9⟩,gx,r9,k9,hqa,hqb⟩;obtain⟨aoA,mA,cA,rfl⟩:=aN V9a;obtain⟨aoT,mT,cT,rfl⟩:=aN V9.choose_spec.1;have b9:=ah w9 (.cells (aA x (.slice aoA mA cA) (.slice aoT mT cT)).toArray 36);have M9:=ae ((M.out.kr r9 k9).below b9);have GX:=ae gx;have SB:jS wr.heap.size (a+1) w9 (w9.alloc (.cells (aA x (.slice aoA mA cA) (.slice aoT mT cT)).toArray 36)):=(lz (show a+1≤wr.heap.size by omega)).trans (gh b9);have V9a:=ae (SB _ _ _ _ _ (by simp) V9a);have V9:=ae (V9.stay SB);have yy:∀i u,(aA x (.slice aoA mA cA) (.slice aoT mT cT))[i]? =some u→(w9.alloc (.cells (aA x (.slice aoA mA cA) (.slice aoT mT cT)).toArray 36)).cell? ⟨w9.heap.size,i,none⟩=some u:=fun i u hu=>by
       have:=lP (w:=w9) (x:=x) (vp:= .slice aoA mA cA) (vb:= .slice aoT mT cT) i u hu;rw [Addr.add_lit,Nat.zero_add] at this;exact this
      have p0:=yy 0 _ rfl;have p1:=yy 1 _ rfl;have p2:=yy 2 _ rfl;have p3:=yy 3 _ rfl;have p4:=yy 4 _ rfl;clear yy SB r9 k9 b9 M y0 c1 c4 g4 g5' hq1 hq2 gx;unfold aA;go_upto_region 10 with fail
      show Code.wp _ _ _ _ (w9.alloc (.cells (aA x (.slice aoA mA cA) (.slice aoT mT cT)).toArray 36));generalize w9.alloc (.cells (aA x (.slice aoA mA cA) (.slice aoT mT cT)).toArray 36)=W9 at *;have hlt9:=M9.out.lt;obtain⟨v,hc,cs,o1,o2⟩:=M9.out.2.1;obtain⟨aoV,cpV,rfl⟩:=aL o1;have y0:W9.cell? ⟨c,0,none⟩=some (.slice aoV acc.length cpV):=(by simp [World.cell?,hc]);have z0:W9.frozen? ⟨c,0,none⟩=false:=(by simp [World.frozen?,hc]);have hne:(Value.slice aoV acc.length cpV).ownBlock≠some c:=aU o1 hc (by decide);obtain⟨y0a,z0a⟩:=Cel.below (ah W9 (.cells (aA x (.slice aoA mA cA) (.slice aoT mT cT)).toArray 36)) hlt9.2.2.2.2 y0 z0;have O1:=ae (o1.alloc (.cells (aA x (.slice aoA mA cA) (.slice aoT mT cT)).toArray 36));have hc:=ae hc;have o2:=ae o2;clear o1;have t2:acc.length+1≤maxLen:=(by unfold maxLen;omega);have t3:(acc.length+1) * 80≤140737488355328:=(by omega);have t4:a+1≤(W9.alloc (.cells (aA x (.slice aoA mA cA) (.slice aoT mT cT)).toArray 36)).heap.size:=(by simp;omega);have t5:c < (W9.alloc (.cells (aA x (.slice aoA mA cA) (.slice aoT mT cT)).toArray 36)).heap.size:=(by simp;omega);go_wp2_with (at_builtin;refine wpList_append_lies _ rfl (.tmp 49) (.tmp 51) 22 rfl (a+1) 36 i0 _ 5 80 Tryz.underlying22 hi0 hz0 hz1 hz2 rfl (by decide) _ _ _ rfl O1.out ⟨W9.heap.size,0,none⟩ 1 1 (aA x (.slice aoA mA cA) (.slice aoT mT cT)) rfl rfl lP uE (by decide) t2 t3 t4 (W9.heap.size+1) (by simp) ?_;intro gg cap w10 hown hgrow hat hlt10;obtain⟨y0b,z0b⟩:=Cel.grown hgrow t5 hne y0a z0a)
      have M10:Hid (qm w a c w.heap.size g3 L s.size q9 m9 ec9 (acc ++ [x]) (w10.setCell ⟨c,0,none⟩ (.slice (some ⟨gg,0,none⟩) (acc.length+1) cap))):=ae (by
       obtain⟨h1,_,h3,h4,h5,h6,h7⟩:=M9.out;have bx:=ah W9 (.cells (aA x (.slice aoA mA cA) (.slice aoT mT cT)).toArray 36);have hrow:∀q,(Value.slice aoV acc.length cpV).ownBlock=some q→a+1≤q:=fun q hq=>(O1.out.lt q hq).1;have hc9:=(bx.block c (by omega)).trans hc.out;have hc10:=(hgrow.block c t5 (fun e=>hne e.symm)).trans hc9;have F10:=(Far.refl c w10).set 0 (.slice (some ⟨gg,0,none⟩) (acc.length+1) cap);have Sg:=o8 (B:=a+1) hgrow O1.out (by decide);have Sf:=eF (B:=a+1) F10 hc10 (by decide);have Sa:=(gh (B:=a+1) bx).trans (Sg.trans Sf);have blk:∀k,k < a→(w10.setCell ⟨c,0,none⟩ (.slice (some ⟨gg,0,none⟩) (acc.length+1) cap)).heap[k]? =W9.heap[k]? :=fun k hk=>(F10.2.2.2.2 k (by omega)).trans ((hgrow.block k (show k < (W9.alloc (.cells (aA x (.slice aoA mA cA) (.slice aoT mT cT)).toArray 36)).heap.size by have:=bx.size;omega) (fun e=>by have:=hrow k e.symm;omega)).trans (bx.block k (by omega)));have hsz:W9.heap.size≤(w10.setCell ⟨c,0,none⟩ (.slice (some ⟨gg,0,none⟩) (acc.length+1) cap)).heap.size:=(by rw [F10.2.2.2.1];exact Nat.le_trans bx.size hgrow.size);refine⟨?_,⟨_,(heap_setCell_same w10 c 0 _ 24 _ hc10).trans rfl,cs ++ aA x (.slice aoA mA cA) (.slice aoT mT cT),by rw [List.length_append];exact F10.own hown (aU hown hc10 (by decide)),jX.snoc (Sa _ _ _ _ _ (by simp) V9a.out) (V9.out.stay Sa) _ _ (jX.stay Sa _ _ o2.out)⟩,(blk _ (by omega)).trans h3,(blk _ (by omega)).trans h4,?_,h6,fun f hf=>(List.mem_append.1 hf).elim (h7 f) (fun e=>by rw [List.mem_singleton.1 e];exact GX.out)⟩
       ·exact((h1.below bx).grown hgrow O1.out (by decide) (Nat.lt_succ_self a)).set hc10 (by decide) (by omega) 0 _
       ·exact⟨F10.1.trans (hgrow.os.trans (bx.os.trans h5.os)),F10.2.1.trans (hgrow.tape.trans (bx.tape.trans h5.tape)),F10.2.2.1.trans (hgrow.output.trans (bx.output.trans h5.output)),Nat.le_trans h5.size hsz,fun k hk=>(blk k (by omega)).trans (h5.block k hk)⟩)
      have hms:=ae (mi MM.out.1 M10.out.1 hqb);go_roundw
      case rel=>exact⟨q9,m9,ec9,acc ++ [x],M10,by simp;omega⟩
      case measure=>exact hms.out
    ·have hq1:¬(q:Int) < (L.length:Int):=(by omega);have hq2:decide ((q:Int) < (L.length:Int))=false:=(by simpa using hq1);obtain⟨_,⟨v,hc,cs,o1,o2⟩,s2,s3,bb,_,HG⟩:=M.out;obtain⟨aoV,cpV,rfl⟩:=aL o1;have y0:wr.cell? ⟨c,0,none⟩=some (.slice aoV acc.length cpV):=(by simp [World.cell?,hc]);have u0:wr.cell? ⟨w.heap.size,0,none⟩=some (.slice none 0 0):=(by simp [World.cell?,s2]);have u1:wr.cell? ⟨g3,0,none⟩=some (.int .i64 0):=(by simp [World.cell?,s3]);have u2:wr.cell? ⟨g3,1,none⟩=some (.int .i64 0):=(by simp [World.cell?,s3]);have v0:wr.frozen? ⟨w.heap.size,0,none⟩=false:=(by simp [World.frozen?,s2]);have v1:wr.frozen? ⟨g3,0,none⟩=false:=(by simp [World.frozen?,s3]);have v2:wr.frozen? ⟨g3,1,none⟩=false:=(by simp [World.frozen?,s3]);have hg23:g3≠w.heap.size:=(by omega);have F1:=(Far.refl w.heap.size wr).set 0 (.slice aoV acc.length cpV);have hs3:=(F1.2.2.2.2 g3 hg23).trans s3;have F2:=(((Far.refl g3 (wr.setCell ⟨w.heap.size,0,none⟩ (.slice aoV acc.length cpV))).set 0 (.int .i64 0)).set 1 (.int .i64 0));have PV:=ae (show iM w.heap.size acc (.slice aoV acc.length cpV) (((wr.setCell ⟨w.heap.size,0,none⟩ (.slice aoV acc.length cpV)).setCell ⟨g3,0,none⟩ (.int .i64 0)).setCell ⟨g3,1,none⟩ (.int .i64 0)) from
      ⟨cs,aT (F2.own (F1.own o1 (aU o1 s2 (by decide))) (aU (F1.own o1 (aU o1 s2 (by decide))) hs3 (by decide))) (by omega),jX.stay (((eF F1 s2 (by decide)).trans (eF F2 hs3 (by decide))).trans (lz (by omega))) _ _ o2⟩)
     have BBf:=ae ((((bb.setCell (p:=⟨w.heap.size,0,none⟩) (Nat.le_refl _) (.slice aoV acc.length cpV)).setCell (p:=⟨g3,0,none⟩) (by show _≤g3;omega) (.int .i64 0)).setCell (p:=⟨g3,1,none⟩) (by show _≤g3;omega) (.int .i64 0)));have HG:=ae HG;clear hc o1 o2 s2 s3 bb F1 F2 hs3 M;go_wp2_with fail
     exact bodyPost_ret (v:= .tuple #[.agg #[.slice aoV acc.length cpV],.agg #[.int .i64 0,.int .i64 0]]) (by simp [results,Tryz.results20,go_sem,u0,u1,u2]) rfl ⟨⟨aoV,acc.length,cpV,0,0,rfl,fun _=>⟨acc,PV.out,HG.out,h32⟩⟩,BBf.out⟩
   ·have k3:(ec == 0)=false:=(by simpa using he);have heB:=he;have MB:=M;clear M c1;generalize ec=ecB at *;generalize wr=WB at *;obtain⟨r0,_,s2,s3,bb,hord,_⟩:=MB.out;obtain⟨_,_,ea,_,_,_,_,y4,y5,_,_⟩:=r0.cells;have u0:WB.cell? ⟨w.heap.size,0,none⟩=some (.slice none 0 0):=(by simp [World.cell?,s2]);have u1:WB.cell? ⟨g3,0,none⟩=some (.int .i64 0):=(by simp [World.cell?,s3]);have u2:WB.cell? ⟨g3,1,none⟩=some (.int .i64 0):=(by simp [World.cell?,s3]);have v0:WB.frozen? ⟨w.heap.size,0,none⟩=false:=(by simp [World.frozen?,s2]);have v1:WB.frozen? ⟨g3,0,none⟩=false:=(by simp [World.frozen?,s3]);have v2:WB.frozen? ⟨g3,1,none⟩=false:=(by simp [World.frozen?,s3]);have hg23:g3≠w.heap.size:=(by omega);have hga2:a≠w.heap.size:=(by omega);have hga3:a≠g3:=(by omega);have k1:(ecB == 0)=false:=(by simpa using heB);have k2:(ecB != 0)=true:=(by simpa using heB);have BBf:=ae ((((bb.setCell (p:=⟨w.heap.size,0,none⟩) (Nat.le_refl _) (.slice none 0 0)).setCell (p:=⟨g3,0,none⟩) (by show _≤g3;omega) (.int .i64 ecB)).setCell (p:=⟨g3,1,none⟩) (by show _≤g3;omega) (.int .i64 ea)).drew);clear r0 s2 s3 bb MB;go_wp2_with fail
    go_region
    all_goals
     go_wp2_with fail
     exact bodyPost_ret (v:= .tuple #[.agg #[.slice none 0 0],.agg #[.int .i64 ecB,.int .i64 ea]]) (by simp [results,Tryz.results20,go_sem,u0,u1,u2]) rfl ⟨⟨none,0,0,ecB,ea,rfl,fun e=>absurd e heB⟩,BBf.out⟩
open G (Tok Er Ins Fun)
theorem mH {α:Type} {g h:Nat→Option α} {n:Nat} (e:∀j,j < n→g j=h j):bw g n=bw h n:=by
 cases h1:bw g n with
 |none=>exact(bh (fun j hj=>(e j hj).symm.trans (fe h1 j hj))).symm
 |some a=>
  obtain⟨K,k1,k2,k3⟩:=da h1;exact(bN (fun j hj=>(e j (by omega)).symm.trans (k3 j hj)) k1 ((e K k1).symm.trans k2)).symm
def NL (f:Fun):Prop:=∀k,k < f.2.2.2.1.length→∀n,n < (aG f k).length→du (au f k n)=false
theorem xr {c p:Int} {e:Int × Int} (h:atC c p=some e):e=(c,p)∧c≠0:=by
 unfold atC at h;by_cases hc:c≠0
 ·rw [if_pos hc] at h;exact⟨(Option.some.inj h).symm,hc⟩
 ·rw [if_neg hc] at h;cases h
theorem Fi {c p:Int} (h:atC c p=none):c=0:=by
 unfold atC at h;by_cases hc:c≠0
 ·rw [if_pos hc] at h;cases h
 ·exact Classical.byContradiction hc
theorem EB {f:Fun} {k i:Nat} (h:cR f k i true=0):cR f k i false=0:=by
 unfold cR at *;split at h
 ·cases h
 ·rename_i h1;split at h
  ·cases h
  ·rename_i h2;rw [if_neg h1,if_neg h2];simp
theorem DD {f:Fun} {k i:Nat} (h:du (au f k i)=false):cR f k i true=cR f k i false:=by
 unfold cR;rw [h];simp
theorem wQ {f:Fun} (h:dZ f true=none):dZ f false=none:=
 bh fun k hk=>bh fun i hi=>by
  have:=EB (Fi (fe (fe h k hk) i hi));unfold atC;rw [this];simp
theorem xf {f:Fun} (h:NL f):dZ f true=dZ f false:=
 mH fun k hk=>mH fun i hi=>by rw [DD (h k hk i hi)]
theorem rL {f:Fun} {src:Bool} {e:Int × Int} (h:dZ f src=some e):e.1≠0∧∃k i,k < f.2.2.2.1.length∧i < (aG f k).length∧e.2=(au f k i).2.2.2.2.2.2.2:=by
 obtain⟨k,hk,h1,_⟩:=da h;obtain⟨i,hi,h2,_⟩:=da h1;obtain⟨rfl,h3⟩:=xr h2;exact⟨h3,k,i,hk,hi,rfl⟩
theorem Ei {p:List Fun} {f:Fun} {e:Int × Int} (h:iZ p f=some e):∃k i,k < f.2.2.2.1.length∧i < (aG f k).length∧e.2=(au f k i).2.2.2.2.2.2.2:=by
 obtain⟨k,hk,h1,_⟩:=da h;obtain⟨i,hi,h2,_⟩:=da h1;obtain⟨rfl,_⟩:=xr h2;exact⟨k,i,hk,hi,rfl⟩
theorem BV {p:List Fun} {f:Fun} (h:(dH p f true).1=0):(dH p f false).1=0:=by
 unfold dH at *;split at h
 ·rename_i h1;exact absurd h h1
 ·rename_i h1;rw [if_neg h1];split at h
  ·cases h
  ·rename_i h2;rw [if_neg h2]
   cases hv:dZ f true with
   |some e=>rw [hv] at h;exact absurd h (rL hv).1
   |none=>rw [hv] at h;rw [wQ hv];exact h
theorem C7 {p:List Fun} {f:Fun} (h:NL f):dH p f true=dH p f false:=by
 unfold dH;rw [xf h]
theorem yU {p:List Fun} (h:(bj p true).1=0):(bj p false).1=0:=by
 unfold bj at *;split at h
 ·rename_i h1;exact absurd h h1
 ·rename_i h1;rw [if_neg h1];split at h
  ·rename_i h2;exact absurd h h2
  ·rename_i h2;rw [if_neg h2]
   cases hf:bw (eG p true) p.length with
   |some e=>
    rw [hf] at h;obtain⟨i,_,h3,_⟩:=da hf;unfold eG at h3;split at h3
    ·rename_i h4;rw [Option.some.inj h3] at h4;exact absurd h h4
    ·cases h3
   |none=>
    rw [bh (fun i hi=>by
     have:=fe hf i hi;unfold eG at this ⊢;split at this
     ·cases this
     ·rename_i h4;rw [if_neg (by simpa using BV (by simpa using h4))])]
    rfl
theorem zF {p:List Fun} (h:∀i,i < p.length→NL (aF p i)):bj p true=bj p false:=by
 unfold bj;rw [mH (h:=eG p false) (fun i hi=>by unfold eG;rw [C7 (h i hi)])]
theorem Ak {p:List Fun} {i:Nat} (h:i < p.length):aF p i∈p:=List.mem_of_getElem? (eQ h)
theorem GC {E:Int} {f:Fun} (hf:GF E f) {k i:Nat} (hk:k < f.2.2.2.1.length) (hi:i < (aG f k).length):GI E (au f k i):=hf.2.2.2.1 _ (List.mem_of_getElem? (eS hk)) _ (List.mem_of_getElem? (gR hi))
theorem Cg {E:Int} {p:List Fun} (hE:0≤E) (hp:∀f∈p,GF E f) (src:Bool):0≤(bj p src).2∧(bj p src).2≤E:=by
 have hfun:∀i,i < p.length→0≤(aF p i).2.2.2.2∧(aF p i).2.2.2.2≤E:=fun i hi=>(hp _ (Ak hi)).2.2.2.2;have hins:∀i,i < p.length→∀k j,k < (aF p i).2.2.2.1.length→j < (aG (aF p i) k).length→0≤(au (aF p i) k j).2.2.2.2.2.2.2∧(au (aF p i) k j).2.2.2.2.2.2.2≤E:=fun i hi k j hk hj=>(GC (hp _ (Ak hi)) hk hj).2.2.2.2.2.2.2;unfold bj;split
 ·rename_i h1;obtain⟨j,h2,_,h3⟩:=pY p 0 0 h1;rw [h2];exact hfun _ (by simpa using h3)
 ·split
  ·unfold namesF
   cases hd:ur p with
   |some e=>
    obtain⟨i,hi,h1,_⟩:=da hd;obtain⟨k,_,h2,_⟩:=da h1;split at h2
    ·rw [←Option.some.inj h2];exact hfun i hi
    ·cases h2
   |none=>
    cases hm:findF p dP with
    |none=>exact⟨Int.le_refl 0,hE⟩
    |some m=>
     obtain⟨i,hi,h1,_⟩:=da hm;show 0≤(if az m.2.1 2=true then((13:Int),m.2.2.2.2)else(0,0)).2∧(if az m.2.1 2=true then((13:Int),m.2.2.2.2)else(0,0)).2≤E;split at h1
     ·obtain rfl:=Option.some.inj h1;split
      ·exact hfun i hi
      ·exact⟨Int.le_refl 0,hE⟩
     ·cases h1
  ·cases hf:bw (eG p src) p.length with
   |none=>exact⟨Int.le_refl 0,hE⟩
   |some e=>
    obtain⟨i,hi,h3,_⟩:=da hf;unfold eG at h3;split at h3
    ·obtain rfl:=Option.some.inj h3;show 0≤(dH p (aF p i) src).2∧(dH p (aF p i) src).2≤E;unfold dH;split
     ·exact hfun i hi
     ·split
      ·exact hfun i hi
      ·cases hv:dZ (aF p i) src with
       |some e=>
        obtain⟨_,k,j,hk,hj,h5⟩:=rL hv;show 0≤e.2∧e.2≤E;rw [h5];exact hins i hi k j hk hj
       |none=>
        cases hl:iZ p (aF p i)with
        |none=>exact⟨Int.le_refl 0,hE⟩
        |some e=>
         obtain⟨k,j,hk,hj,h5⟩:=Ei hl;show 0≤e.2∧e.2≤E;rw [h5];exact hins i hi k j hk hj
    ·cases h3
end Go.Proofs.YtljkgcfnoegibaaGreatDoor
