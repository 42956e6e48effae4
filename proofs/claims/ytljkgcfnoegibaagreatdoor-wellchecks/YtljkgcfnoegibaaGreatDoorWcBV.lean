/- Texts of one chain, joined. -/
import Derived.Test.YtljkgcfnoegibaaGreatDoorWcAI
import Derived.Test.YtljkgcfnoegibaaGreatDoorWcAM
import Derived.Test.YtljkgcfnoegibaaGreatDoorWcAY
import Derived.Test.YtljkgcfnoegibaaGreatDoorWcBU
import Derived.ChangeKeysEq
set_option maxHeartbeats 4000000
set_option maxRecDepth 20000
namespace Go.Proofs.YtljkgcfnoegibaaGreatDoor
open Go Go.RowKit Go.Maps
open G (Tok Er Ins Fun)
def mkL (l:List Ins):List Ins:=l.filter fun x=>decide (mkX x≠0)
theorem mkL_le (l:List Ins):(mkL l).length≤l.length:=List.length_filter_le _ _
theorem mkL_no {l:List Ins} {x:Ins} (h:mkX x=0):(mkL (l ++ [x])).length=(mkL l).length:=by
 unfold mkL
 rw [List.filter_append]
 simp [h]
theorem mkL_yes {l:List Ins} {x:Ins} (h:mkX x≠0):(mkL (l ++ [x])).length=(mkL l).length+1:=by
 unfold mkL
 rw [List.filter_append]
 simp [h]
theorem types12_any (f:Fun) (v:Value) (w:World) (hv:FunV w f v) (hT:L5.Tab w) (hM:Mod f) (hKey:KeyF f):
  Calls Tryz.prog 15 #[v] w fun e w'=>∃b,e= .returned (.map (some b))∧w.heap.size≤b∧IMap w' b (f.2.1.length+(mkL (bigL f f.2.2.2.1.length 0)).length) (fun a=>tyL f a (bigL f f.2.2.2.1.length 0))∧Below w.heap.size w w':=by
 obtain⟨lp,cp,lb,cb,rfl,X,b0⟩:=fun_box hv
 have X0:=hide X
 have B0:=hide b0
 have HPs:Hid (Sl w lp f.2.1):=hide (by
  obtain⟨vp,vb,e,⟨ao',c',e2,hs,_⟩,_⟩:=hv
  simp only [Value.agg.injEq,Array.mk.injEq,List.cons.injEq] at e
  obtain⟨_,e3,_⟩:=e
  rw [e2] at e3
  injection e3 with e3
  subst e3
  exact hs)
 have HRd:Hid (∀k,k < f.2.2.2.1.length→∃g o ao ac,lb=some ⟨g,o,none⟩∧(∀w',Below w.heap.size w w'→w'.cell? ⟨g,o+k,none⟩=some (.slice ao (blkN f k).length ac))∧∀w',Below w.heap.size w w'→∀i,i < (blkN f k).length→∃g2 o2,ao=some ⟨g2,o2,none⟩∧InsR w' (insN f k i) g2 (o2+i * 8)):=hide (fun k hk=>by
  obtain⟨g,o,ao,ac,h1,h2,h3,h4⟩:=blks_row (fun_blks hv) hk
  exact⟨g,o,ao,ac,h1,fun w' b=>(b.cell (p:=⟨g,o+k,none⟩) h2).trans h3,fun w' b i hi=>blk_ins (h4.below b) hi⟩)
 have HTb:=hide (fun w' (b:Below w.heap.size w w')=>hT.below b)
 have HMb:=hide (fun k=>hM.blk k)
 have HKx:Hid (∀k i,k < f.2.2.2.1.length→i < (blkN f k).length→mkX (insN f k i)≠0→Wf6 (insN f k i).2.1∧Wf6 (mkX (insN f k i))):=hide (fun k i hk hi h0=>by
  have hb:blkN f k∈f.2.2.2.1:=List.mem_of_getElem? (blkN_at hk)
  have hx:insN f k i∈blkN f k:=List.mem_of_getElem? (insN_at hi)
  have:=hKey.2.1 _ hb _ hx h0
  exact⟨wf_of this.1,wf_of this.2⟩)
 have HKp:Hid (∀j,j < f.2.1.length→Wf6 (f.2.1.getD j 0)):=hide (fun j hj=>wf_of (hKey.1 _ (by
  rw [List.getD_eq_getElem?_getD,List.getElem?_eq_getElem hj];exact List.getElem_mem hj)))
 have HLe:Hid (∀K I,K < f.2.2.2.1.length→I≤(blkN f K).length→f.2.1.length+(bigL f K I).length≤1000000):=hide (fun K I hK hI=>by
  have:=bigL_le hK hI
  have:=hKey.2.2
  omega)
 have hPl:f.2.1.length≤1000000:=by have:=hKey.2.2;omega
 have hN:=hM.1
 clear hv X b0 hT hM hKey
 generalize hnm:bs f.1=nm at *
 obtain⟨lps,hlps⟩:∃n,f.2.1.length=n:=⟨_,rfl⟩
 obtain⟨lbs,hlbs⟩:∃n,f.2.2.2.1.length=n:=⟨_,rfl⟩
 rw [hlps,hlbs] at X0 B0 ⊢
 rw [hlps] at HKp hPl HLe
 rw [hlbs] at HRd HKx HLe hN
 generalize f.2.2.1=rt at *
 generalize f.2.2.2.2=pl at *
 clear hnm
 replace hlps:=hide hlps
 replace hlbs:=hide hlbs
 have b1:=below_box (w.alloc (.cells #[.string nm,.slice lp lps cp,.int .i64 rt,.slice lb lbs cb,.int .i64 pl] 36)) (.map #[] 0)
 have HM1:Hid (IMap ((w.alloc (.cells #[.string nm,.slice lp lps cp,.int .i64 rt,.slice lb lbs cb,.int .i64 pl] 36)).alloc (.map #[] 0)) (w.alloc (.cells #[.string nm,.slice lp lps cp,.int .i64 rt,.slice lb lbs cb,.int .i64 pl] 36)).heap.size 0 (parM f.2.1 0)):=hide ((NMap.made _ _).congr fun a=>by
  unfold parM
  rw [if_neg (by omega)]
  rfl)
 have X1:=hide (X0.out.below b1)
 have B1:=hide (below_step B0.out b1)
 have hmm:= @run_makeMap Tryz.prog
 have hs1:(w.alloc (.cells #[.string nm,.slice lp lps cp,.int .i64 rt,.slice lb lbs cb,.int .i64 pl] 36)).heap.size=w.heap.size+1:=by simp
 rw [hs1] at HM1
 go_enter Tryz.func15,Tryz.ntmps15
 go_upto_region 2 with fail
 show Code.wp _ _ _ _ ((w.alloc (.cells #[.string nm,.slice lp lps cp,.int .i64 rt,.slice lb lbs cb,.int .i64 pl] 36)).alloc (.map #[] 0))
 generalize (w.alloc (.cells #[.string nm,.slice lp lps cp,.int .i64 rt,.slice lb lbs cb,.int .i64 pl] 36)).alloc (.map #[] 0)=W at *
 clear hmm hs1 b1 B0 X0
 obtain⟨x0,x1,x2,x3,x4⟩:_∧_∧_∧_∧_:=⟨X1.out.2 0 _ rfl,X1.out.2 1 _ rfl,X1.out.2 2 _ rfl,X1.out.2 3 _ rfl,X1.out.2 4 _ rfl⟩
 go_wp2_with fail
 clear x0 x1 x2 x3 x4
 go_loopw [15] (fun jv wr=>∃j:Nat,j≤lps∧jv= .int .i64 j∧Hid (IMap wr (w.heap.size+1) j (parM f.2.1 j))∧Hid (Below w.heap.size w wr)∧Hid (L5.Box wr w.heap.size [.string nm,.slice lp lps cp,.int .i64 rt,.slice lb lbs cb,.int .i64 pl])) (fun jv _=>lps - (intOf jv).toNat)
 case atStart=>exact⟨0,Nat.zero_le _,rfl,HM1,B1,X1⟩
 case round=>
  clear HM1 B1 X1
  obtain⟨j,hj,rfl,HM,HB,HX⟩:=hrel
  by_cases hjt:j < lps
  ·have hjI:(j:Int) < lps:=by omega
   obtain⟨g,o,rfl,hg,hc⟩:=sl_at HPs.out (n:=j) (by rw [hlps.out];exact hjt)
   have hc1:=(HB.out.cell (p:=⟨g,o+j,none⟩) hg).trans hc
   have HWt:=hide (HKp.out j hjt)
   have hWj:Wf6 (j:Int):=wf_of ⟨by omega,by omega⟩
   have HSt:=hide (parM_step f.2.1 j)
   obtain⟨tv,htv⟩:∃tv,f.2.1.getD j 0=tv:=⟨_,rfl⟩
   simp only [htv] at hc1 HWt HSt
   have hjm:j < maxLen:=by unfold maxLen;omega
   have HMap:=hide (NMap.isMap HM.out)
   clear hc htv
   go_wp2_with (first | (at_mapUpdate;refine wpList_iput _ rfl _ _ _ rfl (w.heap.size+1) j _ rfl HM.out hjm (j:Int) hWj tv HWt.out rfl rfl ?_;intro w1 own1 grow1) | fail)
   go_roundw
   case rel=>exact⟨j+1,by omega,by go_num,hide (IMap.congr own1 HSt.out),hide (HB.out.trans (grown_below grow1 HB.out.size (Nat.le_succ _))),hide ⟨Nat.lt_of_lt_of_le HX.out.1 grow1.size,fun i v hi=>cell_but grow1 HMap.out (HX.out.2 i v hi)⟩⟩
   case measure=>simp [intOf];omega
  ·obtain rfl:j=lps:=by omega
   obtain⟨x0,x1,x2,x3,x4⟩:_∧_∧_∧_∧_:=⟨HX.out.2 0 _ rfl,HX.out.2 1 _ rfl,HX.out.2 2 _ rfl,HX.out.2 3 _ rfl,HX.out.2 4 _ rfl⟩
   have HM2:Hid (IMap wr (w.heap.size+1) (j+(mkL (bigL f 0 0)).length) (fun a=>tyL f a (bigL f 0 0))):=hide (IMap.congr (IMap.mono HM.out (Nat.le_add_right _ _)) fun a=>by rw [←parM_all,hlps.out])
   go_wp2_with fail
   clear x0 x1 x2 x3 x4
   go_loopw [27] (fun kv wr2=>∃K:Nat,K≤lbs∧kv= .int .i64 K∧Hid (IMap wr2 (w.heap.size+1) (j+(mkL (bigL f K 0)).length) (fun a=>tyL f a (bigL f K 0)))∧Hid (Below w.heap.size w wr2)) (fun kv _=>lbs - (intOf kv).toNat)
   case atStart=>exact⟨0,Nat.zero_le _,rfl,HM2,HB⟩
   case round=>
    clear HM2 HM HB HX
    obtain⟨K,hK,rfl,HM,HB⟩:=hrel
    by_cases hkt:K < lbs
    ·have hkI:(K:Int) < lbs:=by omega
     obtain⟨g,o,ao,ac,rfl,cu,hins⟩:=HRd.out K hkt
     replace cu:=cu wr HB.out
     replace hins:=hide hins
     have hlb:=HMb.out K
     obtain⟨bl,hble⟩:∃bl,(blkN f K).length=bl:=⟨_,rfl⟩
     rw [hble] at cu hlb
     replace hble:=hide hble
     go_wp2_with fail
     clear cu
     go_loopw [33] (fun iv wr3=>∃I:Nat,I≤bl∧iv= .int .i64 I∧Hid (IMap wr3 (w.heap.size+1) (j+(mkL (bigL f K I)).length) (fun a=>tyL f a (bigL f K I)))∧Hid (Below w.heap.size w wr3)) (fun iv _=>bl - (intOf iv).toNat)
     case atStart=>exact⟨0,Nat.zero_le _,rfl,HM,HB⟩
     case round=>
      clear HM HB
      obtain⟨I,hI,rfl,HM,HB⟩:=hrel
      by_cases hit:I < bl
      ·have hiI:(I:Int) < bl:=by omega
       have hiB:I < (blkN f K).length:=by rw [hble.out];exact hit
       obtain⟨g2,o2,e2,hxr⟩:=hins.out wr HB.out I hiB
       subst e2
       obtain⟨xo,zo,xc,zc,hxv,e0,e1,e2,e3,e4,e5,e6,e7⟩:=hxr.val
       have HKy:=hide (HKx.out K I hkt hiB)
       have HBg:=hide (bigL_step hiB)
       have HLl:=hide (HLe.out K I hkt (Nat.le_of_lt hiB))
       obtain⟨x,hx⟩:∃x,insN f K I=x:=⟨_,rfl⟩
       rw [hx] at e0 e1 e2 e3 e4 e5 e6 e7 HKy HBg
       clear hx hxv hxr
       have HMx:Hid (mkX x=L5.imakes x.1 x.2.2.2.1):=hide rfl
       generalize x.2.2.2.2.1.length=xl at *
       generalize x.2.2.2.2.2.1.length=zl at *
       have b3:=below_box wr (.cells #[.int .i64 x.1,.int .i64 x.2.1,.int .i64 x.2.2.1,.int .i64 x.2.2.2.1,.slice xo xl xc,.slice zo zl zc,.string (bs x.2.2.2.2.2.2.1),.int .i64 x.2.2.2.2.2.2.2] 47)
       have Y3:=hide (heap_alloc_new wr (.cells #[.int .i64 x.1,.int .i64 x.2.1,.int .i64 x.2.2.1,.int .i64 x.2.2.2.1,.slice xo xl xc,.slice zo zl zc,.string (bs x.2.2.2.2.2.2.1),.int .i64 x.2.2.2.2.2.2.2] 47))
       have HM3:=hide (IMap.below HM.out b3)
       have HB3:=hide (below_step HB.out b3)
       clear b3
       go_upto_region 13 with fail
       show Code.wp _ _ _ _ (wr.alloc (.cells #[.int .i64 x.1,.int .i64 x.2.1,.int .i64 x.2.2.1,.int .i64 x.2.2.2.1,.slice xo xl xc,.slice zo zl zc,.string (bs x.2.2.2.2.2.2.1),.int .i64 x.2.2.2.2.2.2.2] 47))
       generalize wr.alloc (.cells #[.int .i64 x.1,.int .i64 x.2.1,.int .i64 x.2.2.1,.int .i64 x.2.2.2.1,.slice xo xl xc,.slice zo zl zc,.string (bs x.2.2.2.2.2.2.1),.int .i64 x.2.2.2.2.2.2.2] 47)=w3 at *
       generalize wr.heap.size=q3 at *
       clear e0 e1 e2 e3 e4 e5 e6 e7
       obtain⟨⟨y0,y1,y2,y3,y4,y5,y6,y7⟩,_⟩:=ins_at Y3.out
       have HCm:=hide (L5.makes_any x.1 x.2.2.2.1 (.int .i64 x.2.1) (.int .i64 x.2.2.1) (.slice xo xl xc) (.slice zo zl zc) (.string (bs x.2.2.2.2.2.2.1)) (.int .i64 x.2.2.2.2.2.2.2) w3 (HTb.out w3 HB3.out))
       rw [←HMx.out] at HCm
       go_wp2_with fail
       refine HCm.out.mono ?_;rintro e w4 ⟨rfl,b4⟩
       have HM4:=hide (IMap.below HM3.out b4)
       have HB4:=hide (below_step HB3.out b4)
       have Y4:=hide ((b4.block _ (Array.getElem?_eq_some_iff.1 Y3.out).1).trans Y3.out)
       clear b4 y0 y1 y2 y3 y4 y5 y6 y7 HCm HM3 HB3 Y3
       obtain⟨⟨y0,y1,y2,y3,y4,y5,y6,y7⟩,_⟩:=ins_at Y4.out
       have HSn:=hide (fun a=>tyL_snoc f a (bigL f K I) x)
       have HHit:=hide (fun a=>hit_iff (id:=a) (x:=x))
       obtain⟨mt,hmt⟩:∃mt,mkX x=mt:=⟨_,rfl⟩
       have HMk:=hide hmt
       simp only [hmt] at HKy HSn HHit ⊢
       clear hmt HMx
       by_cases hm0:mt=0
       ·have HM5:Hid (IMap w4 (w.heap.size+1) (j+(mkL (bigL f K (I+1))).length) (fun a=>tyL f a (bigL f K (I+1)))):=hide (IMap.congr (IMap.mono HM4.out (by rw [HBg.out,mkL_no (by rw [HMk.out];exact hm0)];omega)) fun a=>by
         rw [HBg.out,HSn.out,if_neg (fun h=>((HHit.out a).1 h).2 hm0)])
        subst hm0
        go_wp2_with fail
        go_roundw
        case rel=>exact⟨I+1,by omega,by go_num,HM5,HB4⟩
        case measure=>simp [intOf];omega
       ·obtain⟨hk1,hk2⟩:=HKy.out hm0
        have hnm:j+(mkL (bigL f K I)).length < maxLen:=by have:=HLl.out;have:=mkL_le (bigL f K I);unfold maxLen;omega
        go_wp2_with (first | (at_mapUpdate;refine wpList_iput _ rfl _ _ _ rfl (w.heap.size+1) (j+(mkL (bigL f K I)).length) _ rfl HM4.out hnm x.2.1 hk1 mt hk2 rfl rfl ?_;intro w1 own1 grow1) | fail)
        go_roundw
        case rel=>
         refine⟨I+1,by omega,by go_num,hide (IMap.congr (IMap.mono own1 (by rw [HBg.out,mkL_yes (by rw [HMk.out];exact hm0)];omega)) fun a=> ?_),hide (HB4.out.trans (grown_below grow1 HB4.out.size (Nat.le_succ _)))⟩
         rw [HBg.out,HSn.out]
         by_cases e:a=x.2.1
         ·rw [if_pos e,if_pos ((HHit.out a).2 ⟨e.symm,hm0⟩)]
         ·rw [if_neg e,if_neg (fun h=>e ((HHit.out a).1 h).1.symm)]
        case measure=>simp [intOf];omega
      ·obtain rfl:I=bl:=by omega
       have HM5:Hid (IMap wr (w.heap.size+1) (j+(mkL (bigL f (K+1) 0)).length) (fun a=>tyL f a (bigL f (K+1) 0))):=hide (by
        rw [bigL_next (by rw [hlbs.out];exact hkt),hble.out]
        exact HM.out)
       go_wp2_with fail
       go_roundw
       case rel=>exact⟨K+1,by omega,by go_num,HM5,HB⟩
       case measure=>simp [intOf];omega
    ·obtain rfl:K=lbs:=by omega
     have HM5:=hide HM.out
     go_wp2_with fail
     go_ret
     exact⟨w.heap.size+1,rfl,Nat.le_succ _,HM5.out,HB.out⟩
def sTp:ByteArray:={data:= #[102,117,110,99,32,109,97,105,110,40,105,41,32,105,32,123,32,98,48,58,32,37,50,32,61,32,110,101,119,32,105,112,32,115,116,111,114,101,46,112,32,37,50,32,49,32,37,50,32,98,114,32,98,49,32,98,49,58,32,37,51,32,61,32,112,104,105,46,105,32,98,48,32,37,48,32,98,49,32,37,52,32,37,52,32,61,32,99,97,108,108,46,105,32,102,32,37,50,32,105,102,32,37,51,32,98,49,32,98,50,32,98,50,58,32,114,101,116,32,37,52,32,125,32,102,117,110,99,32,102,40,112,41,32,105,32,123,32,98,48,58,32,37,49,32,61,32,108,111,97,100,46,105,32,37,48,32,48,32,114,101,116,32,37,49,32,125]}
def sTq:ByteArray:={data:= #[102,117,110,99,32,109,97,105,110,40,41,32,110,32,123,32,98,48,58,32,111,117,116,32,37,49,32,37,49,32,61,32,99,111,110,115,116,32,50,32,114,101,116,32,125]}
def sTr:ByteArray:={data:= #[102,117,110,99,32,109,97,105,110,40,41,32,110,32,123,32,98,48,58,32,112,111,108,108,32,49,32,114,101,116,32,125]}
def fOne:Fun:=([102],[2],1,[[(11,1,0,0,[0],[],[],142),(28,-1,0,0,[1],[],[],159)]],124)
def pTp:List Fun:= [([109,97,105,110],[1],1,[[(10,2,0,0,[],[],[105,112],21),(14,-1,1,0,[2,2],[],[],33),(26,-1,0,0,[],[1],[],49)],[(20,3,0,1,[0,4],[0,1],[],59),(21,4,0,1,[2],[],[102],82),(27,-1,0,0,[3],[1,2],[],99)],[(28,-1,0,0,[4],[],[],115)]],0),fOne]
def pTq:List Fun:= [([109,97,105,110],[],0,[[(22,-1,0,0,[1],[],[],20),(1,1,2,0,[],[],[],27),(28,-1,0,0,[],[],[],40)]],0)]
def pTr:List Fun:= [([109,97,105,110],[],0,[[(23,-1,1,0,[],[],[],20),(28,-1,0,0,[],[],[],27)]],0)]
theorem sameT_eq {r q:Except Er (List Fun)} (h:same r q=true):r=q:=by
 unfold same at h
 split at h
 ·rename_i xs ys
  rw [@of_decide_eq_true _ (decD xs ys) h]
 ·rw [of_decide_eq_true h]
 ·exact absurd h (by simp)
theorem tp_is:textG sTp= .ok pTp:=sameT_eq (by decide +kernel)
theorem tq_is:textG sTq= .ok pTq:=sameT_eq (by decide +kernel)
theorem tr_is:textG sTr= .ok pTr:=sameT_eq (by decide +kernel)
theorem tp_read (w:World):Calls Tryz.prog 20 #[.string sTp] w fun e w'=>∃v,e= .returned (.tuple #[.agg #[v],.agg #[.int .i64 0,.int .i64 0]])∧ProgR w' pTp v∧Below w.heap.size w w':=
 (rtext_any sTp (by decide +kernel) (by decide +kernel) tp_is w).mono fun _ _ ⟨v,e,h,b⟩=>⟨v,e,prog_of h,b⟩
theorem tq_read (w:World):Calls Tryz.prog 20 #[.string sTq] w fun e w'=>∃v,e= .returned (.tuple #[.agg #[v],.agg #[.int .i64 0,.int .i64 0]])∧ProgR w' pTq v∧Below w.heap.size w w':=
 (rtext_any sTq (by decide +kernel) (by decide +kernel) tq_is w).mono fun _ _ ⟨v,e,h,b⟩=>⟨v,e,prog_of h,b⟩
theorem tr_read (w:World):Calls Tryz.prog 20 #[.string sTr] w fun e w'=>∃v,e= .returned (.tuple #[.agg #[v],.agg #[.int .i64 0,.int .i64 0]])∧ProgR w' pTr v∧Below w.heap.size w w':=
 (rtext_any sTr (by decide +kernel) (by decide +kernel) tr_is w).mono fun _ _ ⟨v,e,h,b⟩=>⟨v,e,prog_of h,b⟩
theorem tp_src:checkP pTp true=(0,0):=by decide +kernel
theorem tq_src:(checkP pTq true).1=10:=by decide +kernel
theorem tr_src:(checkP pTr true).1=2:=by decide +kernel
theorem tr_mad:checkP pTr false=(0,0):=by decide +kernel
theorem tn_src:(checkP [] true).1=12:=by decide +kernel
theorem tp_find:findF pTp [102]=some fOne:=by rfl
def smlB (p:List Fun):Bool:=decide (p.length≤100) && p.all fun f=>decide (f.1.length≤100) && decide (f.2.2.2.1.length≤100) && decide (f.2.1.length≤100) && f.2.2.2.1.all fun b=>decide (b.length≤100) && b.all fun x=>decide (x.2.2.2.2.1.length≤100) && decide (x.2.2.2.2.2.1.length≤100) && decide (x.2.2.2.2.2.2.1.length≤100) && decide (-100≤x.2.2.1) && decide (x.2.2.1≤100)
theorem sml_cnd {p:List Fun} (h:smlB p=true):Cnd p∧Siz p:=by
 unfold smlB at h
 simp only [Bool.and_eq_true,decide_eq_true_eq,List.all_eq_true] at h
 obtain⟨h1,h2⟩:=h
 have hS:Siz p:=fun f hf=>by
  obtain⟨⟨⟨q1,q2⟩,q3⟩,q4⟩:=h2 f hf
  refine⟨by omega,by omega,fun b hb=>⟨by have:=(q4 b hb).1;omega,fun x hx=> ?_⟩⟩
  obtain⟨⟨⟨⟨a1,a2⟩,a3⟩,a4⟩,a5⟩:=(q4 b hb).2 x hx
  exact⟨by omega,by omega⟩
 refine⟨cnd_of (by omega) (fun f hf=> ?_) hS,hS⟩
 obtain⟨⟨⟨q1,q2⟩,q3⟩,q4⟩:=h2 f hf
 refine⟨by unfold maxLen;omega,fun b hb x hx=> ?_⟩
 obtain⟨⟨⟨⟨a1,a2⟩,a3⟩,a4⟩,a5⟩:=(q4 b hb).2 x hx
 exact⟨⟨by omega,by omega⟩,by unfold maxLen;omega⟩
theorem tp_cnd:Cnd pTp∧Siz pTp:=sml_cnd (by decide +kernel)
theorem tq_cnd:Cnd pTq∧Siz pTq:=sml_cnd (by decide +kernel)
theorem tr_cnd:Cnd pTr∧Siz pTr:=sml_cnd (by decide +kernel)
theorem tn_cnd:Cnd []∧Siz []:=sml_cnd (by decide +kernel)
theorem tp_ap:∀f∈pTp,ApF f:=by
 have hc:=check_ok (show(checkP pTp true).1=0 by rw [tp_src])
 refine apF_of tp_cnd.2 (fun f hf=>⟨?_,(tp_cnd.1.2.2.2 hc.1 f hf).1⟩)
 obtain⟨i,hi⟩:=List.mem_iff_getElem?.1 hf
 have hl:=(List.getElem?_eq_some_iff.1 hi).1
 have:=func_ok (hc.2.2 i hl)
 rw [funN_of hi] at this
 exact this.1
theorem one_key:KeyF fOne∧Mod fOne:=by
 have hc:=check_ok (show(checkP pTp true).1=0 by rw [tp_src])
 have hm:fOne∈pTp:=by simp [pTp]
 exact⟨(tp_cnd.1.2.2.2 hc.1 fOne hm).2.1,(tp_cnd.1.2.2.1 fOne hm).1⟩
theorem one_t0:(tyL fOne 0 (bigL fOne 1 0)).getD 0=2:=by decide +kernel
theorem one_t1:(tyL fOne 1 (bigL fOne 1 0)).getD 0=1:=by decide +kernel
theorem one_n:fOne.2.1.length+(mkL (bigL fOne 1 0)).length=2:=by decide +kernel
theorem nmap_two {w:World} {R:Rdg} {b:Nat} {m:Int→Option (DataW Unit)} (h:NMap w R b 2 m) (h0:(m 0).isSome=true) (h1:(m 1).isSome=true):∃D,w.ownsMap Tryz.prog 3 R b 2 D∧Maps.size D=2:=by
 obtain⟨D,q1,q2⟩:=h
 refine⟨D,q1,?_⟩
 have hle:=q1.size_le
 have ht:=q1.tidy intKey
 have s0:=size_del (k:= .int .i64 0) ht
 rw [(q2 0 (wf_of ⟨by omega,by omega⟩)).1,h0] at s0
 have s1:=size_del (k:= .int .i64 1) (ht.del (.int .i64 0))
 rw [has_del_other (by intro e;injection e with _ e;omega),(q2 1 (wf_of ⟨by omega,by omega⟩)).1,h1] at s1
 simp at s0 s1
 omega
theorem imap_run {w:World} {b n:Nat} {ty:Int→Option Int} (hM:IMap w b n ty) (id:Int) (hI:Wf6 id) (t:Int) (hT:(ty id).getD 0=t):(Instr.lookup 40 (.map (some b)) (.int .i64 id) false).run Tryz.prog w= .ok (.int .i64 t) w:=by
 obtain⟨D,h1,h2⟩:=hM
 obtain⟨c,hr,hc,_⟩:=h1.lookup_int intKey Tryz.map40 Tryz.key3 (Tryz.zero3 w) (keyOf_int_mk Tryz.key3 hI)
 rw [(h2 id hI).2] at hc
 have e:(ty id).getD 0=c:=by
  cases h:ty id with
  |none=>simp [h] at hc;simpa using hc
  |some t=>simp [h] at hc;simpa using hc
 rw [hr,←e,hT]
theorem ilen_run {w:World} {b n N:Nat} (hM:∃D,w.ownsMap Tryz.prog 3 (plainElem (H:=Unit) Tryz.prog 3) b n D∧Maps.size D=N) (t:TypeId):(Builtin.len_ #[40] t #[.map (some b)]).run Tryz.prog w= .ok (.int .i64 (N:Int)) w:=by
 obtain⟨D,h1,h0⟩:=hM
 rw [h1.len Tryz.map40 t,h0]
theorem err_same (w:World):Sem.run Tryz.prog (binOp BinOp.eql 29 (.agg #[.int .i64 0,.int .i64 0]) (.agg #[.int .i64 0,.int .i64 0])) w= .ok (.bool true) w:=by kernel_rfl
theorem nil_prog (w:World):ProgR w [] (.slice none ([]:List Fun).length 0):=⟨none,0,rfl,by simp,by unfold maxLen;simp,.inl rfl⟩
theorem works11_any (w:World) (hT:Tb w):Calls Tryz.prog 8 #[] w fun e w'=>e= .returned (.bool true)∧Below w.heap.size w w':=by
 have hfl:∀(a b:Value) (w:World),(Instr.field 29 (.agg #[a,b]) 0).run Tryz.prog w= .ok a w:=fun _ _ _=>rfl
 have heq:=err_same
 have HT:=hide hT
 clear hT
 go_enter Tryz.func8,Tryz.ntmps8
 go_wp2_with fail
 refine(tp_read _).mono ?_;rintro e w1 ⟨v1,rfl,P1,b1⟩
 obtain⟨b2,d1,_⟩:=box2 w1 (.cells #[v1] 24) (.cells #[.int .i64 0,.int .i64 0] 29)
 obtain⟨ao,c,rfl,hc1,hc2,hc3⟩:=P1
 have P2:Hid (ProgR ((w1.alloc (.cells #[.slice ao pTp.length c] 24)).alloc (.cells #[.int .i64 0,.int .i64 0] 29)) pTp (.slice ao pTp.length c)):=hide (ProgR.below ⟨ao,c,rfl,hc1,hc2,hc3⟩ b2)
 have B2:=hide (below_step b1 b2)
 have D1:=hide d1
 clear b1 b2 d1 hc1 hc2 hc3
 obtain⟨n1,hn1⟩:∃n,pTp.length=n:=⟨_,rfl⟩
 rw [hn1] at P2 B2 D1 ⊢
 replace hn1:=hide hn1
 go_upto_region 2 with fail
 show Code.wp _ _ _ _ ((w1.alloc (.cells #[.slice ao n1 c] 24)).alloc (.cells #[.int .i64 0,.int .i64 0] 29))
 generalize (w1.alloc (.cells #[.slice ao n1 c] 24)).alloc (.cells #[.int .i64 0,.int .i64 0] 29)=W2 at *
 generalize w1.heap.size=q1 at *
 go_wp2_with fail
 refine(tq_read _).mono ?_;rintro e w3 ⟨v3,rfl,P3,b3⟩
 obtain⟨b4,d3,_⟩:=box2 w3 (.cells #[v3] 24) (.cells #[.int .i64 0,.int .i64 0] 29)
 obtain⟨ao3,c3,rfl,hc1,hc2,hc3⟩:=P3
 have P4:Hid (ProgR ((w3.alloc (.cells #[.slice ao3 pTq.length c3] 24)).alloc (.cells #[.int .i64 0,.int .i64 0] 29)) pTq (.slice ao3 pTq.length c3)):=hide (ProgR.below ⟨ao3,c3,rfl,hc1,hc2,hc3⟩ b4)
 have B34:=hide (below_step b3 b4)
 have D3:=hide d3
 clear b3 b4 d3 hc1 hc2 hc3
 obtain⟨n3,hn3⟩:∃n,pTq.length=n:=⟨_,rfl⟩
 rw [hn3] at P4 B34 D3 ⊢
 replace hn3:=hide hn3
 go_upto_region 3 with fail
 show Code.wp _ _ _ _ ((w3.alloc (.cells #[.slice ao3 n3 c3] 24)).alloc (.cells #[.int .i64 0,.int .i64 0] 29))
 generalize (w3.alloc (.cells #[.slice ao3 n3 c3] 24)).alloc (.cells #[.int .i64 0,.int .i64 0] 29)=W4 at *
 generalize w3.heap.size=q3 at *
 go_wp2_with fail
 refine(tr_read _).mono ?_;rintro e w5 ⟨v5,rfl,P5,b5⟩
 obtain⟨b6,d5,_⟩:=box2 w5 (.cells #[v5] 24) (.cells #[.int .i64 0,.int .i64 0] 29)
 obtain⟨ao5,c5,rfl,hc1,hc2,hc3⟩:=P5
 have P6:Hid (ProgR ((w5.alloc (.cells #[.slice ao5 pTr.length c5] 24)).alloc (.cells #[.int .i64 0,.int .i64 0] 29)) pTr (.slice ao5 pTr.length c5)):=hide (ProgR.below ⟨ao5,c5,rfl,hc1,hc2,hc3⟩ b6)
 have B56:=hide (below_step b5 b6)
 have D5:=hide d5
 clear b5 b6 d5 hc1 hc2 hc3
 obtain⟨n5,hn5⟩:∃n,pTr.length=n:=⟨_,rfl⟩
 rw [hn5] at P6 B56 D5 ⊢
 replace hn5:=hide hn5
 go_upto_region 4 with fail
 show Code.wp _ _ _ _ ((w5.alloc (.cells #[.slice ao5 n5 c5] 24)).alloc (.cells #[.int .i64 0,.int .i64 0] 29))
 generalize (w5.alloc (.cells #[.slice ao5 n5 c5] 24)).alloc (.cells #[.int .i64 0,.int .i64 0] 29)=W6 at *
 generalize w5.heap.size=q5 at *
 have E1:=hide ((below_step B34.out B56.out).block _ (Array.getElem?_eq_some_iff.1 D1.out).1 |>.trans D1.out)
 have E3:=hide (B56.out.block _ (Array.getElem?_eq_some_iff.1 D3.out).1 |>.trans D3.out)
 have B6:=hide (below_step (below_step B2.out B34.out) B56.out)
 have P26:=hide (P2.out.below (below_step B34.out B56.out))
 have P46:=hide (P4.out.below B56.out)
 have HT6:=hide (HT.out.below B6.out)
 clear D1 D3 P2 P4 B2 B34 B56 HT
 have CF:Hid (∀w',Below W6.heap.size W6 w'→Calls Tryz.prog 12 #[.agg #[.slice ao n1 c],.string ⟨#[102]⟩] w' fun e w''=>(∃fv,e= .returned (.tuple #[fv,.bool true])∧FunV w'' fOne fv)∧Below w'.heap.size w' w''):=hide (fun w' b=>by
  have h:=find11_any pTp [102] ao c w' (by rw [hn1.out];exact P26.out.below b) tp_cnd.1.1 tp_ap
  rw [tp_find,hn1.out] at h
  exact h)
 have c1:=(one_at E1.out).1
 go_wp2_with fail
 refine(CF.out _ (Below.refl _ _)).mono ?_;rintro e w7 ⟨⟨fv,rfl,hfv⟩,b7⟩
 obtain⟨lp,cp,lb,cb,rfl,_,_⟩:=fun_box hfv
 have b8:=below_box w7 (.cells #[.string (bs fOne.1),.slice lp fOne.2.1.length cp,.int .i64 fOne.2.2.1,.slice lb fOne.2.2.2.1.length cb,.int .i64 fOne.2.2.2.2] 36)
 have D8:=hide (heap_alloc_new w7 (.cells #[.string (bs fOne.1),.slice lp fOne.2.1.length cp,.int .i64 fOne.2.2.1,.slice lb fOne.2.2.2.1.length cb,.int .i64 fOne.2.2.2.2] 36))
 have HF8:=hide (hfv.below b8)
 have B68:=hide (below_step b7 b8)
 clear b7 b8 hfv c1 CF
 obtain⟨fnm,hfn⟩:∃n,bs fOne.1=n:=⟨_,rfl⟩
 obtain⟨fl,hfl2⟩:∃n,fOne.2.1.length=n:=⟨_,rfl⟩
 obtain⟨fr,hfr⟩:∃n,fOne.2.2.1=n:=⟨_,rfl⟩
 obtain⟨fb,hfb⟩:∃n,fOne.2.2.2.1.length=n:=⟨_,rfl⟩
 obtain⟨fp,hfp⟩:∃n,fOne.2.2.2.2=n:=⟨_,rfl⟩
 rw [hfn,hfl2,hfr,hfb,hfp] at D8 HF8 B68 ⊢
 clear hfn hfl2 hfr hfb hfp
 go_upto_region 5 with fail
 show Code.wp _ _ _ _ (w7.alloc (.cells #[.string fnm,.slice lp fl cp,.int .i64 fr,.slice lb fb cb,.int .i64 fp] 36))
 generalize w7.alloc (.cells #[.string fnm,.slice lp fl cp,.int .i64 fr,.slice lb fb cb,.int .i64 fp] 36)=W8 at *
 generalize w7.heap.size=q7 at *
 have CT:=hide (types12_any fOne _ W8 HF8.out (HT6.out.below B68.out).2.2 one_key.2 one_key.1)
 obtain⟨⟨x0,x1,x2,x3,x4⟩,_,_⟩:=five_at D8.out
 go_wp2_with fail
 refine CT.out.mono ?_;rintro e w9 ⟨bm,rfl,hbm,hI9,b9⟩
 have HI9:Hid (IMap w9 bm 2 (fun a=>tyL fOne a (bigL fOne 1 0))):=hide (by
  have:=hI9
  rw [show fOne.2.1.length+(mkL (bigL fOne fOne.2.2.2.1.length 0)).length=2 from one_n] at this
  exact this)
 have B69:=hide (below_step B68.out b9)
 clear hI9 b9 hbm CT x0 x1 x2 x3 x4 D8 HF8 B68
 have CS:Hid (∀w',Below w9.heap.size w9 w'→Calls Tryz.prog 9 #[.agg #[.slice ao n1 c]] w' fun e w''=>e= .returned (.agg #[.int .i64 0,.int .i64 0])∧Below w'.heap.size w' w''):=hide (fun w' b=>by
  have hb:=below_step B69.out b
  have h:=source11_any pTp ao c w' (by rw [hn1.out];exact P26.out.below hb) tp_cnd.1.1 tp_cnd.1.2.1 tp_cnd.1.2.2.1 (HT6.out.below hb) (HT6.out.below hb).2.2 (tab_of (HT6.out.below hb).2.2) tp_cnd.1.2.2.2
  rw [tp_src,hn1.out] at h
  exact h)
 have CQ:Hid (∃y,∀w',Below w9.heap.size w9 w'→Calls Tryz.prog 9 #[.agg #[.slice ao3 n3 c3]] w' fun e w''=>e= .returned (.agg #[.int .i64 10,.int .i64 y])∧Below w'.heap.size w' w''):=hide ⟨(checkP pTq true).2,fun w' b=>by
  have hb:=below_step B69.out b
  have h:=source11_any pTq ao3 c3 w' (by rw [hn3.out];exact P46.out.below hb) tq_cnd.1.1 tq_cnd.1.2.1 tq_cnd.1.2.2.1 (HT6.out.below hb) (HT6.out.below hb).2.2 (tab_of (HT6.out.below hb).2.2) tq_cnd.1.2.2.2
  rw [tq_src,hn3.out] at h
  exact h⟩
 have CR:Hid (∃y,∀w',Below w9.heap.size w9 w'→Calls Tryz.prog 9 #[.agg #[.slice ao5 n5 c5]] w' fun e w''=>e= .returned (.agg #[.int .i64 2,.int .i64 y])∧Below w'.heap.size w' w''):=hide ⟨(checkP pTr true).2,fun w' b=>by
  have hb:=below_step B69.out b
  have h:=source11_any pTr ao5 c5 w' (by rw [hn5.out];exact P6.out.below hb) tr_cnd.1.1 tr_cnd.1.2.1 tr_cnd.1.2.2.1 (HT6.out.below hb) (HT6.out.below hb).2.2 (tab_of (HT6.out.below hb).2.2) tr_cnd.1.2.2.2
  rw [tr_src,hn5.out] at h
  exact h⟩
 have CM:Hid (∀w',Below w9.heap.size w9 w'→Calls Tryz.prog 11 #[.agg #[.slice ao5 n5 c5]] w' fun e w''=>e= .returned (.agg #[.int .i64 0,.int .i64 0])∧Below w'.heap.size w' w''):=hide (fun w' b=>by
  have hb:=below_step B69.out b
  have h:=made11_any pTr ao5 c5 w' (by rw [hn5.out];exact P6.out.below hb) tr_cnd.1.1 tr_cnd.1.2.1 tr_cnd.1.2.2.1 (HT6.out.below hb) (HT6.out.below hb).2.2 (tab_of (HT6.out.below hb).2.2) tr_cnd.1.2.2.2
  rw [tr_mad,hn5.out] at h
  exact h)
 have CN:Hid (∃y,∀w',Below w9.heap.size w9 w'→Calls Tryz.prog 9 #[.agg #[.slice none 0 0]] w' fun e w''=>e= .returned (.agg #[.int .i64 12,.int .i64 y])∧Below w'.heap.size w' w''):=hide ⟨(checkP [] true).2,fun w' b=>by
  have hb:=below_step B69.out b
  have h:=source11_any [] none 0 w' (nil_prog w') tn_cnd.1.1 tn_cnd.1.2.1 tn_cnd.1.2.2.1 (HT6.out.below hb) (HT6.out.below hb).2.2 (tab_of (HT6.out.below hb).2.2) tn_cnd.1.2.2.2
  rw [tn_src] at h
  exact h⟩
 obtain⟨yq,hCQ⟩:=CQ.out
 obtain⟨yr,hCR⟩:=CR.out
 obtain⟨yn,hCN⟩:=CN.out
 replace hCQ:=hide hCQ
 replace hCR:=hide hCR
 replace hCN:=hide hCN
 have F1:=hide ((B69.out.block _ (Array.getElem?_eq_some_iff.1 E1.out).1).trans E1.out)
 have F3:=hide ((B69.out.block _ (Array.getElem?_eq_some_iff.1 E3.out).1).trans E3.out)
 have F5:=hide ((B69.out.block _ (Array.getElem?_eq_some_iff.1 D5.out).1).trans D5.out)
 have B9:=hide (below_step B6.out B69.out)
 clear CQ CR CN E1 E3 D5 P26 P46 P6 HT6 B6 B69
 have c1:=(one_at F1.out).1
 go_wp2_with fail
 refine(CS.out _ (Below.refl _ _)).mono ?_;rintro e wa ⟨rfl,ba⟩
 have c3':=(one_at ((ba.block _ (Array.getElem?_eq_some_iff.1 F3.out).1).trans F3.out)).1
 have BA:=hide ba
 clear ba c1
 go_wp2_with fail
 refine(hCQ.out _ BA.out).mono ?_;rintro e wb ⟨rfl,bb⟩
 have BB:=hide (below_step BA.out bb)
 have c5':=(one_at ((BB.out.block _ (Array.getElem?_eq_some_iff.1 F5.out).1).trans F5.out)).1
 clear bb c3'
 go_wp2_with fail
 refine(hCR.out _ BB.out).mono ?_;rintro e wc ⟨rfl,bc⟩
 have BC:=hide (below_step BB.out bc)
 have c6':=(one_at ((BC.out.block _ (Array.getElem?_eq_some_iff.1 F5.out).1).trans F5.out)).1
 clear bc c5'
 go_wp2_with fail
 refine(CM.out _ BC.out).mono ?_;rintro e wd ⟨rfl,bd⟩
 have BD:=hide (below_step BC.out bd)
 clear bd c6'
 have hID:=NMap.below HI9.out BD.out
 have hl0:=imap_run hID 0 (wf_of ⟨by omega,by omega⟩) 2 one_t0
 have hl1:=imap_run hID 1 (wf_of ⟨by omega,by omega⟩) 1 one_t1
 have hln:=fun t=>ilen_run (nmap_two hID (by rfl) (by rfl)) t
 clear hID
 go_wp2_with fail
 refine(hCN.out _ BD.out).mono ?_;rintro e we ⟨rfl,be⟩
 have HE:=hide (below_step B9.out (below_step BD.out be))
 clear be hl0 hl1 hln
 go_wp2_with fail
 go_ret
 exact⟨rfl,HE.out⟩
open Go Go.RowKit
theorem eq_num (n:Nat) (x y:Int) (w:World):(Op.equalIn (n+1) 3 (.int .i64 x) (.int .i64 y)).run Tryz.prog w= .ok (x == y) w:=by
 simp only [Op.equalIn,Sem.run_bind,run_underlying Tryz.underlying3,Result.andThen_ok]
 rfl
theorem eq_code (n:Nat) (x y:Int) (w:World):(Op.equalIn (n+1) 27 (.int .i64 x) (.int .i64 y)).run Tryz.prog w= .ok (x == y) w:=by
 simp only [Op.equalIn,Sem.run_bind,run_underlying Tryz.underlying27,Result.andThen_ok]
 rfl
theorem eq_err (a b:Int) (w:World):(Op.equalIn 10000 29 (.agg #[.int .i64 a,.int .i64 b]) (.agg #[.int .i64 a,.int .i64 b])).run Tryz.prog w= .ok true w:=by
 have e2:∀(x y:Int) (w:World),(Op.equalIn 9999 3 (.int .i64 x) (.int .i64 y)).run Tryz.prog w= .ok (x == y) w:=eq_num 9998
 have e3:∀(x y:Int) (w:World),(Op.equalIn 9999 27 (.int .i64 x) (.int .i64 y)).run Tryz.prog w= .ok (x == y) w:=eq_code 9998
 have p0:∀(x y:Value) (w:World),(part 27 #[x,y] 0).run Tryz.prog w= .ok x w:=fun _ _ _=>rfl
 have p1:∀(x y:Value) (w:World),(part 3 #[x,y] 1).run Tryz.prog w= .ok y w:=fun _ _ _=>rfl
 have hs:Tryz.prog.stoodInHeld 29=false:=by kernel_rfl
 rw [show(10000:Nat)=9999+1 from rfl]
 unfold Op.equalIn
 simp [run_underlying Tryz.underlying29,hs,p0,p1,e2,e3]
theorem GxF.ok11 {f:Fun} (h:GxF f):OkF f:=by
 obtain⟨h1,_,_,h4⟩:=h
 unfold Few at h1
 refine⟨by unfold maxLen;omega,fun b hb x hx=> ?_⟩
 obtain⟨_,k2,_,_,_,_,k7⟩:=h4 b hb x hx
 unfold Few at k7
 exact⟨k2,by unfold maxLen;omega⟩
theorem GxF.sh11 {f:Fun} (h:GxF f):ShF f:=by
 obtain⟨h1,h2,h3,h4⟩:=h
 refine⟨h1,h2,h3,fun b hb x hx=> ?_⟩
 obtain⟨_,_,_,_,k5,k6,k7⟩:=h4 b hb x hx
 exact⟨k5,k6,k7⟩
theorem lgt_cnd {p:List Fun} (h:lgtP p=true) (gp:∀y∈p,GxF y):Cnd p∧Siz p:=⟨cnd_of (by have:=(lgt_siz h).1;omega) (fun f hf=>(gp f hf).ok11) (lgt_siz h).2,(lgt_siz h).2⟩
theorem err_eqA (a b:Int) (w:World):Sem.run Tryz.prog (binOp BinOp.eql 29 (.agg #[.int .i64 a,.int .i64 b]) (.agg #[.int .i64 a,.int .i64 b])) w= .ok (.bool true) w:=by
 have h:=eq_err a b w
 simp only [binOp,Op.equal]
 simp [show Op.maxDepth=10000 from rfl,h]
theorem lawA (p:List Fun) (po:Option Addr) (pc:Nat) (w:World) (hp:ProgR w p (.slice po p.length pc)) (gp:∀y∈p,GxF y) (fp:Few p.length) (hT:Tb w):
  Calls Tryz.prog 3 #[.agg #[.slice po p.length pc]] w fun e w'=>e= .returned (.bool true)∧Below w.heap.size w w':=by
 have CL:=hide (fun w' (b:Below w.heap.size w w')=>light11_any p po pc w' (hp.below b) fp (fun f hf=>(gp f hf).sh11))
 have CWk:=hide (fun w' (b:Below w.heap.size w w')=>works11_any w' (hT.below b))
 have CSo:=hide (fun(h:lgtP p=true) w' (b:Below w.heap.size w w')=>source11_any p po pc w' (hp.below b) (lgt_cnd h gp).1.1 (lgt_cnd h gp).1.2.1 (lgt_cnd h gp).1.2.2.1 (hT.below b) (hT.below b).2.2 (tab_of (hT.below b).2.2) (lgt_cnd h gp).1.2.2.2)
 have CMa:=hide (fun(h:lgtP p=true) w' (b:Below w.heap.size w w')=>made11_any p po pc w' (hp.below b) (lgt_cnd h gp).1.1 (lgt_cnd h gp).1.2.1 (lgt_cnd h gp).1.2.2.1 (hT.below b) (hT.below b).2.2 (tab_of (hT.below b).2.2) (lgt_cnd h gp).1.2.2.2)
 have CCh:=hide (fun(h:lgtP p=true) (src:Bool) w' (b:Below w.heap.size w w')=>rcheckP_any p src po pc w' (hp.below b) (lgt_cnd h gp).1.1 (lgt_cnd h gp).1.2.1 (lgt_cnd h gp).1.2.2.1 (fun hW f hf=>((lgt_cnd h gp).1.2.2.2 hW f hf).1))
 clear hp gp fp hT
 generalize p.length=pn at *
 have b0:=below_box w (.cells #[.slice po pn pc] 24)
 have H0:=hide (heap_alloc_new w (.cells #[.slice po pn pc] 24))
 have B0:=hide b0
 clear b0
 go_enter Tryz.func3,Tryz.ntmps3
 go_upto_region 1 with fail
 show Code.wp _ _ _ _ (w.alloc (.cells #[.slice po pn pc] 24))
 generalize w.alloc (.cells #[.slice po pn pc] 24)=W at *
 have c0:=(one_at H0.out).1
 go_wp2_with fail
 refine(CL.out W B0.out).mono ?_;rintro e w1 ⟨rfl,b1⟩
 have B1:=hide (below_step B0.out b1)
 have K0:=hide ((b1.block _ (Array.getElem?_eq_some_iff.1 H0.out).1).trans H0.out)
 clear b1 c0 CL H0 B0
 cases hL:lgtP p with
 |false=>
  rw [if_neg (by simp)]
  clear CSo CMa CCh hL
  go_wp2_with fail
  refine(CWk.out w1 B1.out).mono ?_;rintro e w2 ⟨rfl,b2⟩
  have B2:=hide (below_step B1.out b2)
  clear b2
  go_wp2_with fail
  go_ret
  exact⟨rfl,B2.out⟩
 |true=>
  rw [if_pos rfl]
  replace CSo:=hide (CSo.out hL)
  replace CMa:=hide (CMa.out hL)
  have CC1:=hide (CCh.out hL true)
  have CC2:=hide (CCh.out hL false)
  clear hL CCh
  obtain⟨⟨s1,s2⟩,hs⟩:∃s,checkP p true=s:=⟨_,rfl⟩
  obtain⟨⟨m1,m2⟩,hm⟩:∃s,checkP p false=s:=⟨_,rfl⟩
  rw [hs] at CSo CC1
  rw [hm] at CMa CC2
  clear hs hm
  have e1:=err_eqA s1 s2
  have e2:=err_eqA m1 m2
  have HBx:=hide (fun x=>below_step B1.out (L5.grewTo_below w1 x))
  have c0:=fun x=>(one_at (((L5.grewTo_below w1 x).block _ (Array.getElem?_eq_some_iff.1 K0.out).1).trans K0.out)).1
  go_wp2_with fail
  refine L5.region_grew (by kernel_rfl) (by kernel_rfl) ?_
  iterate 4 (go_big_quiet_step (first | (go_at_call 9;exact L5.calls_grew (CSo.out _ (HBx.out _))) | (go_at_call 11;exact L5.calls_grew (CMa.out _ (HBx.out _))) | (go_at_call 8;exact L5.calls_grew (CWk.out _ (HBx.out _))) | (go_at_call 10;exact L5.calls_grew (CC1.out _ (HBx.out _)))))
  repeat (go_big_quiet_step (first | (go_at_call 9;exact L5.calls_grew (CSo.out _ (HBx.out _))) | (go_at_call 11;exact L5.calls_grew (CMa.out _ (HBx.out _))) | (go_at_call 8;exact L5.calls_grew (CWk.out _ (HBx.out _))) | (go_at_call 10;exact L5.calls_grew (CC2.out _ (HBx.out _)))))
  refine wpQuiet_nil ?_
  rintro _ ⟨x,rfl⟩
  have HX:=hide (HBx.out x)
  clear c0 HBx
  go_wp2_with fail
  go_ret
  exact⟨rfl,HX.out⟩
end Go.Proofs.YtljkgcfnoegibaaGreatDoor
