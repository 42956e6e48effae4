/- Texts of one chain, joined. -/
import Derived.Test.YtljkgcfnoegibaaGreatDoorWcBB
import Derived.Test.YtljkgcfnoegibaaGreatDoorWcBI
import Derived.Test.YtljkgcfnoegibaaGreatDoorWcBM
set_option maxHeartbeats 2000000
set_option maxRecDepth 20000
namespace Go.Proofs.YtljkgcfnoegibaaGreatDoor
open Go Go.RowKit
open G (Tok Er Ins Fun)
theorem index11_any (l:List Int) (v:Int) (ao:Option Addr) (c:Nat) (w:World) (hl:l.length≤1000000) (hs:Sl w ao l):
  Calls Tryz.prog 92 #[.slice ao l.length c,.int .i64 v] w fun e w'=>∃r:Int,e= .returned (.int .i64 r)∧hasL l v=decide (0≤r)∧w'=w:=by
 have HS:=hide hs
 clear hs
 have HNo:Hid ((∀j,j < l.length→l[j]? ≠some v)→hasL l v=false):=hide (fun h=>by
  rw [hasL_no]
  intro hm
  obtain⟨j,hj,e⟩:=List.mem_iff_getElem.1 hm
  exact h j hj (by rw [List.getElem?_eq_getElem hj,e]))
 have HYes:Hid (∀j,l[j]? =some v→hasL l v=true):=hide (fun j h=>hasL_at h)
 have HGd:Hid (∀j,j < l.length→l[j]? =some (l.getD j 0)):=hide (fun j hj=>by rw [List.getD_eq_getElem?_getD,List.getElem?_eq_getElem hj];rfl)
 obtain⟨n,hn⟩:∃n,l.length=n:=⟨_,rfl⟩
 rw [hn] at HNo hl HGd ⊢
 replace hn:=hide hn
 go_enter Tryz.func92,Tryz.ntmps92
 go_wp2_with fail
 go_loopw [8] (fun i wr=>∃k:Nat,i= .int .i64 k∧k≤n∧wr=w∧Hid (∀j,j < k→l[j]? ≠some v)) (fun i _=>n - (intOf i).toNat)
 case atStart=>exact⟨0,rfl,Nat.zero_le _,rfl,hide (fun j h=>absurd h (Nat.not_lt_zero _))⟩
 case round=>
  obtain⟨k,rfl,hk,rfl,HF⟩:=hrel
  by_cases hlt:k < n
  ·have hlt':(k:Int) < n:=by omega
   obtain⟨g,o,rfl,hg,hc⟩:=sl_at HS.out (n:=k) (by rw [hn.out];exact hlt)
   have HG:=hide (HGd.out k hlt)
   obtain⟨t,ht⟩:∃t,l.getD k 0=t:=⟨_,rfl⟩
   rw [ht] at hc HG
   clear ht
   by_cases hvt:v=t
   ·have HY:=hide (HYes.out k (by rw [HG.out,hvt]))
    subst hvt
    go_wp2_with fail
    go_ret
    exact⟨k,rfl,by rw [HY.out];simp,rfl⟩
   ·have HF2:Hid (∀j,j < k+1→l[j]? ≠some v):=hide (fun j hj=>by
     by_cases e:j=k
     ·subst e;rw [HG.out];intro h;injection h with h;exact hvt h.symm
     ·exact HF.out j (by omega))
    go_wp2_with fail
    go_roundw
    case rel=>exact⟨k+1,by go_num,by omega,trivial,HF2⟩
    case measure=>simp [intOf];omega
  ·obtain rfl:k=n:=by omega
   have HN:=hide (HNo.out HF.out)
   go_wp2_with fail
   go_ret
   exact⟨-1,rfl,by rw [HN.out];simp,rfl⟩
theorem contains11_any (l:List Int) (v:Int) (ao:Option Addr) (c:Nat) (w:World) (hl:l.length≤1000000) (hs:Sl w ao l):
  Calls Tryz.prog 64 #[.slice ao l.length c,.int .i64 v] w fun e w'=>e= .returned (.bool (hasL l v))∧w'=w:=by
 have HC:=hide (index11_any l v ao c w hl hs)
 generalize l.length=n at *
 go_enter Tryz.func64,Tryz.ntmps64
 go_wp2_with fail
 refine HC.out.mono ?_;rintro e w1 ⟨r,rfl,hr,rfl⟩
 have HR:=hide hr
 clear hr
 go_wp2_with fail
 go_ret
 exact⟨by rw [HR.out];rfl,rfl⟩
theorem prog_take {w:World} {p:List Fun} {po:Option Addr} {n pc:Nat} (h:ProgR w p (.slice po n pc)) {k:Nat} (hk:k≤p.length):ProgR w (p.take k) (.slice po (p.take k).length pc):=by
 obtain⟨po',pc',e,h1,h2,h3⟩:=h
 injection e with e1 e2 e3
 subst e1 e3
 refine⟨po,pc,rfl,by rw [List.length_take];omega,h2,?_⟩
 rcases h3 with h3 | ⟨g,o,e4,h4⟩
 ·left;rw [h3];simp
 ·right
  refine⟨g,o,e4,fun i x hx=>h4 i x ?_⟩
  rw [List.getElem?_take] at hx
  split at hx
  ·exact hx
  ·cases hx
theorem prog_cap {w:World} {p:List Fun} {po:Option Addr} {n pc:Nat} (h:ProgR w p (.slice po n pc)):p.length≤pc∧pc≤maxLen:=by
 obtain⟨po',pc',e,h1,h2,h3⟩:=h
 injection e with e1 e2 e3
 subst e1 e3
 exact⟨h1,h2⟩
theorem funN_take {p:List Fun} {i k:Nat} (h:i < k):funN (p.take k) i=funN p i:=by
 unfold funN
 rw [List.getD_eq_getElem?_getD,List.getD_eq_getElem?_getD,List.getElem?_take,if_pos h]
theorem std_take {p:List Fun} {k:Nat} (hk:k≤p.length) (nm:List UInt8):stdO (p.take k) nm=fstN (fun i=>if(funN p i).1=nm then some i else none) k:=by
 unfold stdO
 rw [List.length_take,Nat.min_eq_left hk]
 exact fstN_congr fun i hi=>by rw [funN_take hi]
theorem dup_no {p:List Fun} {k:Nat} (hk:k < p.length) (h:stdI (p.take k) (funN p k).1= -1):fstN (fun j=>if dupB p k j then some ((5:Int),(funN p k).2.2.2.2)else none) k=none:=by
 have h1:stdO (p.take k) (funN p k).1=none:=by
  unfold stdI at h
  cases hs:stdO (p.take k) (funN p k).1 with
  |none=>rfl
  |some i=>rw [hs] at h;simp at h
 rw [std_take (by omega)] at h1
 apply fstN_none
 intro j hj
 have:=fstN_all h1 j hj
 split at this
 ·cases this
 ·rename_i hne
  rw [if_neg]
  simp only [dupB,decide_eq_true_eq]
  exact fun e=>hne e.symm
theorem dup_yes {p:List Fun} {k:Nat} (hk:k < p.length) (h:¬stdI (p.take k) (funN p k).1= -1):fstN (fun j=>if dupB p k j then some ((5:Int),(funN p k).2.2.2.2)else none) k=some (5,(funN p k).2.2.2.2):=by
 cases hs:stdO (p.take k) (funN p k).1 with
 |none=>unfold stdI at h;rw [hs] at h;simp at h
 |some i=>
  rw [std_take (by omega)] at hs
  obtain⟨K,hK,h1,h2⟩:=fstN_at hs
  split at h1
  ·rename_i he
   refine fstN_some (K:=K) (fun j hj=> ?_) hK (by rw [if_pos];simp only [dupB,decide_eq_true_eq];exact he.symm)
   have:=h2 j hj
   split at this
   ·cases this
   ·rename_i hne
    rw [if_neg]
    simp only [dupB,decide_eq_true_eq]
    exact fun e=>hne e.symm
  ·cases h1
theorem names11_any (p:List Fun) (po:Option Addr) (pc:Nat) (w:World) (hp:ProgR w p (.slice po p.length pc)) (hl:p.length≤1000000) (hpl:∀f∈p,f.2.1.length≤1000000):
  Calls Tryz.prog 38 #[.slice po p.length pc] w fun e w'=>e= .returned (.agg #[.int .i64 (namesF p).1,.int .i64 (namesF p).2])∧Below w.heap.size w w':=by
 have HRd:Hid (∀w' i,Below w.heap.size w w'→i < p.length→∃g o,po=some ⟨g,o,none⟩∧FunR w' (funN p i) g (o+i * 5)):=hide (fun w' i b hi=>prog_fun (hp.below b) hi)
 have CS:Hid (∀w' k,Below w.heap.size w w'→k < p.length→Calls Tryz.prog 27 #[.slice po k pc,.string (bs (funN p k).1)] w' fun e w''=>e= .returned (.int .i64 (stdI (p.take k) (funN p k).1))∧Below w'.heap.size w' w''):=hide (fun w' k b hk=>by
  have h:=stands_any11 (p.take k) (funN p k).1 po pc w' (prog_take (hp.below b) (by omega)) (by rw [List.length_take];omega)
  rw [List.length_take,Nat.min_eq_left (by omega)] at h
  exact h)
 have CM:Hid (∀w',Below w.heap.size w w'→Calls Tryz.prog 27 #[.slice po p.length pc,.string ⟨#[109,97,105,110]⟩] w' fun e w''=>e= .returned (.int .i64 (stdI p mainN))∧Below w'.heap.size w' w''):=hide (fun w' b=>stands_any11 p mainN po pc w' (hp.below b) hl)
 have HFm:=hide (find_std p mainN)
 have HNo:Hid (∀k,k < p.length→stdI (p.take k) (funN p k).1= -1→fstN (fun j=>if dupB p k j then some ((5:Int),(funN p k).2.2.2.2)else none) k=none):=hide (fun k hk h=>dup_no hk h)
 have HYe:Hid (∀k,k < p.length→¬stdI (p.take k) (funN p k).1= -1→fstN (fun j=>if dupB p k j then some ((5:Int),(funN p k).2.2.2.2)else none) k=some (5,(funN p k).2.2.2.2)):=hide (fun k hk h=>dup_yes hk h)
 have HDu:Hid (dupF p=fstN (fun i=>(fstN (fun k=>if dupB p i k then some ((5:Int),(funN p i).2.2.2.2)else none) i)) p.length):=hide rfl
 have HNs:Hid (namesF p=match dupF p with
  |some e=>e
  |none=>match findF p mainN with
   |none=>(12,0)
   |some m=>if hasL m.2.1 2 then(13,m.2.2.2.2)else(0,0)):=hide rfl
 have HPl:Hid (∀i,i < p.length→(funN p i).2.1.length≤1000000):=hide (fun i hi=>hpl _ (List.mem_of_getElem? (funN_at hi)))
 have hcap:=(prog_cap hp).1
 have hcap2:=(prog_cap hp).2
 unfold maxLen at hcap2
 clear hp hpl
 obtain⟨r,hr⟩:∃r,namesF p=r:=⟨_,rfl⟩
 rw [hr] at HNs ⊢
 clear hr
 have HSl:Hid (∀k,stdO p mainN=some k→k < p.length):=hide (fun k h=>std_lt h)
 obtain⟨n,hn⟩:∃n,p.length=n:=⟨_,rfl⟩
 rw [hn] at HRd CS CM HNo HYe HDu HPl hcap hl HSl ⊢
 clear hn
 have b0:=below_box w (.cells #[.int .i64 0,.int .i64 0] 29)
 have H0:=hide (heap_alloc_new w (.cells #[.int .i64 0,.int .i64 0] 29))
 have B0:=hide b0
 clear b0
 go_enter Tryz.func38,Tryz.ntmps38
 go_upto_region 1 with fail
 show Code.wp _ _ _ _ (w.alloc (.cells #[.int .i64 0,.int .i64 0] 29))
 generalize w.alloc (.cells #[.int .i64 0,.int .i64 0] 29)=W at *
 go_wp2_with fail
 go_loopw [8] (fun kv wr=>∃K:Nat,K≤n∧kv= .int .i64 K∧Hid (∀j,j < K→stdI (p.take j) (funN p j).1= -1)∧Hid (Below w.heap.size w wr)∧Hid (wr.heap[w.heap.size]? =some (.cells #[.int .i64 0,.int .i64 0] 29 (0,0)))) (fun kv _=>n - (intOf kv).toNat)
 case atStart=>exact⟨0,Nat.zero_le _,rfl,hide (fun j h=>absurd h (Nat.not_lt_zero _)),B0,H0⟩
 case round=>
  clear B0 H0
  obtain⟨K,hK,rfl,HF,HB,HZ⟩:=hrel
  by_cases hkt:K < n
  ·have hkI:(K:Int) < n:=by omega
   have hkc:(K:Int)≤pc:=by omega
   obtain⟨g,o,rfl,hfr⟩:=HRd.out wr K HB.out hkt
   obtain⟨ao,bo,c,cb,_,d0,d1,d2,d3,d4⟩:=hfr.val
   have HCs:=hide (fun w' b=>CS.out w' K b hkt)
   have HN1:=hide (HNo.out K hkt)
   have HY1:=hide (HYe.out K hkt)
   have HAll:Hid (∀j,j < K→fstN (fun k=>if dupB p j k then some ((5:Int),(funN p j).2.2.2.2)else none) j=none):=hide (fun j hj=>HNo.out j (by omega) (HF.out j hj))
   obtain⟨sv,hsv⟩:∃sv,stdI (p.take K) (funN p K).1=sv:=⟨_,rfl⟩
   rw [hsv] at HCs HN1 HY1
   have HSv:=hide hsv
   clear hsv
   obtain⟨f,hf⟩:∃f,funN p K=f:=⟨_,rfl⟩
   rw [hf] at d0 d1 d2 d3 d4 HCs
   have HfE:=hide hf
   clear hf hfr
   generalize f.2.1.length=fl at *
   generalize f.2.2.2.1.length=fbl at *
   generalize hfn:bs f.1=fnm at *
   clear hfn
   have b3:=below_box wr (.cells #[.string fnm,.slice ao fl c,.int .i64 f.2.2.1,.slice bo fbl cb,.int .i64 f.2.2.2.2] 36)
   have Y3:=hide (heap_alloc_new wr (.cells #[.string fnm,.slice ao fl c,.int .i64 f.2.2.1,.slice bo fbl cb,.int .i64 f.2.2.2.2] 36))
   have HB3:=hide (below_step HB.out b3)
   have HZ3:=hide ((b3.block _ (Array.getElem?_eq_some_iff.1 HZ.out).1).trans HZ.out)
   clear b3
   go_upto_region 4 with fail
   show Code.wp _ _ _ _ (wr.alloc (.cells #[.string fnm,.slice ao fl c,.int .i64 f.2.2.1,.slice bo fbl cb,.int .i64 f.2.2.2.2] 36))
   generalize wr.alloc (.cells #[.string fnm,.slice ao fl c,.int .i64 f.2.2.1,.slice bo fbl cb,.int .i64 f.2.2.2.2] 36)=w3 at *
   generalize wr.heap.size=q3 at *
   clear d0 d1 d2 d3 d4
   have hq3:=(Array.getElem?_eq_some_iff.1 Y3.out).1
   have y0:=fun x=>(five_at (((L5.grewTo_below w3 x).block _ hq3).trans Y3.out)).1.1
   have HBx:=hide (fun x=>below_step HB3.out (L5.grewTo_below w3 x))
   refine L5.region_grew (by kernel_rfl) (by kernel_rfl) ?_
   repeat (go_big_quiet_step ((go_at_call 27;exact L5.calls_grew (HCs.out _ (HBx.out _)))))
   refine wpQuiet_nil ?_
   rintro _ ⟨x,rfl⟩
   have HX:=hide (HBx.out x)
   have Z8:=hide (((L5.grewTo_below w3 x).block _ (Array.getElem?_eq_some_iff.1 HZ3.out).1).trans HZ3.out)
   have Y8:=hide (((L5.grewTo_below w3 x).block _ hq3).trans Y3.out)
   clear y0 HBx Y3 HZ3 HB3
   obtain⟨w8,hw8⟩:∃w8:World,w8=L5.grewTo w3 x:=⟨_,rfl⟩
   rw [←hw8] at HX Z8 Y8 ⊢
   clear hw8 hq3
   by_cases hsm:sv= -1
   ·have HF2:Hid (∀j,j < K+1→stdI (p.take j) (funN p j).1= -1):=hide (fun j hj=>by
     by_cases e:j=K
     ·subst e;rw [HSv.out];exact hsm
     ·exact HF.out j (by omega))
    subst hsm
    go_wp2_with fail
    go_roundw
    case rel=>exact⟨K+1,by omega,by go_num,HF2,HX,Z8⟩
    case measure=>simp [intOf];omega
   ·have HR:Hid (r=(5,f.2.2.2.2)):=hide (by
     rw [HNs.out,HDu.out,fstN_some (K:=K) HAll.out hkt (HY1.out hsm),HfE.out])
    obtain⟨⟨z0,z1⟩,⟨f0,f1⟩,_⟩:=two_at Z8.out
    obtain⟨⟨y0,y1,y2,y3,y4⟩,_,_⟩:=five_at Y8.out
    have hle:w.heap.size≤w.heap.size:=Nat.le_refl _
    have HE:Hid (Below w.heap.size w ((w8.setCell ⟨w.heap.size,0,none⟩ (.int .i64 5)).setCell ⟨w.heap.size,1,none⟩ (.int .i64 f.2.2.2.2))):=hide ((HX.out.setCell (p:=⟨w.heap.size,0,none⟩) hle _).setCell (p:=⟨w.heap.size,1,none⟩) hle _)
    go_wp2_with fail
    exact bodyPost_ret (v:= .agg #[.int .i64 5,.int .i64 f.2.2.2.2]) (by simp [results,Tryz.results38,go_sem,z0,z1]) rfl ⟨by rw [HR.out],HE.out⟩
  ·obtain rfl:K=n:=by omega
   have HDn:Hid (dupF p=none):=hide (by rw [HDu.out];exact fstN_none (fun j hj=>HNo.out j hj (HF.out j hj)))
   have HCm:=hide (CM.out wr HB.out)
   have HN2:Hid (r=match findF p mainN with
    |none=>(12,0)
    |some m=>if hasL m.2.1 2 then(13,m.2.2.2.2)else(0,0)):=hide (by rw [HNs.out,HDn.out])
   have HStd:Hid (stdI p mainN=match stdO p mainN with
    |none=> -1
    |some i=>i):=hide rfl
   obtain⟨sv,hsv⟩:∃sv,stdI p mainN=sv:=⟨_,rfl⟩
   rw [hsv] at HCm HStd
   clear hsv HNs HNo HYe HDu CS CM
   go_wp2_with fail
   refine HCm.out.mono ?_;rintro e w4 ⟨rfl,b4⟩
   have HB4:=hide (below_step HB.out b4)
   have Z4:=hide ((b4.block _ (Array.getElem?_eq_some_iff.1 HZ.out).1).trans HZ.out)
   clear b4 HCm HB HZ
   have hle:w.heap.size≤w.heap.size:=Nat.le_refl _
   obtain⟨⟨z0,z1⟩,⟨f0,f1⟩,_⟩:=two_at Z4.out
   cases hso:stdO p mainN with
   |none=>
    have hsv:sv= -1:=by rw [HStd.out,hso]
    have HR:Hid (r=(12,0)):=hide (by rw [HN2.out,HFm.out,hso];rfl)
    have HE:Hid (Below w.heap.size w ((w4.setCell ⟨w.heap.size,0,none⟩ (.int .i64 12)).setCell ⟨w.heap.size,1,none⟩ (.int .i64 0))):=hide ((HB4.out.setCell (p:=⟨w.heap.size,0,none⟩) hle _).setCell (p:=⟨w.heap.size,1,none⟩) hle _)
    subst hsv
    clear HStd hso
    go_wp2_with fail
    exact bodyPost_ret (v:= .agg #[.int .i64 12,.int .i64 0]) (by simp [results,Tryz.results38,go_sem,z0,z1]) rfl ⟨by rw [HR.out],HE.out⟩
   |some m=>
    have hsv:sv=(m:Int):=by rw [HStd.out,hso]
    have hm:=HSl.out m hso
    have HR:Hid (r=if hasL (funN p m).2.1 2 then(13,(funN p m).2.2.2.2)else(0,0)):=hide (by rw [HN2.out,HFm.out,hso];rfl)
    subst hsv
    clear HStd hso HN2 HFm
    have hmI:(m:Int) < K:=by omega
    have hmm:¬(m:Int)= -1:=by omega
    obtain⟨g,o,rfl,hfr⟩:=HRd.out w4 m HB4.out hm
    obtain⟨ao,bo,c,cb,hfv,d0,d1,d2,d3,d4⟩:=hfr.val
    have hpm:=HPl.out m hm
    obtain⟨f,hf⟩:∃f,funN p m=f:=⟨_,rfl⟩
    rw [hf] at d0 d1 d2 d3 d4 HR hpm hfv
    have HSs:Hid (Sl w4 ao f.2.1):=hide (by
     obtain⟨vp,vb,e,⟨ao',c',e2,hs,_⟩,_⟩:=hfv
     simp only [Value.agg.injEq,Array.mk.injEq,List.cons.injEq] at e
     obtain⟨_,e3,_⟩:=e
     rw [e2] at e3
     injection e3 with e3
     subst e3
     exact hs)
    have HCn:=hide (contains11_any f.2.1 2 ao c w4 hpm HSs.out)
    clear hf hfr hfv
    obtain⟨fl,hfl⟩:∃fl,f.2.1.length=fl:=⟨_,rfl⟩
    rw [hfl] at d1 HCn hpm
    clear hfl
    go_wp2_with fail
    refine HCn.out.mono ?_;rintro e w5 ⟨rfl,rfl⟩
    cases hh:hasL f.2.1 2 with
    |true=>
     have HR2:Hid (r=(13,f.2.2.2.2)):=hide (by rw [HR.out,hh,if_pos rfl])
     have HE:Hid (Below w.heap.size w ((w5.setCell ⟨w.heap.size,0,none⟩ (.int .i64 13)).setCell ⟨w.heap.size,1,none⟩ (.int .i64 f.2.2.2.2))):=hide ((HB4.out.setCell (p:=⟨w.heap.size,0,none⟩) hle _).setCell (p:=⟨w.heap.size,1,none⟩) hle _)
     clear hh
     go_wp2_with fail
     exact bodyPost_ret (v:= .agg #[.int .i64 13,.int .i64 f.2.2.2.2]) (by simp [results,Tryz.results38,go_sem,z0,z1]) rfl ⟨by rw [HR2.out],HE.out⟩
    |false=>
     have HR2:Hid (r=(0,0)):=hide (by rw [HR.out,hh,if_neg (by simp)])
     have HE:Hid (Below w.heap.size w ((w5.setCell ⟨w.heap.size,0,none⟩ (.int .i64 0)).setCell ⟨w.heap.size,1,none⟩ (.int .i64 0))):=hide ((HB4.out.setCell (p:=⟨w.heap.size,0,none⟩) hle _).setCell (p:=⟨w.heap.size,1,none⟩) hle _)
     clear hh
     go_wp2_with fail
     exact bodyPost_ret (v:= .agg #[.int .i64 0,.int .i64 0]) (by simp [results,Tryz.results38,go_sem,z0,z1]) rfl ⟨by rw [HR2.out],HE.out⟩
open Mix (Up)
def flowC (f:Fun):Int:=if(shapedF f).1≠0 then(shapedF f).1 else if reachB f=false then 14 else 0
def flwUp (fv bv:Value) (f:Fun) (l:List Int) (q lbs:Nat) (b1 b2:Bool) (t:Tmp):Up:=match t with
 |11 | 18=>Up.eq fv
 |12=>Up.rows (predsF f)
 |13=>Up.ptri l
 |14=>Up.ints l
 |15=>Up.eq (.int .i64 l.length)
 |16 | 17=>Up.eq (.bool b1)
 |19=>Up.ints (orderF f)
 |20=>Up.eq (.int .i64 (orderF f).length)
 |21=>Up.eq (.pointer (some ⟨q,3,none⟩))
 |22=>Up.eq bv
 |23=>Up.eq (.int .i64 lbs)
 |24=>Up.eq (.bool b2)
 |25=>Up.eq (.bool (b1 || b2))
 |_=>Up.any
theorem flow11_any (f:Fun) (v:Value) (w0:World) (hv:FunV w0 f v) (ht:Tab w0) (hK:(shapedF f).1=0→Ful f∧Tos f∧0 < f.2.2.2.1.length):
  Calls Tryz.prog 65 #[v] w0 fun e w'=>e= .returned (.int .i64 (flowC f))∧Below w0.heap.size w0 w':=by
 have HFc:Hid (flowC f=if(shapedF f).1≠0 then(shapedF f).1 else if reachB f=false then 14 else 0):=hide rfl
 have HRb:Hid (reachB f=(decide ((orderF f).length=f.2.2.2.1.length) && decide (((predsF f).getD 0 []).length=0))):=hide rfl
 have HSh:=hide (fun v w hv ht=>shaped_any f v w hv ht)
 have HCo:=hide (fun v w hv hF hT h0=>orderP_any f v w hv hF hT h0)
 have HCp:=hide (fun v w hv hF hT=>preds_any f v w hv hF hT)
 have HKk:=hide hK
 clear hK
 obtain⟨c,hcE⟩:∃c,flowC f=c:=⟨_,rfl⟩
 rw [hcE] at HFc ⊢
 clear hcE
 obtain⟨lp,cp,lb,cb,rfl,X,b0⟩:=fun_box hv
 have HV:=hide (hv.below b0)
 have HTb:=hide (ht.below b0)
 have X0:=hide X
 have B0:=hide b0
 clear hv X b0 ht
 generalize bs f.1=nm at *
 generalize f.2.1.length=lps at *
 generalize f.2.2.1=rt at *
 generalize hlbs:f.2.2.2.1.length=lbs at *
 generalize f.2.2.2.2=pl at *
 replace hlbs:=hide hlbs
 go_enter Tryz.func65,Tryz.ntmps65
 go_upto_region 1 with fail
 show Code.wp _ _ _ _ (w0.alloc (.cells #[.string nm,.slice lp lps cp,.int .i64 rt,.slice lb lbs cb,.int .i64 pl] 36))
 generalize w0.alloc (.cells #[.string nm,.slice lp lps cp,.int .i64 rt,.slice lb lbs cb,.int .i64 pl] 36)=W0 at *
 generalize hq:w0.heap.size=q at *
 have C1:=hide (HSh.out _ W0 HV.out HTb.out)
 obtain⟨⟨s1,s2⟩,hse⟩:∃s,shapedF f=s:=⟨_,rfl⟩
 rw [hse] at C1 HFc HKk
 clear hse
 obtain⟨x0,x1,x2,x3,x4⟩:_∧_∧_∧_∧_:=⟨X0.out.2 0 _ rfl,X0.out.2 1 _ rfl,X0.out.2 2 _ rfl,X0.out.2 3 _ rfl,X0.out.2 4 _ rfl⟩
 go_wp2_with fail
 refine C1.out.mono ?_;rintro e w1 ⟨rfl,b1⟩
 have b2:=below_box w1 (.cells #[.int .i64 s1,.int .i64 s2] 29)
 have H2:=hide (heap_alloc_new w1 (.cells #[.int .i64 s1,.int .i64 s2] 29))
 have X1:=hide ((X0.out.below b1).below b2)
 have HV1:=hide ((HV.out.below b1).below b2)
 have B1:Hid (Below q w0 (w1.alloc (.cells #[.int .i64 s1,.int .i64 s2] 29))):=hide (by have h:=below_step (below_step (by rw [hq];exact B0.out) b1) b2;rw [hq] at h;exact h)
 clear b1 b2 x0 x1 x2 x3 x4 X0 HV B0 C1 HTb
 go_upto_region 2 with fail
 show Code.wp _ _ _ _ (w1.alloc (.cells #[.int .i64 s1,.int .i64 s2] 29))
 generalize w1.alloc (.cells #[.int .i64 s1,.int .i64 s2] 29)=W at *
 generalize w1.heap.size=q1 at *
 obtain⟨⟨z0,z1⟩,_,_⟩:=two_at H2.out
 by_cases hs0:s1=0
 ·obtain⟨hF,hT,h0⟩:=HKk.out hs0
  replace HFc:Hid (c=if reachB f=false then 14 else 0):=hide (by rw [HFc.out,if_neg (by simp [hs0])])
  have hTos:Tos f:=hT
  have hFul:Ful f:=hF
  subst hs0
  obtain⟨l,hl⟩:∃l,(predsF f)[0]? =some l:=⟨_,List.getElem?_eq_getElem (by simp [predsF];rw [hlbs.out];exact h0)⟩
  have hgd:(predsF f).getD 0 []=l:=by rw [List.getD_eq_getElem?_getD,hl];rfl
  have hpl:0 < (predsF f).length:=by simp [predsF];rw [hlbs.out];exact h0
  rw [hgd] at HRb
  have HL:=hide hl
  have h0':0 < f.2.2.2.1.length:=by rw [hlbs.out];exact h0
  have HLe:=hide (order_le hT h0')
  rw [hlbs.out] at HLe
  have hol:(orderF f).length≤lbs:=HLe.out
  have hN:lbs≤1000000:=by have:=hF.1;rw [hlbs.out] at this;exact this
  have hll:l.length≤1000000:=by
   have hm:=List.mem_of_getElem? hl
   unfold predsF at hm
   obtain⟨b,_,rfl⟩:=List.mem_map.1 hm
   unfold predTo
   rw [List.length_map]
   exact Nat.le_trans (List.length_filter_le _ _) (by simp;exact hF.1)
  have CO:∀w,Below W.heap.size W w→Calls Tryz.prog 94 #[(.agg #[.string nm,.slice lp lps cp,.int .i64 rt,.slice lb lbs cb,.int .i64 pl])] w fun e w'=>∃v,e= .returned v∧Below w.heap.size w w'∧IntsV w' (orderF f) v:=fun w b=>(HCo.out _ w (HV1.out.below b) hFul hTos h0).mono fun e w' ⟨u,he,h,b'⟩=>⟨_,he,b',ints_of h⟩
  have CP:∀w,Below W.heap.size W w→Calls Tryz.prog 66 #[(.agg #[.string nm,.slice lp lps cp,.int .i64 rt,.slice lb lbs cb,.int .i64 pl])] w fun e w'=>∃v,e= .returned v∧Below w.heap.size w w'∧RowsV w' (predsF f) v:=fun w b=>(HCp.out _ w (HV1.out.below b) hFul hTos).mono fun e w' ⟨v,he,h,b'⟩=>⟨_,he,b',h.read⟩
  have CX:∃p w',Below W.heap.size W w'∧RowsV w' (predsF f) p:=by
   obtain⟨_,w3,v3,_,b3,h3⟩:=calls_exist (CP W (Below.refl _ _))
   exact⟨v3,w3,b3,h3⟩
  have xs:=fun(w:World) (b:Below W.heap.size W w)=>And.intro ((X1.out.below b).2 0 _ rfl) (And.intro ((X1.out.below b).2 1 _ rfl) (And.intro ((X1.out.below b).2 2 _ rfl) (And.intro ((X1.out.below b).2 3 _ rfl) ((X1.out.below b).2 4 _ rfl))))
  clear hF hT hgd hl hFul hTos h0 h0' HKk HSh HLe
  go_upto_region 4 with fail
  clear z0 z1
  by_cases hz:0 < l.length
  ·have HR:Hid (c=14):=hide (by rw [HFc.out,HRb.out,decide_eq_false (show ¬l.length=0 by omega)];simp)
   refine Mix.wp_region_mix (flwUp (.agg #[.string nm,.slice lp lps cp,.int .i64 rt,.slice lb lbs cb,.int .i64 pl]) (.slice lb lbs cb) f l q lbs true false) (by kernel_rfl) (by kernel_rfl) ?_
   refine Mix.mix_step rfl (valid_eq (.agg #[.string nm,.slice lp lps cp,.int .i64 rt,.slice lb lbs cb,.int .i64 pl]) rfl) ?_ ?_
   ·intro w b k
    obtain⟨x0,x1,x2,x3,x4⟩:=xs w b
    clear k
    simp [go_sem,x0,x1,x2,x3,x4]
    exact⟨Below.refl _ _,fun d hd=>by cases hd;rfl⟩
   rintro v ⟨_,_,h⟩
   obtain rfl:v=(.agg #[.string nm,.slice lp lps cp,.int .i64 rt,.slice lb lbs cb,.int .i64 pl]):=h _ rfl
   clear h
   simp only [Act.put,sU1,sU2,sU3]
   refine Mix.mix_step rfl (valid_of (CP W (Below.refl _ _))) ?_ ?_
   ·intro w b k
    clear k
    simp [go_sem]
    exact Calls.mono (CP w b) fun e w' ⟨v,he,hb,hf⟩=>⟨v,he,hb,fun d hd=>by cases hd;exact hf⟩
   rintro p12 -
   simp only [Act.put,sU1,sU2,sU3]
   refine Mix.mix_step rfl (by
    obtain⟨pv,w',b,h⟩:=CX
    obtain⟨g,o,c,u,_,hg,hu,hi⟩:=rows_first h HL.out
    exact⟨.pointer (some ⟨g,o,none⟩),w',b,fun d hd=>by cases hd;exact⟨g,o,u,rfl,hg,hu,hi⟩⟩) ?_ ?_
   ·intro w b k
    have f12:RowsV w (predsF f) p12:=k 12 (by decide +kernel) (by simp [Mix.add]) p12 rfl
    obtain⟨g,o,c,u,rfl,hg,hu,hi⟩:=rows_first f12 HL.out
    clear k
    simp [go_sem,hpl]
    exact⟨Below.refl _ _,fun d hd=>by cases hd;exact⟨g,o,u,rfl,hg,hu,hi⟩⟩
   rintro p13 -
   simp only [Act.put,sU1,sU2,sU3]
   refine Mix.mix_step rfl (by
    obtain⟨pv,w',b,h⟩:=CX
    obtain⟨g,o,c,u,_,hg,hu,hi⟩:=rows_first h HL.out
    exact⟨u,w',b,fun d hd=>by cases hd;exact hi⟩) ?_ ?_
   ·intro w b k
    have f13:PtrI w l p13:=k 13 (by decide +kernel) (by simp [Mix.add]) p13 rfl
    obtain⟨g,o,u,rfl,hg,hu,hi⟩:=f13
    clear k
    obtain⟨so,sc,rfl,hi2⟩:=id hi
    simp [go_sem,hu]
    exact⟨Below.refl _ _,fun d hd=>by cases hd;exact hi⟩
   rintro p14 -
   simp only [Act.put,sU1,sU2,sU3]
   refine Mix.mix_step rfl (valid_eq (.int .i64 l.length) rfl) ?_ ?_
   ·intro w b k
    have f14:IntsV w l p14:=k 14 (by decide +kernel) (by simp [Mix.add]) p14 rfl
    obtain⟨so,sc,rfl,_,_,_⟩:=f14
    clear k
    simp [go_sem]
    exact⟨Below.refl _ _,fun d hd=>by cases hd;rfl⟩
   rintro v ⟨_,_,h⟩
   obtain rfl:v=(.int .i64 l.length):=h _ rfl
   clear h
   simp only [Act.put,sU1,sU2,sU3]
   refine Mix.mix_step rfl (valid_eq (.bool true) rfl) ?_ ?_
   ·intro w b k
    clear k
    simp [go_sem,hz]
    exact⟨Below.refl _ _,fun d hd=>by cases hd;rfl⟩
   rintro v ⟨_,_,h⟩
   obtain rfl:v=(.bool true):=h _ rfl
   clear h
   simp only [Act.put,sU1,sU2,sU3]
   refine Mix.mix_step rfl (valid_eq (.bool true) rfl) ?_ ?_
   ·intro w b k
    clear k
    simp [go_sem]
    exact⟨Below.refl _ _,fun d hd=>by cases hd;rfl⟩
   rintro v ⟨_,_,h⟩
   obtain rfl:v=(.bool true):=h _ rfl
   clear h
   simp only [Act.put,sU1,sU2,sU3]
   refine Mix.mix_skip rfl ?_
   simp only [Act.put,sU1,sU2,sU3]
   refine Mix.mix_skip rfl ?_
   simp only [Act.put,sU1,sU2,sU3]
   refine Mix.mix_skip rfl ?_
   simp only [Act.put,sU1,sU2,sU3]
   refine Mix.mix_skip rfl ?_
   simp only [Act.put,sU1,sU2,sU3]
   refine Mix.mix_skip rfl ?_
   simp only [Act.put,sU1,sU2,sU3]
   refine Mix.mix_skip rfl ?_
   simp only [Act.put,sU1,sU2,sU3]
   refine Mix.mix_skip rfl ?_
   simp only [Act.put,sU1,sU2,sU3]
   refine Mix.mix_step rfl (valid_eq (.bool (true || false)) rfl) ?_ ?_
   ·intro w b k
    clear k
    simp [go_sem]
    exact⟨Below.refl _ _,fun d hd=>by cases hd;rfl⟩
   rintro v ⟨_,_,h⟩
   obtain rfl:v=(.bool (true || false)):=h _ rfl
   clear h
   simp only [Act.put,sU1,sU2,sU3]
   refine Mix.mix_nil ?_
   intro w2 b2 hk
   clear CO CP CX xs hk HCo HCp
   have HE:Hid (Below q w0 w2):=hide (by have h:=below_step (show Below w0.heap.size w0 W by rw [hq];exact B1.out) b2;rw [hq] at h;exact h)
   go_wp2_with fail
   go_ret
   exact⟨by rw [HR.out];rfl,by first | exact HE.out | (rw [hq];exact HE.out)⟩
  ·by_cases ho:(orderF f).length < lbs
   ·have HR:Hid (c=14):=hide (by rw [HFc.out,HRb.out,decide_eq_false (show ¬(orderF f).length=lbs by omega)];simp)
    refine Mix.wp_region_mix (flwUp (.agg #[.string nm,.slice lp lps cp,.int .i64 rt,.slice lb lbs cb,.int .i64 pl]) (.slice lb lbs cb) f l q lbs false true) (by kernel_rfl) (by kernel_rfl) ?_
    refine Mix.mix_step rfl (valid_eq (.agg #[.string nm,.slice lp lps cp,.int .i64 rt,.slice lb lbs cb,.int .i64 pl]) rfl) ?_ ?_
    ·intro w b k
     obtain⟨x0,x1,x2,x3,x4⟩:=xs w b
     clear k
     simp [go_sem,x0,x1,x2,x3,x4]
     exact⟨Below.refl _ _,fun d hd=>by cases hd;rfl⟩
    rintro v ⟨_,_,h⟩
    obtain rfl:v=(.agg #[.string nm,.slice lp lps cp,.int .i64 rt,.slice lb lbs cb,.int .i64 pl]):=h _ rfl
    clear h
    simp only [Act.put,sU1,sU2,sU3]
    refine Mix.mix_step rfl (valid_of (CP W (Below.refl _ _))) ?_ ?_
    ·intro w b k
     clear k
     simp [go_sem]
     exact Calls.mono (CP w b) fun e w' ⟨v,he,hb,hf⟩=>⟨v,he,hb,fun d hd=>by cases hd;exact hf⟩
    rintro p12 -
    simp only [Act.put,sU1,sU2,sU3]
    refine Mix.mix_step rfl (by
     obtain⟨pv,w',b,h⟩:=CX
     obtain⟨g,o,c,u,_,hg,hu,hi⟩:=rows_first h HL.out
     exact⟨.pointer (some ⟨g,o,none⟩),w',b,fun d hd=>by cases hd;exact⟨g,o,u,rfl,hg,hu,hi⟩⟩) ?_ ?_
    ·intro w b k
     have f12:RowsV w (predsF f) p12:=k 12 (by decide +kernel) (by simp [Mix.add]) p12 rfl
     obtain⟨g,o,c,u,rfl,hg,hu,hi⟩:=rows_first f12 HL.out
     clear k
     simp [go_sem,hpl]
     exact⟨Below.refl _ _,fun d hd=>by cases hd;exact⟨g,o,u,rfl,hg,hu,hi⟩⟩
    rintro p13 -
    simp only [Act.put,sU1,sU2,sU3]
    refine Mix.mix_step rfl (by
     obtain⟨pv,w',b,h⟩:=CX
     obtain⟨g,o,c,u,_,hg,hu,hi⟩:=rows_first h HL.out
     exact⟨u,w',b,fun d hd=>by cases hd;exact hi⟩) ?_ ?_
    ·intro w b k
     have f13:PtrI w l p13:=k 13 (by decide +kernel) (by simp [Mix.add]) p13 rfl
     obtain⟨g,o,u,rfl,hg,hu,hi⟩:=f13
     clear k
     obtain⟨so,sc,rfl,hi2⟩:=id hi
     simp [go_sem,hu]
     exact⟨Below.refl _ _,fun d hd=>by cases hd;exact hi⟩
    rintro p14 -
    simp only [Act.put,sU1,sU2,sU3]
    refine Mix.mix_step rfl (valid_eq (.int .i64 l.length) rfl) ?_ ?_
    ·intro w b k
     have f14:IntsV w l p14:=k 14 (by decide +kernel) (by simp [Mix.add]) p14 rfl
     obtain⟨so,sc,rfl,_,_,_⟩:=f14
     clear k
     simp [go_sem]
     exact⟨Below.refl _ _,fun d hd=>by cases hd;rfl⟩
    rintro v ⟨_,_,h⟩
    obtain rfl:v=(.int .i64 l.length):=h _ rfl
    clear h
    simp only [Act.put,sU1,sU2,sU3]
    refine Mix.mix_step rfl (valid_eq (.bool false) rfl) ?_ ?_
    ·intro w b k
     clear k
     simp [go_sem,hz]
     exact⟨Below.refl _ _,fun d hd=>by cases hd;rfl⟩
    rintro v ⟨_,_,h⟩
    obtain rfl:v=(.bool false):=h _ rfl
    clear h
    simp only [Act.put,sU1,sU2,sU3]
    refine Mix.mix_step rfl (valid_eq (.bool false) rfl) ?_ ?_
    ·intro w b k
     clear k
     simp [go_sem]
     exact⟨Below.refl _ _,fun d hd=>by cases hd;rfl⟩
    rintro v ⟨_,_,h⟩
    obtain rfl:v=(.bool false):=h _ rfl
    clear h
    simp only [Act.put,sU1,sU2,sU3]
    refine Mix.mix_step rfl (valid_eq (.agg #[.string nm,.slice lp lps cp,.int .i64 rt,.slice lb lbs cb,.int .i64 pl]) rfl) ?_ ?_
    ·intro w b k
     obtain⟨x0,x1,x2,x3,x4⟩:=xs w b
     clear k
     simp [go_sem,x0,x1,x2,x3,x4]
     exact⟨Below.refl _ _,fun d hd=>by cases hd;rfl⟩
    rintro v ⟨_,_,h⟩
    obtain rfl:v=(.agg #[.string nm,.slice lp lps cp,.int .i64 rt,.slice lb lbs cb,.int .i64 pl]):=h _ rfl
    clear h
    simp only [Act.put,sU1,sU2,sU3]
    refine Mix.mix_step rfl (valid_of (CO W (Below.refl _ _))) ?_ ?_
    ·intro w b k
     clear k
     simp [go_sem]
     exact Calls.mono (CO w b) fun e w' ⟨v,he,hb,hf⟩=>⟨v,he,hb,fun d hd=>by cases hd;exact hf⟩
    rintro p19 -
    simp only [Act.put,sU1,sU2,sU3]
    refine Mix.mix_step rfl (valid_eq (.int .i64 (orderF f).length) rfl) ?_ ?_
    ·intro w b k
     have f19:IntsV w (orderF f) p19:=k 19 (by decide +kernel) (by simp [Mix.add]) p19 rfl
     obtain⟨so,sc,rfl,_,_,_⟩:=f19
     clear k
     simp [go_sem]
     exact⟨Below.refl _ _,fun d hd=>by cases hd;rfl⟩
    rintro v ⟨_,_,h⟩
    obtain rfl:v=(.int .i64 (orderF f).length):=h _ rfl
    clear h
    simp only [Act.put,sU1,sU2,sU3]
    refine Mix.mix_step rfl (valid_eq (.pointer (some ⟨q,3,none⟩)) rfl) ?_ ?_
    ·intro w b k
     clear k
     simp [go_sem]
     exact⟨Below.refl _ _,fun d hd=>by cases hd;rfl⟩
    rintro v ⟨_,_,h⟩
    obtain rfl:v=(.pointer (some ⟨q,3,none⟩)):=h _ rfl
    clear h
    simp only [Act.put,sU1,sU2,sU3]
    refine Mix.mix_step rfl (valid_eq (.slice lb lbs cb) rfl) ?_ ?_
    ·intro w b k
     obtain⟨x0,x1,x2,x3,x4⟩:=xs w b
     clear k
     simp [go_sem,x3]
     exact⟨Below.refl _ _,fun d hd=>by cases hd;rfl⟩
    rintro v ⟨_,_,h⟩
    obtain rfl:v=(.slice lb lbs cb):=h _ rfl
    clear h
    simp only [Act.put,sU1,sU2,sU3]
    refine Mix.mix_step rfl (valid_eq (.int .i64 lbs) rfl) ?_ ?_
    ·intro w b k
     clear k
     simp [go_sem]
     exact⟨Below.refl _ _,fun d hd=>by cases hd;rfl⟩
    rintro v ⟨_,_,h⟩
    obtain rfl:v=(.int .i64 lbs):=h _ rfl
    clear h
    simp only [Act.put,sU1,sU2,sU3]
    refine Mix.mix_step rfl (valid_eq (.bool true) rfl) ?_ ?_
    ·intro w b k
     clear k
     simp [go_sem,ho]
     exact⟨Below.refl _ _,fun d hd=>by cases hd;rfl⟩
    rintro v ⟨_,_,h⟩
    obtain rfl:v=(.bool true):=h _ rfl
    clear h
    simp only [Act.put,sU1,sU2,sU3]
    refine Mix.mix_step rfl (valid_eq (.bool (false || true)) rfl) ?_ ?_
    ·intro w b k
     clear k
     simp [go_sem]
     exact⟨Below.refl _ _,fun d hd=>by cases hd;rfl⟩
    rintro v ⟨_,_,h⟩
    obtain rfl:v=(.bool (false || true)):=h _ rfl
    clear h
    simp only [Act.put,sU1,sU2,sU3]
    refine Mix.mix_nil ?_
    intro w2 b2 hk
    clear CO CP CX xs hk HCo HCp
    have HE:Hid (Below q w0 w2):=hide (by have h:=below_step (show Below w0.heap.size w0 W by rw [hq];exact B1.out) b2;rw [hq] at h;exact h)
    go_wp2_with fail
    go_ret
    exact⟨by rw [HR.out];rfl,by first | exact HE.out | (rw [hq];exact HE.out)⟩
   ·have HR:Hid (c=0):=hide (by rw [HFc.out,HRb.out,decide_eq_true (show(orderF f).length=lbs by omega),decide_eq_true (show l.length=0 by omega)];simp)
    refine Mix.wp_region_mix (flwUp (.agg #[.string nm,.slice lp lps cp,.int .i64 rt,.slice lb lbs cb,.int .i64 pl]) (.slice lb lbs cb) f l q lbs false false) (by kernel_rfl) (by kernel_rfl) ?_
    refine Mix.mix_step rfl (valid_eq (.agg #[.string nm,.slice lp lps cp,.int .i64 rt,.slice lb lbs cb,.int .i64 pl]) rfl) ?_ ?_
    ·intro w b k
     obtain⟨x0,x1,x2,x3,x4⟩:=xs w b
     clear k
     simp [go_sem,x0,x1,x2,x3,x4]
     exact⟨Below.refl _ _,fun d hd=>by cases hd;rfl⟩
    rintro v ⟨_,_,h⟩
    obtain rfl:v=(.agg #[.string nm,.slice lp lps cp,.int .i64 rt,.slice lb lbs cb,.int .i64 pl]):=h _ rfl
    clear h
    simp only [Act.put,sU1,sU2,sU3]
    refine Mix.mix_step rfl (valid_of (CP W (Below.refl _ _))) ?_ ?_
    ·intro w b k
     clear k
     simp [go_sem]
     exact Calls.mono (CP w b) fun e w' ⟨v,he,hb,hf⟩=>⟨v,he,hb,fun d hd=>by cases hd;exact hf⟩
    rintro p12 -
    simp only [Act.put,sU1,sU2,sU3]
    refine Mix.mix_step rfl (by
     obtain⟨pv,w',b,h⟩:=CX
     obtain⟨g,o,c,u,_,hg,hu,hi⟩:=rows_first h HL.out
     exact⟨.pointer (some ⟨g,o,none⟩),w',b,fun d hd=>by cases hd;exact⟨g,o,u,rfl,hg,hu,hi⟩⟩) ?_ ?_
    ·intro w b k
     have f12:RowsV w (predsF f) p12:=k 12 (by decide +kernel) (by simp [Mix.add]) p12 rfl
     obtain⟨g,o,c,u,rfl,hg,hu,hi⟩:=rows_first f12 HL.out
     clear k
     simp [go_sem,hpl]
     exact⟨Below.refl _ _,fun d hd=>by cases hd;exact⟨g,o,u,rfl,hg,hu,hi⟩⟩
    rintro p13 -
    simp only [Act.put,sU1,sU2,sU3]
    refine Mix.mix_step rfl (by
     obtain⟨pv,w',b,h⟩:=CX
     obtain⟨g,o,c,u,_,hg,hu,hi⟩:=rows_first h HL.out
     exact⟨u,w',b,fun d hd=>by cases hd;exact hi⟩) ?_ ?_
    ·intro w b k
     have f13:PtrI w l p13:=k 13 (by decide +kernel) (by simp [Mix.add]) p13 rfl
     obtain⟨g,o,u,rfl,hg,hu,hi⟩:=f13
     clear k
     obtain⟨so,sc,rfl,hi2⟩:=id hi
     simp [go_sem,hu]
     exact⟨Below.refl _ _,fun d hd=>by cases hd;exact hi⟩
    rintro p14 -
    simp only [Act.put,sU1,sU2,sU3]
    refine Mix.mix_step rfl (valid_eq (.int .i64 l.length) rfl) ?_ ?_
    ·intro w b k
     have f14:IntsV w l p14:=k 14 (by decide +kernel) (by simp [Mix.add]) p14 rfl
     obtain⟨so,sc,rfl,_,_,_⟩:=f14
     clear k
     simp [go_sem]
     exact⟨Below.refl _ _,fun d hd=>by cases hd;rfl⟩
    rintro v ⟨_,_,h⟩
    obtain rfl:v=(.int .i64 l.length):=h _ rfl
    clear h
    simp only [Act.put,sU1,sU2,sU3]
    refine Mix.mix_step rfl (valid_eq (.bool false) rfl) ?_ ?_
    ·intro w b k
     clear k
     simp [go_sem,hz]
     exact⟨Below.refl _ _,fun d hd=>by cases hd;rfl⟩
    rintro v ⟨_,_,h⟩
    obtain rfl:v=(.bool false):=h _ rfl
    clear h
    simp only [Act.put,sU1,sU2,sU3]
    refine Mix.mix_step rfl (valid_eq (.bool false) rfl) ?_ ?_
    ·intro w b k
     clear k
     simp [go_sem]
     exact⟨Below.refl _ _,fun d hd=>by cases hd;rfl⟩
    rintro v ⟨_,_,h⟩
    obtain rfl:v=(.bool false):=h _ rfl
    clear h
    simp only [Act.put,sU1,sU2,sU3]
    refine Mix.mix_step rfl (valid_eq (.agg #[.string nm,.slice lp lps cp,.int .i64 rt,.slice lb lbs cb,.int .i64 pl]) rfl) ?_ ?_
    ·intro w b k
     obtain⟨x0,x1,x2,x3,x4⟩:=xs w b
     clear k
     simp [go_sem,x0,x1,x2,x3,x4]
     exact⟨Below.refl _ _,fun d hd=>by cases hd;rfl⟩
    rintro v ⟨_,_,h⟩
    obtain rfl:v=(.agg #[.string nm,.slice lp lps cp,.int .i64 rt,.slice lb lbs cb,.int .i64 pl]):=h _ rfl
    clear h
    simp only [Act.put,sU1,sU2,sU3]
    refine Mix.mix_step rfl (valid_of (CO W (Below.refl _ _))) ?_ ?_
    ·intro w b k
     clear k
     simp [go_sem]
     exact Calls.mono (CO w b) fun e w' ⟨v,he,hb,hf⟩=>⟨v,he,hb,fun d hd=>by cases hd;exact hf⟩
    rintro p19 -
    simp only [Act.put,sU1,sU2,sU3]
    refine Mix.mix_step rfl (valid_eq (.int .i64 (orderF f).length) rfl) ?_ ?_
    ·intro w b k
     have f19:IntsV w (orderF f) p19:=k 19 (by decide +kernel) (by simp [Mix.add]) p19 rfl
     obtain⟨so,sc,rfl,_,_,_⟩:=f19
     clear k
     simp [go_sem]
     exact⟨Below.refl _ _,fun d hd=>by cases hd;rfl⟩
    rintro v ⟨_,_,h⟩
    obtain rfl:v=(.int .i64 (orderF f).length):=h _ rfl
    clear h
    simp only [Act.put,sU1,sU2,sU3]
    refine Mix.mix_step rfl (valid_eq (.pointer (some ⟨q,3,none⟩)) rfl) ?_ ?_
    ·intro w b k
     clear k
     simp [go_sem]
     exact⟨Below.refl _ _,fun d hd=>by cases hd;rfl⟩
    rintro v ⟨_,_,h⟩
    obtain rfl:v=(.pointer (some ⟨q,3,none⟩)):=h _ rfl
    clear h
    simp only [Act.put,sU1,sU2,sU3]
    refine Mix.mix_step rfl (valid_eq (.slice lb lbs cb) rfl) ?_ ?_
    ·intro w b k
     obtain⟨x0,x1,x2,x3,x4⟩:=xs w b
     clear k
     simp [go_sem,x3]
     exact⟨Below.refl _ _,fun d hd=>by cases hd;rfl⟩
    rintro v ⟨_,_,h⟩
    obtain rfl:v=(.slice lb lbs cb):=h _ rfl
    clear h
    simp only [Act.put,sU1,sU2,sU3]
    refine Mix.mix_step rfl (valid_eq (.int .i64 lbs) rfl) ?_ ?_
    ·intro w b k
     clear k
     simp [go_sem]
     exact⟨Below.refl _ _,fun d hd=>by cases hd;rfl⟩
    rintro v ⟨_,_,h⟩
    obtain rfl:v=(.int .i64 lbs):=h _ rfl
    clear h
    simp only [Act.put,sU1,sU2,sU3]
    refine Mix.mix_step rfl (valid_eq (.bool false) rfl) ?_ ?_
    ·intro w b k
     clear k
     simp [go_sem,ho]
     exact⟨Below.refl _ _,fun d hd=>by cases hd;rfl⟩
    rintro v ⟨_,_,h⟩
    obtain rfl:v=(.bool false):=h _ rfl
    clear h
    simp only [Act.put,sU1,sU2,sU3]
    refine Mix.mix_step rfl (valid_eq (.bool (false || false)) rfl) ?_ ?_
    ·intro w b k
     clear k
     simp [go_sem]
     exact⟨Below.refl _ _,fun d hd=>by cases hd;rfl⟩
    rintro v ⟨_,_,h⟩
    obtain rfl:v=(.bool (false || false)):=h _ rfl
    clear h
    simp only [Act.put,sU1,sU2,sU3]
    refine Mix.mix_nil ?_
    intro w2 b2 hk
    clear CO CP CX xs hk HCo HCp
    have HE:Hid (Below q w0 w2):=hide (by have h:=below_step (show Below w0.heap.size w0 W by rw [hq];exact B1.out) b2;rw [hq] at h;exact h)
    go_wp2_with fail
    go_ret
    exact⟨by rw [HR.out];rfl,by first | exact HE.out | (rw [hq];exact HE.out)⟩
 ·have HR:Hid (c=s1):=hide (by rw [HFc.out,if_pos hs0])
  go_wp2_with fail
  go_ret
  exact⟨by rw [HR.out];rfl,by first | exact B1.out | (rw [hq];exact B1.out)⟩
end Go.Proofs.YtljkgcfnoegibaaGreatDoor
