/- Texts of one chain, joined. -/
import Derived.Test.YtljkgcfnoegibaaGreatDoorWcAG
import Derived.Test.YtljkgcfnoegibaaGreatDoorWcAI
import Derived.Test.YtljkgcfnoegibaaGreatDoorWcBF
import Derived.Test.YtljkgcfnoegibaaGreatDoorWcBT
set_option maxHeartbeats 8000000
set_option maxRecDepth 20000
namespace Go.Proofs.YtljkgcfnoegibaaGreatDoor
open Go Go.RowKit
open G (Tok Er Ins Fun)
def ApF (f:Fun):Prop:=0 < f.2.2.2.1.length∧Mod f∧f.2.1.length≤1000000∧∀b∈f.2.2.2.1,b≠ []∧∀x∈b,x.2.2.2.2.1.length≤1000000∧x.2.2.2.2.2.1.length≤1000000
theorem find11_any (p:List Fun) (nm:List UInt8) (po:Option Addr) (pc:Nat) (w:World) (hp:ProgR w p (.slice po p.length pc)) (hl:p.length≤1000000) (hA:∀f∈p,ApF f):
  Calls Tryz.prog 12 #[.agg #[.slice po p.length pc],.string (bs nm)] w fun e w'=>(∃fv,e= .returned (.tuple #[fv,.bool (findF p nm).isSome])∧FunV w' ((findF p nm).getD fun0) fv)∧Below w.heap.size w w':=by
 have HFs:=hide (find_std p nm)
 have CS:=hide (fun w' (b:Below w.heap.size w w')=>stands_any11 p nm po pc w' (hp.below b) hl)
 have HRd:Hid (∀w' i,Below w.heap.size w w'→i < p.length→∃g o,po=some ⟨g,o,none⟩∧FunR w' (funN p i) g (o+i * 5)):=hide (fun w' i b hi=>prog_fun (hp.below b) hi)
 have HSl:Hid (∀k,stdO p nm=some k→k < p.length):=hide (fun k h=>std_lt h)
 have HAp:=hide (fun i (hi:i < p.length)=>hA (funN p i) (List.mem_of_getElem? (funN_at hi)))
 clear hp hA
 obtain⟨r,hr⟩:∃r,findF p nm=r:=⟨_,rfl⟩
 rw [hr] at HFs ⊢
 clear hr
 have HStd:Hid (stdI p nm=match stdO p nm with
  |none=> -1
  |some i=>i):=hide rfl
 obtain⟨sv,hsv⟩:∃sv,stdI p nm=sv:=⟨_,rfl⟩
 rw [hsv] at CS HStd
 clear hsv
 obtain⟨pn,hpn⟩:∃n,p.length=n:=⟨_,rfl⟩
 rw [hpn] at CS HRd HSl HAp ⊢
 clear hpn
 obtain⟨b0,h0,h1⟩:=box2 w (.cells #[.slice po pn pc] 24) (.cells #[.string ⟨#[]⟩,.slice none 0 0,.int .i64 0,.slice none 0 0,.int .i64 0] 36)
 have H0:=hide h0
 have H1:=hide h1
 have B0:=hide b0
 clear b0 h0 h1
 go_enter Tryz.func12,Tryz.ntmps12
 go_upto_region 1 with fail
 show Code.wp _ _ _ _ ((w.alloc (.cells #[.slice po pn pc] 24)).alloc (.cells #[.string ⟨#[]⟩,.slice none 0 0,.int .i64 0,.slice none 0 0,.int .i64 0] 36))
 generalize (w.alloc (.cells #[.slice po pn pc] 24)).alloc (.cells #[.string ⟨#[]⟩,.slice none 0 0,.int .i64 0,.slice none 0 0,.int .i64 0] 36)=W at *
 have c0:=(one_at H0.out).1
 have hz0:=(one_at H0.out).2
 have hz1:=(five_at H1.out).2.2
 have C1:=hide (CS.out W B0.out)
 generalize hnm:bs nm=bnm at *
 clear CS
 go_wp2_with fail
 refine C1.out.mono ?_;rintro e w1 ⟨rfl,b1⟩
 have B1:=hide (below_step B0.out b1)
 have K0:=hide ((b1.block _ hz0).trans H0.out)
 have K1:=hide ((b1.block _ hz1).trans H1.out)
 clear b1 c0 C1 H0 H1 B0
 have hle:w.heap.size≤w.heap.size+1:=Nat.le_succ _
 have c0:=(one_at K0.out).1
 cases hso:stdO p nm with
 |none=>
  have hsv:sv= -1:=by rw [HStd.out,hso]
  have HR:Hid (r=none):=hide (by rw [HFs.out,hso];rfl)
  obtain⟨⟨z0,z1,z2,z3,z4⟩,⟨f0,f1,f2,f3,f4⟩,_⟩:=five_at K1.out
  have HE:Hid (Below w.heap.size w (((((w1.setCell ⟨w.heap.size+1,0,none⟩ (.string ⟨#[]⟩)).setCell ⟨w.heap.size+1,1,none⟩ (.slice none 0 0)).setCell ⟨w.heap.size+1,2,none⟩ (.int .i64 0)).setCell ⟨w.heap.size+1,3,none⟩ (.slice none 0 0)).setCell ⟨w.heap.size+1,4,none⟩ (.int .i64 0))):=hide ((((((B1.out.setCell (p:=⟨w.heap.size+1,0,none⟩) hle _).setCell (p:=⟨w.heap.size+1,1,none⟩) hle _).setCell (p:=⟨w.heap.size+1,2,none⟩) hle _).setCell (p:=⟨w.heap.size+1,3,none⟩) hle _).setCell (p:=⟨w.heap.size+1,4,none⟩) hle _))
  subst hsv
  clear HStd hso
  go_wp2_with fail
  exact bodyPost_ret (v:= .tuple #[.agg #[.string ⟨#[]⟩,.slice none 0 0,.int .i64 0,.slice none 0 0,.int .i64 0],.bool false]) (by simp [results,Tryz.results12,go_sem,z0,z1,z2,z3,z4]) rfl ⟨⟨_,by rw [HR.out];rfl,by rw [HR.out];exact fun0_val _⟩,HE.out⟩
 |some k=>
  have hsv:sv=(k:Int):=by rw [HStd.out,hso]
  have hk:=HSl.out k hso
  have HR:Hid (r=some (funN p k)):=hide (by rw [HFs.out,hso];rfl)
  subst hsv
  clear HStd hso
  have hkI:(k:Int) < pn:=by omega
  have hkm:¬(k:Int)= -1:=by omega
  obtain⟨g,o,rfl,hfr⟩:=HRd.out w k (Below.refl _ _) hk
  obtain⟨ao,bo,c,cb,hfv,d0,d1,d2,d3,d4⟩:=hfr.val
  have hgl:=hfr.1
  replace d0:=(B1.out.cell (p:=⟨g,o+k * 5,none⟩) hgl).trans d0
  replace d1:=(B1.out.cell (p:=⟨g,o+k * 5+1,none⟩) hgl).trans d1
  replace d2:=(B1.out.cell (p:=⟨g,o+k * 5+2,none⟩) hgl).trans d2
  replace d3:=(B1.out.cell (p:=⟨g,o+k * 5+3,none⟩) hgl).trans d3
  replace d4:=(B1.out.cell (p:=⟨g,o+k * 5+4,none⟩) hgl).trans d4
  obtain⟨hp1,hp2,hp3,hp4⟩:=HAp.out k hk
  have C2:=hide (apart_any (funN p k) _ w w1 B1.out hfv hp1 hp2 hp3 hp4)
  obtain⟨f,hf⟩:∃f,funN p k=f:=⟨_,rfl⟩
  rw [hf] at d0 d1 d2 d3 d4 C2 HR
  clear hf hfr hfv hp1 hp2 hp3 hp4 HAp HRd HSl
  generalize f.2.1.length=fl at *
  generalize f.2.2.2.1.length=fbl at *
  obtain⟨fnm,hfn⟩:∃n,bs f.1=n:=⟨_,rfl⟩
  rw [hfn] at d0 C2
  replace hfn:=hide hfn
  go_wp2_with fail
  refine C2.out.mono ?_;rintro e w2 ⟨v2,rfl,hv2,b2⟩
  have HV2:=hide hv2
  obtain⟨vp,vb,rfl,hi2,hb2⟩:=hv2 w2 (Nat.le_refl _) (fun _ _ _=>rfl)
  obtain⟨pa,pcc,rfl,_,_,_⟩:=id hi2
  obtain⟨ba,bc,rfl,_,_,_⟩:=id hb2
  have B2:=hide (below_step B1.out b2)
  have K2:=hide ((b2.block _ (five_at K1.out).2.2).trans K1.out)
  have hw1:w.heap.size+1 < w1.heap.size:=(five_at K1.out).2.2
  clear b2 hi2 hb2 hv2 C2 c0 d0 d1 d2 d3 d4
  obtain⟨⟨z0,z1,z2,z3,z4⟩,⟨f0,f1,f2,f3,f4⟩,_⟩:=five_at K2.out
  obtain⟨fl2,hfl2⟩:∃n,f.2.1.length=n:=⟨_,rfl⟩
  obtain⟨fb2,hfb2⟩:∃n,f.2.2.2.1.length=n:=⟨_,rfl⟩
  obtain⟨fn2,hfn2⟩:∃n,bs f.1=n:=⟨_,rfl⟩
  rw [hfl2,hfb2,hfn2] at HV2 ⊢
  clear hfl2 hfb2 hfn2
  have HE:Hid (Below w.heap.size w (((((w2.setCell ⟨w.heap.size+1,0,none⟩ (.string fn2)).setCell ⟨w.heap.size+1,1,none⟩ (.slice pa fl2 pcc)).setCell ⟨w.heap.size+1,2,none⟩ (.int .i64 f.2.2.1)).setCell ⟨w.heap.size+1,3,none⟩ (.slice ba fb2 bc)).setCell ⟨w.heap.size+1,4,none⟩ (.int .i64 f.2.2.2.2))):=hide ((((((B2.out.setCell (p:=⟨w.heap.size+1,0,none⟩) hle _).setCell (p:=⟨w.heap.size+1,1,none⟩) hle _).setCell (p:=⟨w.heap.size+1,2,none⟩) hle _).setCell (p:=⟨w.heap.size+1,3,none⟩) hle _).setCell (p:=⟨w.heap.size+1,4,none⟩) hle _))
  have HF:Hid (FunV (((((w2.setCell ⟨w.heap.size+1,0,none⟩ (.string fn2)).setCell ⟨w.heap.size+1,1,none⟩ (.slice pa fl2 pcc)).setCell ⟨w.heap.size+1,2,none⟩ (.int .i64 f.2.2.1)).setCell ⟨w.heap.size+1,3,none⟩ (.slice ba fb2 bc)).setCell ⟨w.heap.size+1,4,none⟩ (.int .i64 f.2.2.2.2)) f (.agg #[.string fn2,.slice pa fl2 pcc,.int .i64 f.2.2.1,.slice ba fb2 bc,.int .i64 f.2.2.2.2])):=hide (HV2.out _ (grown_set2 (grown_set2 (grown_set2 (grown_set2 (grown_set w2 ⟨w.heap.size+1,0,none⟩ (.string fn2)) 1 (.slice pa fl2 pcc)) 2 (.int .i64 f.2.2.1)) 3 (.slice ba fb2 bc)) 4 (.int .i64 f.2.2.2.2)).size (fun j hj hn=>(grown_set2 (grown_set2 (grown_set2 (grown_set2 (grown_set w2 ⟨w.heap.size+1,0,none⟩ (.string fn2)) 1 (.slice pa fl2 pcc)) 2 (.int .i64 f.2.2.1)) 3 (.slice ba fb2 bc)) 4 (.int .i64 f.2.2.2.2)).block j hj (by intro e;injection e with e;have e2:j=w.heap.size+1:=e;omega)))
  go_wp2_with fail
  exact bodyPost_ret (v:= .tuple #[.agg #[.string fn2,.slice pa fl2 pcc,.int .i64 f.2.2.1,.slice ba fb2 bc,.int .i64 f.2.2.2.2],.bool true]) (by simp [results,Tryz.results12,go_sem,z0,z1,z2,z3,z4]) rfl ⟨⟨_,by rw [HR.out];rfl,by rw [HR.out];exact HF.out⟩,HE.out⟩
def Cnt1 (p:List Fun) (n a:Nat):Prop:=n=a∨(100 < n∧100 < total p)
theorem size1_try (p:List Fun) (ao:Option Addr) (c:Nat) (w:World) (hp:ProgR w p (.slice ao p.length c)) (h0:p.length≤140737488355328) (hS:∀f∈p,ShF f):
  Calls Tryz.prog 22 #[.agg #[.slice ao p.length c],.int .i64 100] w fun e w'=>(∃n:Nat,e= .returned (.int .i64 n)∧Cnt1 p n (total p))∧Below w.heap.size w w':=by
 have b0:=below_box w (.cells #[.slice ao p.length c] 24)
 have H0:=hide (heap_alloc_new w (.cells #[.slice ao p.length c] 24))
 have hz0:(w.alloc (.cells #[.slice ao p.length c] 24)).heap.size > w.heap.size:=by simp
 have B0:=hide b0
 have HP:=hide (hp.below b0)
 have HS:=hide hS
 clear b0 hp hS
 go_enter Tryz.func22,Tryz.ntmps22
 go_upto_region 1 with fail
 show Code.wp _ _ _ _ (w.alloc (.cells #[.slice ao p.length c] 24))
 generalize w.alloc (.cells #[.slice ao p.length c] 24)=W at *
 have c0:=cell9 H0.out
 go_wp2_with fail
 clear c0
 go_loopw [5,6] (fun nv i wr=>∃(n K:Nat),n≤1000000000000000∧nv= .int .i64 n∧K≤p.length∧i= .int .i64 K∧Hid (Cnt1 p n (p.length+wFs (p.take K)))∧Hid (Below W.heap.size W wr)) (fun _ i _=>p.length - (intOf i).toNat)
 case atStart=>exact⟨p.length,0,by omega,rfl,Nat.zero_le _,rfl,hide (.inl (by simp [wFs])),hide (Below.refl _ _)⟩
 case round=>
  obtain⟨n,K,hn,rfl,hK,rfl,HC,HW⟩:=hrel
  have c0:=cell9 ((HW.out.block _ hz0).trans H0.out)
  by_cases hkt:K < p.length
  ·have hkI:(K:Int) < p.length:=by omega
   by_cases h150:n≤100
   ·obtain⟨f,hfK⟩:∃f,p[K]? =some f:=⟨p[K],List.getElem?_eq_some_iff.2 ⟨hkt,rfl⟩⟩
    have h150':(n:Int)≤100:=by omega
    have HN:Hid (n=p.length+wFs (p.take K)):=hide (by rcases HC.out with h | h;exact h;omega)
    have HT:=hide (sum_take wF p K f hfK)
    have HTL:=hide (sum_le wF p (K+1))
    obtain⟨ao',c',eq',hh1,hh2,hh3⟩:=HP.out
    injection eq' with e1 e2 e3
    subst e1 e3
    rcases hh3 with hh3 | ⟨gb,ob,rfl,hin⟩
    ·subst hh3;simp at hkt
    obtain⟨aoy,boy,cy,cby,hv,q0,q1,q2,q3,q4⟩:=((hin K f hfK).below HW.out).val
    have HV:=hide hv
    obtain⟨s1,s2,s3,s4⟩:=HS.out f (List.mem_of_getElem? hfK)
    have HSf:=hide s4
    obtain⟨nm,ps,rt,bl,pl⟩:=f
    dsimp only at HV q0 q1 q2 q3 q4 s1 s2 s3 HSf
    have HBL:Hid (BlksR wr bl (.slice boy bl.length cby)):=hide (by
     obtain⟨vp,vb,e,_,h2⟩:=HV.out
     injection e with e
     have e2:=congrArg (fun a=>a[3]?) e
     simp at e2
     rw [e2];exact h2)
    have hnz:(bs nm).size=nm.length:=bs_size nm
    have HNZ:=hide hnz
    clear hin hfK hv hnz s4
    have B7:=hide (below_box wr (.cells #[.string (bs nm),.slice aoy ps.length cy,.int .i64 rt,.slice boy bl.length cby,.int .i64 pl] 36))
    have H7:=hide (heap_alloc_new wr (.cells #[.string (bs nm),.slice aoy ps.length cy,.int .i64 rt,.slice boy bl.length cby,.int .i64 pl] 36))
    have hl7:=hide (Array.getElem?_eq_some_iff.1 H7.out).1
    obtain⟨t0,t1,t2,t3,t4⟩:=box5 H7.out
    have hnb:(bs nm).size≤140737488355328:=by rw [HNZ.out];exact s1
    have HW7:=hide (below_step HW.out B7.out)
    have HBL7:=hide (HBL.out.below B7.out)
    have HQ:Hid (((n:Int)+(bl.length:Int)+(ps.length:Int)+((bs nm).size:Int) / 30)=((n+bl.length+ps.length+nm.length / 30:Nat):Int)):=hide (by rw [HNZ.out];omega)
    have HCF:Hid (Cnt1 p (n+bl.length+ps.length+nm.length / 30) (p.length+wFs (p.take K)+wF0 (nm,ps,rt,bl,pl)+wBs (bl.take 0))):=hide (.inl (by have:=HN.out;simp only [wF0,wBs,List.take_zero,List.map_nil,List.sum_nil];omega))
    have hnn:n+bl.length+ps.length+nm.length / 30≤1000000000000000:=by omega
    clear HBL
    go_wp2_with fail
    clear t0 t1 t2 t3 t4 q0 q1 q2 q3 q4 c0 hnb
    obtain⟨w0,hw0⟩:∃w0,w0=wr.alloc (.cells #[.string (bs nm),.slice aoy ps.length cy,.int .i64 rt,.slice boy bl.length cby,.int .i64 pl] 36):=⟨_,rfl⟩
    rw [←hw0] at H7 HW7 HBL7 hl7 ⊢
    clear hw0 B7
    obtain⟨n1,hn1⟩:∃n1,n1=n+bl.length+ps.length+nm.length / 30:=⟨_,rfl⟩
    rw [←hn1] at HQ HCF hnn
    clear hn1
    go_loopw [5,8] (fun nv i wr'=>∃(n A:Nat),n≤1000000000000000∧nv= .int .i64 n∧A≤bl.length∧i= .int .i64 A∧Hid (Cnt1 p n (p.length+wFs (p.take K)+wF0 (nm,ps,rt,bl,pl)+wBs (bl.take A)))∧Hid (Below w0.heap.size w0 wr')) (fun _ i _=>bl.length - (intOf i).toNat)
    case atStart=>exact⟨n1,0,hnn,by rw [HQ.out],Nat.zero_le _,rfl,HCF,hide (Below.refl _ _)⟩
    case round=>
     obtain⟨n2,A,hn2,rfl,hA,rfl,HCA,HWA⟩:=hrel
     obtain⟨t0,t1,t2,t3,t4⟩:=box5 ((HWA.out.block _ hl7.out).trans H7.out)
     clear t0 t1 t2 t4
     obtain⟨ao2,c2',eq2,hh1,hh2,hh3⟩:=HBL7.out
     injection eq2 with e1 e2 e3
     subst e1 e3
     unfold maxLen at hh2
     by_cases hat:A < bl.length
     ·have haI:(A:Int) < bl.length:=by omega
      by_cases h150a:n2≤100
      ·have h150a':(n2:Int)≤100:=by omega
       have HN2:Hid (n2=p.length+wFs (p.take K)+wF0 (nm,ps,rt,bl,pl)+wBs (bl.take A)):=hide (by rcases HCA.out with h | h;exact h;omega)
       obtain⟨b,hbA⟩:∃b,bl[A]? =some b:=⟨bl[A],List.getElem?_eq_some_iff.2 ⟨hat,rfl⟩⟩
       have HTA:=hide (sum_take wB bl A b hbA)
       have HTLA:=hide (sum_le wB bl (A+1))
       rcases hh3 with hh3 | ⟨gc,oc,rfl,hgc,hbl⟩
       ·subst hh3;simp at hat
       obtain⟨vk,kd,kk⟩:=hbl A b hbA
       have KD:=hide kd
       obtain⟨aok,capk,rfl,lk1,lk2,kins⟩:=kk
       have HSb:=hide (HSf.out b (List.mem_of_getElem? hbA))
       have KI:=hide kins
       have HCB:Hid (Cnt1 p n2 (p.length+wFs (p.take K)+wF0 (nm,ps,rt,bl,pl)+wBs (bl.take A)+wB (b.take 0))):=hide (.inl (by have:=HN2.out;simp only [wB,List.take_zero,List.map_nil,List.sum_nil];omega))
       unfold maxLen at lk2
       clear kins kd hbl hbA HCA
       go_wp2_with fail
       clear t3
       go_loopw [5,9] (fun nv i wr''=>∃(n J:Nat),n≤1000000000000000∧nv= .int .i64 n∧J≤b.length∧i= .int .i64 J∧Hid (Cnt1 p n (p.length+wFs (p.take K)+wF0 (nm,ps,rt,bl,pl)+wBs (bl.take A)+wB (b.take J)))∧Hid (Below w0.heap.size w0 wr'')) (fun _ i _=>b.length - (intOf i).toNat)
       case atStart=>exact⟨n2,0,hn2,rfl,Nat.zero_le _,rfl,HCB,HWA⟩
       case round=>
        obtain⟨n3,J,hn3,rfl,hJ,rfl,HCJ,HWJ⟩:=hrel
        obtain⟨t0,t1,t2,t3,t4⟩:=box5 ((HWJ.out.block _ hl7.out).trans H7.out)
        clear t0 t1 t2 t4
        have kd':=(HWJ.out.cell (p:=⟨gc,oc+A,none⟩) hgc).trans KD.out
        have GREAT:Hid (100 < n3→Cnt1 p n3 (p.length+wFs (p.take K)+wF0 (nm,ps,rt,bl,pl)+wBs (bl.take (A+1)))):=hide fun h=>by
         rcases HCJ.out with h2 | h2
         ·have g1:=HT.out
          have g2:=HTL.out
          have g3:=HTA.out
          have g4:=sum_le wI b J
          have g5:=HTLA.out
          refine .inr ⟨h,?_⟩
          unfold total wFs at *
          unfold wF wBs wB at *
          dsimp only at g1
          omega
         ·exact .inr h2
        by_cases hjt:J < b.length
        ·have hjI:(J:Int) < b.length:=by omega
         by_cases h150b:n3≤100
         ·have h150b':(n3:Int)≤100:=by omega
          have HN3:Hid (n3=p.length+wFs (p.take K)+wF0 (nm,ps,rt,bl,pl)+wBs (bl.take A)+wB (b.take J)):=hide (by rcases HCJ.out with h | h;exact h;omega)
          obtain⟨y,hyJ⟩:∃y,b[J]? =some y:=⟨b[J],List.getElem?_eq_some_iff.2 ⟨hjt,rfl⟩⟩
          have HTJ:=hide (sum_take wI b J y hyJ)
          rcases KI.out with hh | ⟨gi,oi,rfl,hin⟩
          ·subst hh;simp at hjt
          obtain⟨aoz,toz,caz,ctz,hv,r0,r1,r2,r3,r4,r5,r6,r7⟩:=((hin J y hyJ).below HWJ.out).val
          obtain⟨v1,v2,v3⟩:=HSb.out y (List.mem_of_getElem? hyJ)
          obtain⟨op,id,nn,ty,ar,tt,na,pp⟩:=y
          dsimp only at v1 v2 v3 r0 r1 r2 r3 r4 r5 r6 r7
          have HNA:=hide (bs_size na)
          have hnab:(bs na).size≤140737488355328:=by rw [HNA.out];exact v3
          have HQ3:Hid (((n3:Int)+1+(ar.length:Int) / 4+(tt.length:Int) / 4+((bs na).size:Int) / 30)=((n3+1+ar.length / 4+tt.length / 4+na.length / 30:Nat):Int)):=hide (by rw [HNA.out];omega)
          have HC3:Hid (Cnt1 p (n3+1+ar.length / 4+tt.length / 4+na.length / 30) (p.length+wFs (p.take K)+wF0 (nm,ps,rt,bl,pl)+wBs (bl.take A)+wB (b.take (J+1)))):=hide (.inl (by
           have g1:=HN3.out
           have g2:=HTJ.out
           have g3:wI (op,id,nn,ty,ar,tt,na,pp)=1+ar.length / 4+tt.length / 4+na.length / 30:=rfl
           rw [g3] at g2
           unfold wB at *
           omega))
          have hn4:n3+1+ar.length / 4+tt.length / 4+na.length / 30≤1000000000000000:=by omega
          obtain⟨x0,x1,x2,x3,x4,x5,x6,x7⟩:=box8 (heap_alloc_new wr (.cells #[.int .i64 op,.int .i64 id,.int .i64 nn,.int .i64 ty,.slice aoz ar.length caz,.slice toz tt.length ctz,.string (bs na),.int .i64 pp] 47))
          have HW9:=hide (below_step HWJ.out (below_box wr (.cells #[.int .i64 op,.int .i64 id,.int .i64 nn,.int .i64 ty,.slice aoz ar.length caz,.slice toz tt.length ctz,.string (bs na),.int .i64 pp] 47)))
          clear hin hyJ hv
          go_wp2_with fail
          go_roundw
          case rel=>exact⟨_,J+1,hn4,by rw [HQ3.out],by omega,by go_num,HC3,HW9⟩
          case measure=>simp [intOf];omega
         ·have h150b':¬(n3:Int)≤100:=by omega
          have HE:=hide (GREAT.out (by omega))
          go_wp2_with fail
          go_roundw
          case rel=>exact⟨n3,A+1,hn3,rfl,by omega,by go_num,HE,HWJ⟩
          case measure=>simp [intOf];omega
        ·obtain rfl:J=b.length:=by omega
         have HE:Hid (Cnt1 p n3 (p.length+wFs (p.take K)+wF0 (nm,ps,rt,bl,pl)+wBs (bl.take (A+1)))):=hide (by
          have h2:=HCJ.out
          rw [List.take_length] at h2
          have g3:=HTA.out
          have e:wBs (bl.take (A+1))=wBs (bl.take A)+wB b:=g3
          rw [e,←Nat.add_assoc]
          exact h2)
         go_wp2_with fail
         go_roundw
         case rel=>exact⟨n3,A+1,hn3,rfl,by omega,by go_num,HE,HWJ⟩
         case measure=>simp [intOf];omega
      ·have h150a':¬(n2:Int)≤100:=by omega
       have HE:Hid (Cnt1 p n2 (p.length+wFs (p.take (K+1)))):=hide (by
        rcases HCA.out with h2 | h2
        ·have g1:=HT.out
         have g2:=HTL.out
         have g3:=sum_le wB bl A
         refine .inr ⟨by omega,?_⟩
         unfold total wFs at *
         unfold wF wBs at *
         dsimp only at g1
         omega
        ·exact .inr h2)
       have HWF:=hide (below_step HW7.out HWA.out)
       go_wp2_with fail
       go_roundw
       case rel=>exact⟨n2,K+1,hn2,rfl,by omega,by go_num,HE,HWF⟩
       case measure=>simp [intOf];omega
     ·obtain rfl:A=bl.length:=by omega
      have HE:Hid (Cnt1 p n2 (p.length+wFs (p.take (K+1)))):=hide (by
       have h2:=HCA.out
       rw [List.take_length] at h2
       have g1:=HT.out
       have e:wFs (p.take (K+1))=wFs (p.take K)+(wF0 (nm,ps,rt,bl,pl)+wBs bl):=g1
       rw [e,←Nat.add_assoc,←Nat.add_assoc]
       exact h2)
      have HWF:=hide (below_step HW7.out HWA.out)
      go_wp2_with fail
      go_roundw
      case rel=>exact⟨n2,K+1,hn2,rfl,by omega,by go_num,HE,HWF⟩
      case measure=>simp [intOf];omega
   ·have h150':¬(n:Int)≤100:=by omega
    have HE:Hid (Cnt1 p n (total p)):=hide (by
     rcases HC.out with h | h
     ·have:=sum_le wF p K
      exact .inr ⟨by omega,by unfold total wFs at *;omega⟩
     ·exact .inr h)
    go_wp2_with fail
    go_ret
    exact⟨⟨n,rfl,HE.out⟩,below_step B0.out HW.out⟩
  ·obtain rfl:K=p.length:=by omega
   have HE:Hid (Cnt1 p n (total p)):=hide (by have:=HC.out;rwa [List.take_length] at this)
   go_wp2_with fail
   go_ret
   exact⟨⟨n,rfl,HE.out⟩,below_step B0.out HW.out⟩
def lgtP (p:List Fun):Bool:=decide (total p≤100) && p.all fun f=>decide (f.2.2.2.1.length≤12)
theorem light11_any (p:List Fun) (po:Option Addr) (pc:Nat) (w:World) (hp:ProgR w p (.slice po p.length pc)) (hl:p.length≤140737488355328) (hS:∀f∈p,ShF f):
  Calls Tryz.prog 7 #[.agg #[.slice po p.length pc]] w fun e w'=>e= .returned (.int .i64 (if lgtP p then 0 else 1))∧Below w.heap.size w w':=by
 have HL:Hid (lgtP p=(decide (total p≤100) && p.all fun f=>decide (f.2.2.2.1.length≤12))):=hide rfl
 have CS:=hide (fun w' (b:Below w.heap.size w w')=>size1_try p po pc w' (hp.below b) hl hS)
 have HRd:Hid (∀i,i < p.length→∃g o,po=some ⟨g,o,none⟩∧FunR w (funN p i) g (o+i * 5)):=hide (fun i hi=>prog_fun hp hi)
 have HSb:Hid (∀i,i < p.length→(funN p i).2.2.2.1.length≤maxLen):=hide (fun i hi=>by
  obtain⟨g,o,_,hfr⟩:=prog_fun hp hi
  obtain⟨_,vp,vb,_,_,⟨_,_,_,h1,h2,_⟩⟩:=hfr
  exact Nat.le_trans h1 h2)
 have HMm:Hid (∀f∈p,∃i,i < p.length∧funN p i=f):=hide (fun f hf=>by
  obtain⟨i,hi⟩:=List.mem_iff_getElem?.1 hf
  exact⟨i,(List.getElem?_eq_some_iff.1 hi).1,funN_of hi⟩)
 have HMi:Hid (∀i,i < p.length→funN p i∈p):=hide (fun i hi=>List.mem_of_getElem? (funN_at hi))
 clear hp hS
 obtain⟨r,hr⟩:∃r,lgtP p=r:=⟨_,rfl⟩
 rw [hr] at HL ⊢
 clear hr
 obtain⟨rv,HRv⟩:∃rv:Int,Hid ((if r then(0:Int)else 1)=rv):=⟨_,hide rfl⟩
 rw [HRv.out]
 generalize hpn:p.length=pn at *
 replace hpn:=hide hpn
 have B0:=hide (below_box w (.cells #[.slice po pn pc] 24))
 have H1:=hide (heap_alloc_new w (.cells #[.slice po pn pc] 24))
 go_enter Tryz.func7,Tryz.ntmps7
 go_upto_region 1 with fail
 show Code.wp _ _ _ _ (w.alloc (.cells #[.slice po pn pc] 24))
 generalize w.alloc (.cells #[.slice po pn pc] 24)=W at *
 have hq0:w.heap.size < W.heap.size:=(one_at H1.out).2
 have c0:=(one_at H1.out).1
 have C1:=hide (CS.out W B0.out)
 go_wp2_with fail
 refine C1.out.mono ?_;rintro e w1 ⟨⟨n,rfl,hcn⟩,b1⟩
 have BW1:=hide b1
 clear C1 CS c0 b1
 by_cases ht:total p≤100
 ·obtain rfl:n=total p:=by
   rcases hcn with h | h
   ·exact h
   ·omega
  have htI:¬(100:Int) < (total p:Int):=by omega
  have HL2:Hid (r=p.all fun f=>decide (f.2.2.2.1.length≤12)):=hide (by rw [HL.out,decide_eq_true ht];simp)
  clear hcn HL
  generalize total p=tp at *
  go_wp2_with fail
  go_loopw [3] (fun iv wr=>∃i:Nat,i≤pn∧iv= .int .i64 i∧Hid (∀j,j < i→(funN p j).2.2.2.1.length≤12)∧Hid (Below W.heap.size W wr)) (fun iv _=>pn - (intOf iv).toNat)
  case atStart=>exact⟨0,Nat.zero_le _,rfl,hide (fun j h=>absurd h (Nat.not_lt_zero _)),BW1⟩
  case round=>
   clear BW1
   obtain⟨i,hi,rfl,HF,HW⟩:=hrel
   have c0:=(HW.out.cell (p:=⟨w.heap.size,0,none⟩) hq0).trans (one_at H1.out).1
   have Bw:=hide (below_step B0.out HW.out)
   by_cases hit:i < pn
   ·have hiI:(i:Int) < pn:=by omega
    obtain⟨g,o,rfl,hfr⟩:=HRd.out i hit
    obtain⟨_,bo,_,cb,_,_,_,_,d3,_⟩:=hfr.val
    replace d3:=(Bw.out.cell (p:=⟨g,o+i * 5+3,none⟩) hfr.1).trans d3
    have hbl:=HSb.out i hit
    unfold maxLen at hbl
    obtain⟨bn,hbn⟩:∃bn,(funN p i).2.2.2.1.length=bn:=⟨_,rfl⟩
    rw [hbn] at d3 hbl
    clear hfr
    by_cases h12:bn≤12
    ·have h12I:¬(12:Int) < (bn:Int):=by omega
     have HF2:Hid (∀j,j < i+1→(funN p j).2.2.2.1.length≤12):=hide (fun j hj=>by
      by_cases e:j=i
      ·rw [e,hbn];exact h12
      ·exact HF.out j (by omega))
     clear hbn
     go_wp2_with fail
     go_roundw
     case rel=>exact⟨i+1,by omega,by go_num,HF2,HW⟩
     case measure=>simp [intOf];omega
    ·have h12I:(12:Int) < (bn:Int):=by omega
     have HR:Hid ((1:Int)=rv):=hide (by
      have:r=false:=by
       rw [HL2.out,Bool.eq_false_iff]
       intro hall
       have:=List.all_eq_true.1 hall _ (HMi.out i hit)
       rw [hbn] at this
       simp at this
       omega
      rw [←HRv.out,this];rfl)
     clear hbn
     go_wp2_with fail
     go_ret
     exact⟨ret_i HR.out,Bw.out⟩
   ·obtain rfl:i=pn:=by omega
    have HR:Hid ((0:Int)=rv):=hide (by
     have:r=true:=by
      rw [HL2.out]
      refine List.all_eq_true.2 fun f hf=> ?_
      obtain⟨j,hj,rfl⟩:=HMm.out f hf
      simpa using HF.out j hj
     rw [←HRv.out,this];rfl)
    go_wp2_with fail
    go_ret
    exact⟨ret_i HR.out,Bw.out⟩
 ·have hn100:(100:Int) < (n:Int):=by
   rcases hcn with h | h <;> omega
  have HR:Hid ((1:Int)=rv):=hide (by rw [←HRv.out,HL.out,decide_eq_false ht];rfl)
  have HE:=hide (below_step B0.out BW1.out)
  clear hcn
  go_wp2_with fail
  go_ret
  exact⟨ret_i HR.out,HE.out⟩
def Cnd (p:List Fun):Prop:=p.length≤1000000∧(∀f∈p,OkF f)∧(∀f∈p,Mod f∧f.2.1.length≤1000000)∧((wholeF 0 0 p).1=0→∀f∈p,Kept p f∧KeyF f∧∀k,k < f.2.2.2.1.length→∀i,i < (blkN f k).length→KeyX (insN f k i)∧checkC (insN f k i)=0)
def Siz (p:List Fun):Prop:=∀f∈p,f.2.2.2.1.length≤1000000∧f.2.1.length≤1000000∧∀b∈f.2.2.2.1,b.length≤1000000∧∀x∈b,x.2.2.2.2.1.length≤1000000∧x.2.2.2.2.2.1.length≤1000000
theorem mk_small:∀k,k < 30→0≤L5.mk k∧L5.mk k≤3:=by decide +kernel
theorem num_lt (op:Int):L5.num op < 30:=by
 unfold L5.num
 split <;> omega
theorem may_small {op t:Int} (h:L5.may op t=true):0≤t∧t≤3:=by
 unfold L5.may at h
 split at h
 ·simp at h;omega
 ·split at h
  ·simp at h;omega
  ·split at h
   ·simp at h;omega
   ·simp at h;omega
theorem check_parts {x:Ins} (h:checkC x=0):L5.may x.1 x.2.2.2.1=true∧numOk x.1 x.2.1 x.2.2.2.1=true∧x.2.2.2.2.1.any (byd 1048576)=false∧x.2.2.2.2.2.1.any (byd 255)=false:=by
 unfold checkC at h
 by_cases h1:(opOk x.1 && L5.may x.1 x.2.2.2.1)=false
 ·rw [if_pos h1] at h;cases h
 rw [if_neg h1] at h
 by_cases h2:numOk x.1 x.2.1 x.2.2.2.1=false
 ·rw [if_pos h2] at h;cases h
 rw [if_neg h2] at h
 by_cases h3:cntOk x.1 x.2.2.2.2.1.length x.2.2.2.2.2.1.length=false
 ·rw [if_pos h3] at h;cases h
 rw [if_neg h3] at h
 by_cases h4:rngOk x.1 x.2.2.1=false
 ·rw [if_pos h4] at h;cases h
 rw [if_neg h4] at h
 by_cases h5:x.2.2.2.2.1.any (byd 1048576)=true
 ·rw [if_pos h5] at h;cases h
 rw [if_neg h5] at h
 by_cases h6:x.2.2.2.2.2.1.any (byd 255)=true
 ·rw [if_pos h6] at h;cases h
 refine⟨?_,by simpa using h2,by simpa using h5,by simpa using h6⟩
 have:(opOk x.1 && L5.may x.1 x.2.2.2.1)=true:=by simpa using h1
 rw [Bool.and_eq_true] at this
 exact this.2
theorem byd_not {m n:Int} (h:byd m n=false):0≤n∧n≤m:=by
 unfold byd at h
 simp at h
 omega
theorem keyX_of {x:Ins} (h:checkC x=0) (ha:x.2.2.2.2.1.length≤1000000) (ht:x.2.2.2.2.2.1.length≤1000000):KeyX x∧(mkX x≠0→I64 (mkX x)):=by
 obtain⟨h1,h2,h3,h4⟩:=check_parts h
 rw [List.any_eq_false] at h3 h4
 refine⟨⟨fun hm=> ?_,fun a ha'=> ?_,fun a ha'=> ?_,ha,ht⟩,fun _=> ?_⟩
 ·unfold numOk at h2
  unfold mkX at hm
  rw [if_neg hm] at h2
  have:=byd_not (m:=1048576) (n:=x.2.1) (by simpa using h2)
  exact⟨by omega,by omega⟩
 ·have:=byd_not (by simpa using h3 a ha')
  exact⟨by omega,by omega⟩
 ·have:=byd_not (by simpa using h4 a ha')
  exact⟨by omega,by omega⟩
 ·unfold mkX L5.imakes
  split
  ·have:=may_small h1
   exact⟨by omega,by omega⟩
  ·have:=mk_small _ (num_lt x.1)
   exact⟨by omega,by omega⟩
theorem bigL_szB (f:Fun):(bigL f f.2.2.2.1.length 0).length=szB f.2.2.2.1:=by
 unfold bigL szB
 simp only [List.take_length,List.take_zero,List.append_nil,List.length_flatten]
theorem szB_le {p:List Fun} {f:Fun} (hf:f∈p):szB f.2.2.2.1≤szP p:=by
 unfold szP
 induction p with
 |nil=>simp at hf
 |cons g p ih=>
  simp only [List.map_cons,List.sum_cons]
  rcases List.mem_cons.1 hf with rfl | hf
  ·omega
  ·have:=ih hf
   omega
theorem cnd_of {p:List Fun} (hl:p.length≤1000000) (hO:∀f∈p,OkF f) (hS:Siz p):Cnd p:=by
 refine⟨hl,hO,fun f hf=>⟨⟨(hS f hf).1,fun b hb=>((hS f hf).2.2 b hb).1⟩,(hS f hf).2.1⟩,fun hW f hf=> ?_⟩
 have hw:=((whole_iff p 0 0 (by omega) (by omega)).1.1 hW)
 obtain⟨h1,h2⟩:=hw.1 f hf
 have hsz:=hw.2.2
 have hx:∀b∈f.2.2.2.1,∀x∈b,KeyX x∧(mkX x≠0→I64 (mkX x)):=fun b hb x hx=>keyX_of (h2 b hb x hx) (((hS f hf).2.2 b hb).2 x hx).1 (((hS f hf).2.2 b hb).2 x hx).2
 refine⟨kept_of hW (fun g hg=>⟨(hS g hg).1,fun b hb x hx=>(((hS g hg).2.2 b hb).2 x hx).2⟩) f hf,⟨fun t ht=> ?_,fun b hb x hx' hm=>⟨(hx b hb x hx').1.1 hm,(hx b hb x hx').2 hm⟩,?_⟩,fun k hk i hi=> ?_⟩
 ·unfold headC at h1
  split at h1
  ·cases h1
  ·split at h1
   ·cases h1
   ·split at h1
    ·cases h1
    ·rename_i h3
     have hpb:parB f.2.1=false:=by
      cases hp:parB f.2.1 with
      |false=>rfl
      |true=>exact absurd (.inr hp) h3
     unfold parB at hpb
     rw [List.any_eq_false] at hpb
     have:=hpb t ht
     unfold pasB at this
     simp at this
     exact⟨by omega,by omega⟩
 ·have hp8:f.2.1.length≤8:=by
   unfold headC at h1
   split at h1
   ·cases h1
   ·rename_i h3
    omega
  have:=szB_le hf
  rw [bigL_szB]
  omega
 ·have hb:blkN f k∈f.2.2.2.1:=List.mem_of_getElem? (blkN_at hk)
  have hxm:insN f k i∈blkN f k:=List.mem_of_getElem? (insN_at hi)
  exact⟨(hx _ hb _ hxm).1,h2 _ hb _ hxm⟩
theorem sum_mem {α:Type} (g:α→Nat) {l:List α} {x:α} (h:x∈l):g x≤(l.map g).sum:=by
 induction l with
 |nil=>simp at h
 |cons y l ih=>
  simp only [List.map_cons,List.sum_cons]
  rcases List.mem_cons.1 h with rfl | h
  ·omega
  ·have:=ih h
   omega
theorem len_wB (b:List Ins):b.length≤wB b:=by
 unfold wB
 induction b with
 |nil=>simp
 |cons x b ih=>
  simp only [List.length_cons,List.map_cons,List.sum_cons]
  have:1≤wI x:=by unfold wI;omega
  omega
theorem lgt_siz {p:List Fun} (h:lgtP p=true):p.length≤100∧Siz p:=by
 unfold lgtP at h
 simp only [Bool.and_eq_true,decide_eq_true_eq,List.all_eq_true] at h
 obtain⟨h1,h2⟩:=h
 unfold total at h1
 refine⟨by omega,fun f hf=> ?_⟩
 have hf1:wF f≤wFs p:=sum_mem wF hf
 have hf2:wF0 f+wBs f.2.2.2.1≤100:=by unfold wF at hf1;omega
 have h3:=h2 f hf
 refine⟨by omega,by unfold wF0 at hf2;omega,fun b hb=> ?_⟩
 have hb1:wB b≤wBs f.2.2.2.1:=sum_mem wB hb
 refine⟨by have:=len_wB b;omega,fun x hx=> ?_⟩
 have hx1:wI x≤wB b:=sum_mem wI hx
 unfold wI at hx1
 omega
theorem tab_of {w:World} (h:L5.Tab w):Tab w:=h
theorem apF_of {p:List Fun} (hS:Siz p) (hK:∀f∈p,(shapedF f).1=0∧Kept p f):∀f∈p,ApF f:=fun f hf=>by
 obtain⟨h1,h2⟩:=hK f hf
 obtain⟨q1,q2,q3⟩:=h2.1 h1
 exact⟨q3,⟨(hS f hf).1,fun b hb=>((hS f hf).2.2 b hb).1⟩,(hS f hf).2.1,fun b hb=>⟨(q1.2 b hb).1,fun x hx=>((hS f hf).2.2 b hb).2 x hx⟩⟩
end Go.Proofs.YtljkgcfnoegibaaGreatDoor
