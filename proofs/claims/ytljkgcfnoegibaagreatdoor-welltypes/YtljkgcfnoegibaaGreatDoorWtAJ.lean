/- Texts of one chain, joined. -/
import Derived.Test.YtljkgcfnoegibaaGreatDoorWtAF
import Derived.Test.YtljkgcfnoegibaaGreatDoorWtAI
set_option maxHeartbeats 4000000
set_option maxRecDepth 20000
namespace Go.Proofs.YtljkgcfnoegibaaGreatDoor
open Go Go.RowKit
open G (Tok Er Ins Fun noI noB noF)
theorem rints_same (l:List Int) (ao bo:Option Addr) (ca cb:Nat) (w:World) (hl:l.length≤maxLen) (ha:Sl w ao l) (hb:Sl w bo l):
  Calls Tryz.prog 29 #[.slice ao l.length ca,.slice bo l.length cb] w fun e w'=>e= .returned (.bool true)∧Below w.heap.size w w':=by
 unfold maxLen at hl
 have HA:=hide ha
 have HB:=hide hb
 clear ha hb
 go_enter Tryz.func29,Tryz.ntmps29
 go_wp2
 go_loopw [5] (fun i wr=>∃k:Nat,k≤l.length∧i= .int .i64 k∧Below w.heap.size w wr) (fun i _=>l.length - (intOf i).toNat)
 case atStart=>exact⟨0,Nat.zero_le _,rfl,Below.refl _ _⟩
 case round=>
  obtain⟨k,hk,rfl,hB⟩:=hrel
  replace hB:=hide hB
  by_cases hlt:k < l.length
  ·obtain⟨n,hn⟩:∃n,l[k]? =some n:=⟨l[k],List.getElem?_eq_getElem hlt⟩
   rcases HA.out with he | ⟨a,oa,rfl,hal,ha⟩
   ·subst he;simp at hlt
   rcases HB.out with he | ⟨b,ob,rfl,hbl,hb⟩
   ·subst he;simp at hlt
   have hB2:=fun x=>below_step hB.out (L5.grewTo_below wr x)
   have c1:=fun x=>((hB2 x).cell (p:=⟨a,oa+k,none⟩) hal).trans (ha k n hn)
   have c2:=fun x=>((hB2 x).cell (p:=⟨b,ob+k,none⟩) hbl).trans (hb k n hn)
   replace hB2:=hide hB2
   clear ha hb hn
   go_wp2
   refine L5.region_grew (by kernel_rfl) (by kernel_rfl) ?_
   repeat (go_big_quiet_step (fail))
   refine wpQuiet_nil ?_
   rintro _ ⟨x,rfl⟩
   go_wp2_with fail
   go_roundw
   case rel=>exact⟨k+1,by omega,by go_num,hB2.out x⟩
   case measure=>simp [intOf];omega
  ·go_wp2
   go_ret
   exact⟨rfl,hB.out⟩
theorem rsame_ins (op id nn ty pp qq:Int) (ar tt:List Int) (s:ByteArray) (ao to bo uo:Option Addr) (ca ct cb cu:Nat) (w:World) (la:ar.length≤maxLen) (lt:tt.length≤maxLen) (ha:Sl w ao ar) (ht:Sl w to tt) (hb:Sl w bo ar) (hu:Sl w uo tt):
  Calls Tryz.prog 30 #[.agg #[.int .i64 op,.int .i64 id,.int .i64 nn,.int .i64 ty,.slice ao ar.length ca,.slice to tt.length ct,.string s,.int .i64 pp],.agg #[.int .i64 op,.int .i64 id,.int .i64 nn,.int .i64 ty,.slice bo ar.length cb,.slice uo tt.length cu,.string s,.int .i64 qq]] w fun e w'=>e= .returned (.bool true)∧Below w.heap.size w w':=by
 have b0:=below_step (below_box w (.cells #[.int .i64 op,.int .i64 id,.int .i64 nn,.int .i64 ty,.slice ao ar.length ca,.slice to tt.length ct,.string s,.int .i64 pp] 47)) (below_box (w.alloc (.cells #[.int .i64 op,.int .i64 id,.int .i64 nn,.int .i64 ty,.slice ao ar.length ca,.slice to tt.length ct,.string s,.int .i64 pp] 47)) (.cells #[.int .i64 op,.int .i64 id,.int .i64 nn,.int .i64 ty,.slice bo ar.length cb,.slice uo tt.length cu,.string s,.int .i64 qq] 47))
 have B1:=hide (L5.Box.new w [.int .i64 op,.int .i64 id,.int .i64 nn,.int .i64 ty,.slice ao ar.length ca,.slice to tt.length ct,.string s,.int .i64 pp] 47)
 have B2:=hide (B1.out.below (below_box (w.alloc (.cells #[.int .i64 op,.int .i64 id,.int .i64 nn,.int .i64 ty,.slice ao ar.length ca,.slice to tt.length ct,.string s,.int .i64 pp] 47)) (.cells #[.int .i64 op,.int .i64 id,.int .i64 nn,.int .i64 ty,.slice bo ar.length cb,.slice uo tt.length cu,.string s,.int .i64 qq] 47)))
 have B3:Hid (L5.Box _ (w.heap.size+1) _):=hide (by
  have:=L5.Box.new (w.alloc (.cells #[.int .i64 op,.int .i64 id,.int .i64 nn,.int .i64 ty,.slice ao ar.length ca,.slice to tt.length ct,.string s,.int .i64 pp] 47)) [.int .i64 op,.int .i64 id,.int .i64 nn,.int .i64 ty,.slice bo ar.length cb,.slice uo tt.length cu,.string s,.int .i64 qq] 47
  rwa [show(w.alloc (.cells #[.int .i64 op,.int .i64 id,.int .i64 nn,.int .i64 ty,.slice ao ar.length ca,.slice to tt.length ct,.string s,.int .i64 pp] 47)).heap.size=w.heap.size+1 from by simp] at this)
 have H1:=hide (ha.below b0)
 have H2:=hide (ht.below b0)
 have H3:=hide (hb.below b0)
 have H4:=hide (hu.below b0)
 have b0:=hide b0
 clear ha ht hb hu B1
 go_enter Tryz.func30,Tryz.ntmps30
 go_upto_region 1 with fail
 show Code.wp _ _ _ _ ((w.alloc (.cells #[.int .i64 op,.int .i64 id,.int .i64 nn,.int .i64 ty,.slice ao ar.length ca,.slice to tt.length ct,.string s,.int .i64 pp] 47)).alloc (.cells #[.int .i64 op,.int .i64 id,.int .i64 nn,.int .i64 ty,.slice bo ar.length cb,.slice uo tt.length cu,.string s,.int .i64 qq] 47))
 replace B2:Hid (L5.Box ((w.alloc (.cells #[.int .i64 op,.int .i64 id,.int .i64 nn,.int .i64 ty,.slice ao ar.length ca,.slice to tt.length ct,.string s,.int .i64 pp] 47)).alloc (.cells #[.int .i64 op,.int .i64 id,.int .i64 nn,.int .i64 ty,.slice bo ar.length cb,.slice uo tt.length cu,.string s,.int .i64 qq] 47)) w.heap.size [.int .i64 op,.int .i64 id,.int .i64 nn,.int .i64 ty,.slice ao ar.length ca,.slice to tt.length ct,.string s,.int .i64 pp]):=B2
 replace B3:Hid (L5.Box ((w.alloc (.cells #[.int .i64 op,.int .i64 id,.int .i64 nn,.int .i64 ty,.slice ao ar.length ca,.slice to tt.length ct,.string s,.int .i64 pp] 47)).alloc (.cells #[.int .i64 op,.int .i64 id,.int .i64 nn,.int .i64 ty,.slice bo ar.length cb,.slice uo tt.length cu,.string s,.int .i64 qq] 47)) (w.heap.size+1) [.int .i64 op,.int .i64 id,.int .i64 nn,.int .i64 ty,.slice bo ar.length cb,.slice uo tt.length cu,.string s,.int .i64 qq]):=B3
 generalize (w.alloc (.cells #[.int .i64 op,.int .i64 id,.int .i64 nn,.int .i64 ty,.slice ao ar.length ca,.slice to tt.length ct,.string s,.int .i64 pp] 47)).alloc (.cells #[.int .i64 op,.int .i64 id,.int .i64 nn,.int .i64 ty,.slice bo ar.length cb,.slice uo tt.length cu,.string s,.int .i64 qq] 47)=W at *
 have x0:=B2.out.2 0 _ rfl
 have x1:=B2.out.2 1 _ rfl
 have x2:=B2.out.2 2 _ rfl
 have x3:=B2.out.2 3 _ rfl
 have x4:=B2.out.2 4 _ rfl
 have x6:=B2.out.2 6 _ rfl
 have y0:=B3.out.2 0 _ rfl
 have y1:=B3.out.2 1 _ rfl
 have y2:=B3.out.2 2 _ rfl
 have y3:=B3.out.2 3 _ rfl
 have y4:=B3.out.2 4 _ rfl
 have y6:=B3.out.2 6 _ rfl
 go_wp2_with fail
 refine(rints_same ar ao bo ca cb _ la H1.out H3.out).mono ?_;rintro e w1 ⟨rfl,b1⟩
 clear x0 x1 x2 x3 x4 x6 y0 y1 y2 y3 y4 y6
 have x5:=(B2.out.below b1).2 5 _ rfl
 have y5:=(B3.out.below b1).2 5 _ rfl
 replace b1:=hide b1
 go_wp2_with fail
 refine(rints_same tt to uo ct cu _ lt (H2.out.below b1.out) (H4.out.below b1.out)).mono ?_;rintro e w2 ⟨rfl,b2⟩
 go_wp2_with fail
 go_ret
 exact⟨rfl,below_step (below_step b0.out b1.out) b2⟩
theorem same_at {α β:Type} {f:α→β} {l m:List α} (h:l.map f=m.map f) {i:Nat} {y:α} (hy:m[i]? =some y):∃x,l[i]? =some x∧f x=f y:=by
 have e:=congrArg (·[i]?) h
 simp only [List.getElem?_map,hy,Option.map_some] at e
 cases hx:l[i]? with
 |none=>rw [hx] at e;cases e
 |some x=>rw [hx] at e;exact⟨x,rfl,Option.some.inj e⟩
theorem same_len {α β:Type} {f:α→β} {l m:List α} (h:l.map f=m.map f):l.length=m.length:=by
 have:=congrArg List.length h
 simpa using this
theorem noI_eq {x y:Ins} (h:noI x=noI y):∃op id n ty ar tt nm p q,x=(op,id,n,ty,ar,tt,nm,p)∧y=(op,id,n,ty,ar,tt,nm,q):=by
 obtain⟨a0,a1,a2,a3,a4,a5,a6,a7⟩:=x
 obtain⟨b0,b1,b2,b3,b4,b5,b6,b7⟩:=y
 simp only [noI,Prod.mk.injEq] at h
 obtain⟨rfl,rfl,rfl,rfl,rfl,rfl,rfl,_⟩:=h
 exact⟨_,_,_,_,_,_,_,_,_,rfl,rfl⟩
theorem rsame_fun (nm:List UInt8) (ps:List Int) (rt pl ql:Int) (bl bm:List (List Ins)) (hlike:bm.map noB=bl.map noB) (ao bo uo vo:Option Addr) (ca cb cu cv:Nat) (w:World) (lp:ps.length≤maxLen) (lb:bl.length≤maxLen)
  (ha:Sl w ao ps) (hb:BlksR w bm (.slice bo bl.length cb)) (hu:Sl w uo ps) (hv:BlksR w bl (.slice vo bl.length cv)):
  Calls Tryz.prog 14 #[.agg #[.string (bs nm),.slice ao ps.length ca,.int .i64 rt,.slice bo bl.length cb,.int .i64 pl],.agg #[.string (bs nm),.slice uo ps.length cu,.int .i64 rt,.slice vo bl.length cv,.int .i64 ql]] w fun e w'=>e= .returned (.bool true)∧Below w.heap.size w w':=by
 have b0:=below_step (below_box w (.cells #[.string (bs nm),.slice ao ps.length ca,.int .i64 rt,.slice bo bl.length cb,.int .i64 pl] 36)) (below_box (w.alloc (.cells #[.string (bs nm),.slice ao ps.length ca,.int .i64 rt,.slice bo bl.length cb,.int .i64 pl] 36)) (.cells #[.string (bs nm),.slice uo ps.length cu,.int .i64 rt,.slice vo bl.length cv,.int .i64 ql] 36))
 have B1:=hide (L5.Box.new w [.string (bs nm),.slice ao ps.length ca,.int .i64 rt,.slice bo bl.length cb,.int .i64 pl] 36)
 have B2:Hid (L5.Box ((w.alloc (.cells #[.string (bs nm),.slice ao ps.length ca,.int .i64 rt,.slice bo bl.length cb,.int .i64 pl] 36)).alloc (.cells #[.string (bs nm),.slice uo ps.length cu,.int .i64 rt,.slice vo bl.length cv,.int .i64 ql] 36)) w.heap.size [.string (bs nm),.slice ao ps.length ca,.int .i64 rt,.slice bo bl.length cb,.int .i64 pl]):=hide (B1.out.below (below_box (w.alloc (.cells #[.string (bs nm),.slice ao ps.length ca,.int .i64 rt,.slice bo bl.length cb,.int .i64 pl] 36)) (.cells #[.string (bs nm),.slice uo ps.length cu,.int .i64 rt,.slice vo bl.length cv,.int .i64 ql] 36)))
 have B3:Hid (L5.Box ((w.alloc (.cells #[.string (bs nm),.slice ao ps.length ca,.int .i64 rt,.slice bo bl.length cb,.int .i64 pl] 36)).alloc (.cells #[.string (bs nm),.slice uo ps.length cu,.int .i64 rt,.slice vo bl.length cv,.int .i64 ql] 36)) (w.heap.size+1) [.string (bs nm),.slice uo ps.length cu,.int .i64 rt,.slice vo bl.length cv,.int .i64 ql]):=hide (by
  have:=L5.Box.new (w.alloc (.cells #[.string (bs nm),.slice ao ps.length ca,.int .i64 rt,.slice bo bl.length cb,.int .i64 pl] 36)) [.string (bs nm),.slice uo ps.length cu,.int .i64 rt,.slice vo bl.length cv,.int .i64 ql] 36
  rwa [show(w.alloc (.cells #[.string (bs nm),.slice ao ps.length ca,.int .i64 rt,.slice bo bl.length cb,.int .i64 pl] 36)).heap.size=w.heap.size+1 from by simp] at this)
 have H1:=hide (ha.below b0)
 have H2:=hide (hb.below b0)
 have H3:=hide (hu.below b0)
 have H4:=hide (hv.below b0)
 have b0:=hide b0
 clear ha hb hu hv B1
 replace hlike:=hide hlike
 go_enter Tryz.func14,Tryz.ntmps14
 go_upto_region 1 with fail
 show Code.wp _ _ _ _ ((w.alloc (.cells #[.string (bs nm),.slice ao ps.length ca,.int .i64 rt,.slice bo bl.length cb,.int .i64 pl] 36)).alloc (.cells #[.string (bs nm),.slice uo ps.length cu,.int .i64 rt,.slice vo bl.length cv,.int .i64 ql] 36))
 generalize (w.alloc (.cells #[.string (bs nm),.slice ao ps.length ca,.int .i64 rt,.slice bo bl.length cb,.int .i64 pl] 36)).alloc (.cells #[.string (bs nm),.slice uo ps.length cu,.int .i64 rt,.slice vo bl.length cv,.int .i64 ql] 36)=W at *
 have x0:=B2.out.2 0 _ rfl
 have x1:=B2.out.2 1 _ rfl
 have x2:=B2.out.2 2 _ rfl
 have y0:=B3.out.2 0 _ rfl
 have y1:=B3.out.2 1 _ rfl
 have y2:=B3.out.2 2 _ rfl
 go_wp2_with fail
 refine(rints_same ps ao uo ca cu _ lp H1.out H3.out).mono ?_;rintro e w1 ⟨rfl,b1⟩
 clear x0 x1 x2 y0 y1 y2 H1 H3
 have x3:=(B2.out.below b1).2 3 _ rfl
 have y3:=(B3.out.below b1).2 3 _ rfl
 replace b1:=hide b1
 go_wp2_with fail
 clear x3 y3
 unfold maxLen at lb
 go_loopw [5] (fun k wr=>∃K:Nat,k= .int .i64 K∧K≤bl.length∧Below W.heap.size W wr) (fun k _=>bl.length - (intOf k).toNat)
 case atStart=>exact⟨0,rfl,Nat.zero_le _,b1.out⟩
 case round=>
  obtain⟨K,rfl,hK,hB⟩:=hrel
  have x3:=(B2.out.below hB).2 3 _ rfl
  replace hB:=hide hB
  by_cases hkt:K < bl.length
  ·obtain⟨b,hbK⟩:∃b,bl[K]? =some b:=⟨bl[K],List.getElem?_eq_some_iff.2 ⟨hkt,rfl⟩⟩
   obtain⟨d,hdK,hdb⟩:=same_at hlike.out hbK
   obtain⟨_,_,e0,_,_,h2⟩:=H2.out
   injection e0 with e1 e2 e3
   subst e1 e3
   clear e2
   rcases h2 with h2 | ⟨gb,ob,rfl,gk,h2⟩
   ·subst h2;simp at hdK
   obtain⟨_,_,e0,_,_,h4⟩:=H4.out
   injection e0 with e1 e2 e3
   subst e1 e3
   clear e2
   rcases h4 with h4 | ⟨gc,oc,rfl,gl,h4⟩
   ·subst h4;simp at hkt
   obtain⟨vk,kd,kk⟩:=h2 K d hdK
   obtain⟨vl,ke,kl⟩:=h4 K b hbK
   clear h2 h4
   obtain⟨aok,capk,hvk,_,_,kk⟩:=kk
   rw [same_len hdb] at hvk
   subst hvk
   obtain⟨aol,capl,rfl,l1,l2,kl⟩:=kl
   have gk:=hide gk
   have gl:=hide gl
   have lk:b.length≤maxLen:=Nat.le_trans l1 l2
   unfold maxLen at lk
   clear l1 l2
   replace kk:=hide kk
   replace kl:=hide kl
   replace kd:=hide kd
   replace ke:=hide ke
   replace hdb:=hide hdb
   clear hdK hbK
   have hB2:=fun x=>below_step hB.out (L5.grewTo_below wr x)
   have u3:=fun x=>(B2.out.below (hB2 x)).2 3 _ rfl
   have v3:=fun x=>(B3.out.below (hB2 x)).2 3 _ rfl
   have ud:=fun x=>((hB2 x).cell (p:=⟨gb,ob+K,none⟩) gk.out).trans kd.out
   have vd:=fun x=>((hB2 x).cell (p:=⟨gc,oc+K,none⟩) gl.out).trans ke.out
   replace hB2:=hide hB2
   go_wp2_with fail
   refine L5.region_grew (by kernel_rfl) (by kernel_rfl) ?_
   repeat (go_big_quiet_step (fail))
   refine wpQuiet_nil ?_
   rintro _ ⟨x,rfl⟩
   clear u3 v3 ud vd x3
   have hBx:=hide (hB2.out x)
   go_wp2_with fail
   obtain⟨wo,hwo⟩:∃wo:World,wo=L5.grewTo wr x:=⟨_,rfl⟩
   rw [←hwo] at hBx
   rw [←hwo]
   clear hB2 hB hwo
   go_loopw [6] (fun j wr=>∃J:Nat,j= .int .i64 J∧J≤b.length∧Below W.heap.size W wr) (fun j _=>b.length - (intOf j).toNat)
   case atStart=>exact⟨0,rfl,Nat.zero_le _,hBx.out⟩
   case round=>
    obtain⟨J,rfl,hJ,hB⟩:=hrel
    have x3:=(B2.out.below hB).2 3 _ rfl
    have xd:=(hB.cell (p:=⟨gb,ob+K,none⟩) gk.out).trans kd.out
    replace hB:=hide hB
    by_cases hjt:J < b.length
    ·obtain⟨y,hyJ⟩:∃y,b[J]? =some y:=⟨b[J],List.getElem?_eq_some_iff.2 ⟨hjt,rfl⟩⟩
     obtain⟨z,hzJ,hzy⟩:=same_at hdb.out hyJ
     have hB2:=fun x=>below_step hB.out (L5.grewTo_below wr x)
     rcases kk.out with h | ⟨g1,o1,rfl,kk1⟩
     ·subst h;simp at hzJ
     rcases kl.out with h | ⟨g2,o2,rfl,kl1⟩
     ·subst h;simp at hjt
     have kx:=kk1 J z hzJ
     have ky:=kl1 J y hyJ
     obtain⟨op,id,nn,ty,ar,tt,na,qp,pp,rfl,rfl⟩:=noI_eq hzy
     obtain⟨q1,va,vt,kc,⟨oa,ca1,rfl,sa,la1,la2⟩,⟨ot,ct1,rfl,st,lt1,lt2⟩⟩:=kx
     obtain⟨q2,va',vt',kc',⟨oa',ca2,rfl,sa',_,_⟩,⟨ot',ct2,rfl,st',_,_⟩⟩:=ky
     have la:ar.length≤maxLen:=Nat.le_trans la1 la2
     have lt:tt.length≤maxLen:=Nat.le_trans lt1 lt2
     clear kk1 kl1 hzJ hzy hyJ la1 la2 lt1 lt2
     have S1:=hide (fun x=>sa.below (hB2 x))
     have S2:=hide (fun x=>st.below (hB2 x))
     have S3:=hide (fun x=>sa'.below (hB2 x))
     have S4:=hide (fun x=>st'.below (hB2 x))
     have u3:=fun x=>(B2.out.below (hB2 x)).2 3 _ rfl
     have v3:=fun x=>(B3.out.below (hB2 x)).2 3 _ rfl
     have ud:=fun x=>((hB2 x).cell (p:=⟨gb,ob+K,none⟩) gk.out).trans kd.out
     have vd:=fun x=>((hB2 x).cell (p:=⟨gc,oc+K,none⟩) gl.out).trans ke.out
     have m0:∀x,(L5.grewTo wr x).cell? ⟨g1,o1+J * 8,none⟩=some (.int .i64 op):=fun x=>((hB2 x).cell (p:=⟨g1,o1+J * 8,none⟩) q1).trans (kc 0 _ rfl)
     have m1:∀x,(L5.grewTo wr x).cell? ⟨g1,o1+J * 8+1,none⟩=some (.int .i64 id):=fun x=>((hB2 x).cell (p:=⟨g1,o1+J * 8+1,none⟩) q1).trans (kc 1 _ rfl)
     have m2:∀x,(L5.grewTo wr x).cell? ⟨g1,o1+J * 8+2,none⟩=some (.int .i64 nn):=fun x=>((hB2 x).cell (p:=⟨g1,o1+J * 8+2,none⟩) q1).trans (kc 2 _ rfl)
     have m3:∀x,(L5.grewTo wr x).cell? ⟨g1,o1+J * 8+3,none⟩=some (.int .i64 ty):=fun x=>((hB2 x).cell (p:=⟨g1,o1+J * 8+3,none⟩) q1).trans (kc 3 _ rfl)
     have m4:∀x,(L5.grewTo wr x).cell? ⟨g1,o1+J * 8+4,none⟩=some (.slice oa ar.length ca1):=fun x=>((hB2 x).cell (p:=⟨g1,o1+J * 8+4,none⟩) q1).trans (kc 4 _ rfl)
     have m5:∀x,(L5.grewTo wr x).cell? ⟨g1,o1+J * 8+5,none⟩=some (.slice ot tt.length ct1):=fun x=>((hB2 x).cell (p:=⟨g1,o1+J * 8+5,none⟩) q1).trans (kc 5 _ rfl)
     have m6:∀x,(L5.grewTo wr x).cell? ⟨g1,o1+J * 8+6,none⟩=some (.string (bs na)):=fun x=>((hB2 x).cell (p:=⟨g1,o1+J * 8+6,none⟩) q1).trans (kc 6 _ rfl)
     have m7:∀x,(L5.grewTo wr x).cell? ⟨g1,o1+J * 8+7,none⟩=some (.int .i64 qp):=fun x=>((hB2 x).cell (p:=⟨g1,o1+J * 8+7,none⟩) q1).trans (kc 7 _ rfl)
     have n0:∀x,(L5.grewTo wr x).cell? ⟨g2,o2+J * 8,none⟩=some (.int .i64 op):=fun x=>((hB2 x).cell (p:=⟨g2,o2+J * 8,none⟩) q2).trans (kc' 0 _ rfl)
     have n1:∀x,(L5.grewTo wr x).cell? ⟨g2,o2+J * 8+1,none⟩=some (.int .i64 id):=fun x=>((hB2 x).cell (p:=⟨g2,o2+J * 8+1,none⟩) q2).trans (kc' 1 _ rfl)
     have n2:∀x,(L5.grewTo wr x).cell? ⟨g2,o2+J * 8+2,none⟩=some (.int .i64 nn):=fun x=>((hB2 x).cell (p:=⟨g2,o2+J * 8+2,none⟩) q2).trans (kc' 2 _ rfl)
     have n3:∀x,(L5.grewTo wr x).cell? ⟨g2,o2+J * 8+3,none⟩=some (.int .i64 ty):=fun x=>((hB2 x).cell (p:=⟨g2,o2+J * 8+3,none⟩) q2).trans (kc' 3 _ rfl)
     have n4:∀x,(L5.grewTo wr x).cell? ⟨g2,o2+J * 8+4,none⟩=some (.slice oa' ar.length ca2):=fun x=>((hB2 x).cell (p:=⟨g2,o2+J * 8+4,none⟩) q2).trans (kc' 4 _ rfl)
     have n5:∀x,(L5.grewTo wr x).cell? ⟨g2,o2+J * 8+5,none⟩=some (.slice ot' tt.length ct2):=fun x=>((hB2 x).cell (p:=⟨g2,o2+J * 8+5,none⟩) q2).trans (kc' 5 _ rfl)
     have n6:∀x,(L5.grewTo wr x).cell? ⟨g2,o2+J * 8+6,none⟩=some (.string (bs na)):=fun x=>((hB2 x).cell (p:=⟨g2,o2+J * 8+6,none⟩) q2).trans (kc' 6 _ rfl)
     have n7:∀x,(L5.grewTo wr x).cell? ⟨g2,o2+J * 8+7,none⟩=some (.int .i64 pp):=fun x=>((hB2 x).cell (p:=⟨g2,o2+J * 8+7,none⟩) q2).trans (kc' 7 _ rfl)
     replace hB2:=hide hB2
     clear kc kc' sa st sa' st'
     go_wp2_with fail
     refine L5.region_grew (by kernel_rfl) (by kernel_rfl) ?_
     repeat (go_big_quiet_step ((go_at_call 30;exact L5.calls_grew (rsame_ins op id nn ty qp pp ar tt (bs na) oa ot oa' ot' ca1 ct1 ca2 ct2 _ la lt (S1.out _) (S2.out _) (S3.out _) (S4.out _)))))
     refine wpQuiet_nil ?_
     rintro _ ⟨x,rfl⟩
     clear u3 v3 ud vd x3 xd m0 m1 m2 m3 m4 m5 m6 m7 n0 n1 n2 n3 n4 n5 n6 n7
     go_wp2_with fail
     go_roundw
     case rel=>exact⟨J+1,by go_num,by omega,hB2.out x⟩
     case measure=>simp [intOf];omega
    ·obtain rfl:J=b.length:=by omega
     go_wp2_with fail
     go_roundw
     case rel=>exact⟨K+1,by go_num,by omega,hB.out⟩
     case measure=>simp [intOf];omega
  ·have hge:¬((K:Int) < (bl.length:Int)):=by omega
   clear hkt
   go_wp2_with fail
   go_ret
   exact⟨rfl,below_step b0.out hB.out⟩
open G (Tok Er Ins Fun)
def hasL (l:List Int) (n:Int):Bool:=l.any fun m=>decide (m=n)
theorem hasL_snoc (l:List Int) (m n:Int):hasL (l ++ [m]) n=(hasL l n || decide (m=n)):=by simp [hasL]
theorem hasL_mem {l:List Int} {n:Int}:hasL l n=true↔n∈l:=by simp [hasL]
theorem hasL_at {l:List Int} {k:Nat} {n:Int} (h:l[k]? =some n):hasL l n=true:=hasL_mem.2 (List.mem_of_getElem? h)
theorem take_more {α:Type} {l:List α} {k:Nat} {n:α} (h:l[k]? =some n):l.take (k+1)=l.take k ++ [n]:=by rw [List.take_add_one,h];rfl
theorem rhas_any (l:List Int) (n:Int) (ao:Option Addr) (c:Nat) (w:World) (hs:Sl w ao l) (hl:l.length≤maxLen):
  Calls Tryz.prog 17 #[.slice ao l.length c,.int .i64 n] w fun e w'=>e= .returned (.bool (hasL l n))∧w'=w:=by
 unfold maxLen at hl
 have HS:=hide hs
 clear hs
 go_enter Tryz.func17,Tryz.ntmps17
 go_wp2
 go_loopw [5] (fun i wr=>∃k:Nat,k≤l.length∧i= .int .i64 k∧wr=w∧Hid (hasL (l.take k) n=false)) (fun i _=>l.length - (intOf i).toNat)
 case atStart=>exact⟨0,Nat.zero_le _,rfl,rfl,hide rfl⟩
 case round=>
  obtain⟨k,hk,rfl,hw,HF⟩:=hrel
  subst hw
  by_cases hlt:k < l.length
  ·obtain⟨m,hm⟩:∃m,l[k]? =some m:=⟨l[k],List.getElem?_eq_getElem hlt⟩
   rcases HS.out with he | ⟨a,oa,rfl,hal,ha⟩
   ·subst he;simp at hlt
   have c1:=ha k m hm
   by_cases he:m=n
   ·have HE:Hid (true=hasL l n):=hide (by subst he;exact(hasL_at hm).symm)
    have he':(m == n)=true:=by simpa using he
    clear ha hm he
    go_wp2_with fail
    go_ret
    exact⟨L5.ret_bool HE.out,rfl⟩
   ·have HE:Hid (hasL (l.take (k+1)) n=false):=hide (by rw [take_more hm,hasL_snoc,HF.out];simp [he])
    have he':(m == n)=false:=by simpa using he
    clear ha hm he
    go_wp2_with fail
    go_roundw
    case rel=>exact⟨k+1,by omega,by go_num,trivial,HE⟩
    case measure=>simp [intOf];omega
  ·obtain rfl:k=l.length:=by omega
   have HE:Hid (false=hasL l n):=hide (by have:=HF.out;rw [List.take_length] at this;exact this.symm)
   go_wp2_with fail
   go_ret
   exact⟨L5.ret_bool HE.out,rfl⟩
def Grw (w:World) (l:List Int) (v:Value) (wr:World):Prop:=wr.ownsRow w.heap.size 3 1 v l.length (ints l)∧Below w.heap.size w wr
theorem Grw.start (w:World):Grw w [] (.slice none 0 0) w:=⟨World.ownsRow_nil _ _ _ _,Below.refl _ _⟩
theorem Grw.step {w wr w2:World} {l:List Int} {v v':Value} {x:Int} {o:Obj} (h:Grw w l v wr) (own:w2.ownsRow w.heap.size 3 1 v' (l.length+1) (ints l ++ [.int .i64 x])) (hg:(wr.alloc o).grownBy w2 v.ownBlock):Grw w (l ++ [x]) v' w2:=by
 refine⟨by simpa [ints] using own,?_⟩
 refine Below.grown (h.2.alloc h.2.size o) hg (by simp;have:=h.2.size;omega) ?_
 intro k hk
 exact(h.1.lt k hk).1
theorem Grw.slice {w wr:World} {l:List Int} {v:Value} (h:Grw w l v wr):∃ao c,v= .slice ao l.length c∧Sl wr ao l∧l.length≤maxLen:=by
 obtain⟨ao,c,rfl,h1,h2,h3⟩:=ints_of h.1
 exact⟨ao,c,rfl,h1,Nat.le_trans h2 h3⟩
def addL (acc:List Int) (n:Int):List Int:=if hasL acc n then acc else acc ++ [n]
theorem addL_yes {acc:List Int} {n:Int} (h:hasL acc n=true):addL acc n=acc:=by unfold addL;rw [if_pos h]
theorem addL_no {acc:List Int} {n:Int} (h:hasL acc n=false):addL acc n=acc ++ [n]:=by unfold addL;rw [if_neg (by simp [h])]
theorem addL_len (acc:List Int) (n:Int):(addL acc n).length≤acc.length+1:=by
 unfold addL
 split
 ·omega
 ·simp
def onceL (l:List Int):List Int:=l.foldl addL []
theorem onceL_take {l:List Int} {k:Nat} {n:Int} (h:l[k]? =some n):onceL (l.take (k+1))=addL (onceL (l.take k)) n:=by
 rw [take_more h];simp [onceL]
theorem onceL_len (l:List Int):(onceL l).length≤l.length:=by
 have key:∀(l acc:List Int),(l.foldl addL acc).length≤acc.length+l.length:=by
  intro l
  induction l with
  |nil=>intro acc;simp
  |cons n l ih=>
   intro acc
   rw [List.foldl_cons,List.length_cons]
   have h1:=ih (addL acc n)
   have h2:=addL_len acc n
   omega
 simpa [onceL] using key l []
theorem next_try (nm:List UInt8) (ps:List Int) (rt pl:Int) (bl:List (List Ins)) (ao bo:Option Addr) (c cb:Nat) (k:Nat) (b:List Ins) (op id nn ty pp:Int) (ar tt:List Int) (na:List UInt8) (w:World)
  (hb:BlksR w bl (.slice bo bl.length cb)) (hk:bl[k]? =some b) (hx:b[b.length - 1]? =some (op,id,nn,ty,ar,tt,na,pp)) (h63:tt.length≤1000000):
  Calls Tryz.prog 19 #[.agg #[.string (bs nm),.slice ao ps.length c,.int .i64 rt,.slice bo bl.length cb,.int .i64 pl],.int .i64 k] w fun e w'=>∃v,e= .returned v∧w'.ownsRow w.heap.size 3 1 v (onceL tt).length (ints (onceL tt))∧Below w.heap.size w w':=by
 obtain⟨i0,hi0,hz0,hz1,hz2⟩:=info_parts Tryz.info3
 have b0:=below_box w (.cells #[.string (bs nm),.slice ao ps.length c,.int .i64 rt,.slice bo bl.length cb,.int .i64 pl] 36)
 have X0:=hide (L5.Box.new w [.string (bs nm),.slice ao ps.length c,.int .i64 rt,.slice bo bl.length cb,.int .i64 pl] 36)
 have HB:=hide (hb.below b0)
 have B0:=hide b0
 clear b0 hb
 go_enter Tryz.func19,Tryz.ntmps19
 go_upto_region 1 with fail
 show Code.wp _ _ _ _ (w.alloc (.cells #[.string (bs nm),.slice ao ps.length c,.int .i64 rt,.slice bo bl.length cb,.int .i64 pl] 36))
 replace X0:Hid (L5.Box (w.alloc (.cells #[.string (bs nm),.slice ao ps.length c,.int .i64 rt,.slice bo bl.length cb,.int .i64 pl] 36)) w.heap.size [.string (bs nm),.slice ao ps.length c,.int .i64 rt,.slice bo bl.length cb,.int .i64 pl]):=X0
 generalize w.alloc (.cells #[.string (bs nm),.slice ao ps.length c,.int .i64 rt,.slice bo bl.length cb,.int .i64 pl] 36)=W at *
 obtain⟨_,_,e0,l1,l2,h2⟩:=HB.out
 injection e0 with e1 e2 e3
 subst e1 e3
 clear e2
 have hkt:k < bl.length:=(List.getElem?_eq_some_iff.1 hk).1
 have hkI:(k:Int) < bl.length:=by omega
 rcases h2 with h2 | ⟨gc,oc,rfl,gk,h2⟩
 ·subst h2;simp at hkt
 obtain⟨vk,kd,aok,capk,rfl,m1,m2,kk⟩:=h2 k b hk
 have hjt:b.length - 1 < b.length:=(List.getElem?_eq_some_iff.1 hx).1
 rcases kk with kk | ⟨gi,oi,rfl,kk⟩
 ·subst kk;simp at hjt
 obtain⟨ai,ti,ca,ct,hv,r0,r1,r2,r3,r4,r5,r6,r7⟩:=(kk (b.length - 1) _ hx).val
 dsimp only at hv r0 r1 r2 r3 r4 r5 r6 r7
 have HSt:Hid (Sl W ti tt):=hide (by
  obtain⟨a1,t1,c1,c2,e,s1,s2,_⟩:=hv
  injection e with e
  have e2:=congrArg (fun a=>a[5]?) e
  simp at e2
  rw [e2.1];exact s2)
 obtain⟨J,hJ⟩:∃J,J=b.length - 1:=⟨_,rfl⟩
 rw [←hJ] at r0 r1 r2 r3 r4 r5 r6 r7
 have hJI:(b.length:Int) - 1=(J:Int):=by omega
 have hJl:(J:Int) < b.length:=by omega
 unfold maxLen at m2 l2
 have hgi:gi < W.heap.size:=(kk (b.length - 1) _ hx).1
 have x3:=fun x=>(L5.grew_box X0.out x).2 3 _ rfl
 have kd':=fun x=>((L5.grewTo_below W x).cell (p:=⟨gc,oc+k,none⟩) gk).trans kd
 have r5':=fun x=>((L5.grewTo_below W x).cell (p:=⟨gi,oi+J * 8+5,none⟩) hgi).trans r5
 have hwr:IntKind.i64.wrap ((b.length:Int) - 1)=(J:Int):=by
  rw [hJI];exact IntWalk.i64_in _ ⟨by omega,by omega⟩
 clear hv kk h2 hx hk r0 r1 r2 r3 r4 r5 r6 r7 kd hJ
 go_wp2_with fail
 refine L5.region_grew (by kernel_rfl) (by kernel_rfl) ?_
 repeat (go_big_quiet_step (fail))
 refine wpQuiet_nil ?_
 rintro _ ⟨x,rfl⟩
 clear x3 kd' r5'
 have HX:=hide (L5.grewTo_below W x)
 obtain⟨w8,hw8⟩:∃w8:World,w8=L5.grewTo W x:=⟨_,rfl⟩
 rw [←hw8] at HX ⊢
 clear hw8
 go_wp2_with fail
 go_loopw [5,7] (fun v i wr=>∃I:Nat,I≤tt.length∧i= .int .i64 I∧Hid (Grw W (onceL (tt.take I)) v wr)) (fun _ i _=>tt.length - (intOf i).toNat)
 case atStart=>exact⟨0,Nat.zero_le _,rfl,hide ⟨World.ownsRow_nil _ _ _ _,HX.out⟩⟩
 case round=>
  obtain⟨I,hI,rfl,HG⟩:=hrel
  by_cases hit:I < tt.length
  ·have hiI:(I:Int) < tt.length:=by omega
   obtain⟨n,hn⟩:∃n,tt[I]? =some n:=⟨tt[I],List.getElem?_eq_getElem hit⟩
   rcases HSt.out with he | ⟨gt,ot,rfl,gtl,ht⟩
   ·subst he;simp at hit
   have c1:=(HG.out.2.cell (p:=⟨gt,ot+I,none⟩) gtl).trans (ht I n hn)
   obtain⟨vo,vc,rfl,vs,vl⟩:=HG.out.slice
   have HV:=hide vs
   have HN:=hide (onceL_take hn)
   have hlen:=onceL_len (tt.take I)
   rw [List.length_take] at hlen
   generalize onceL (tt.take I)=acc at *
   clear ht hn vs
   go_wp2_with fail
   refine(rhas_any acc n vo vc wr HV.out vl).mono ?_;rintro e w1 ⟨rfl,hw1⟩
   rw [hw1]
   clear hw1
   cases hh:hasL acc n with
   |true=>
    have HE:Hid (Grw W (onceL (tt.take (I+1))) (.slice vo acc.length vc) wr):=hide (by rw [HN.out,addL_yes hh];exact HG.out)
    replace hh:=hide hh
    go_wp2_with fail
    go_roundw
    case rel=>exact⟨I+1,by omega,by go_num,HE⟩
    case measure=>simp [intOf];omega
   |false=>
    have HA:=hide (HN.out.trans (addL_no hh))
    replace hh:=hide hh
    have hWs:=HG.out.2.size
    go_wp2_with (at_builtin;refine wpList_append_own _ rfl (.tmp 36) (.tmp 41) 33 rfl W.heap.size 3 i0 _ 1 8 Tryz.underlying33 hi0 hz0 hz1 hz2 rfl (by decide) _ _ _ rfl (HG.out.1.alloc _) ⟨wr.heap.size,0,none⟩ 1 1 [.int .i64 n] rfl rfl one_cell one_one (by unfold maxLen;omega) (by omega) (by simp;omega) ?_;intro v2 w2 own2 grow2 _)
    have HE:Hid (Grw W (onceL (tt.take (I+1))) v2 w2):=hide (by rw [HA.out];exact HG.out.step own2 grow2)
    clear own2 grow2
    go_wp2_with fail
    go_roundw
    case rel=>exact⟨I+1,by omega,by go_num,HE⟩
    case measure=>simp [intOf];omega
  ·obtain rfl:I=tt.length:=by omega
   have HE:Hid (Grw W (onceL tt) _ wr):=hide (by have:=HG.out;rwa [List.take_length] at this)
   have HF:=hide (own_base HE.out.1 B0.out.size)
   go_wp2_with fail
   go_ret
   exact⟨_,rfl,HF.out,below_step B0.out HE.out.2⟩
def lastTo (b:List Ins):List Int:=match b[b.length - 1]? with
 |some x=>x.2.2.2.2.2.1
 |none=> []
def nextF (f:Fun) (k:Nat):List Int:=onceL (lastTo (f.2.2.2.1.getD k []))
def succsF (f:Fun):List (List Int):=f.2.2.2.1.map fun b=>onceL (lastTo b)
def Ful (f:Fun):Prop:=f.2.2.2.1.length≤1000000∧∀b∈f.2.2.2.1,b≠ []∧∀x∈b,x.2.2.2.2.2.1.length≤1000000
theorem nextF_at {f:Fun} {k:Nat} {b:List Ins} (h:f.2.2.2.1[k]? =some b):nextF f k=onceL (lastTo b):=by
 unfold nextF;rw [List.getD_eq_getElem?_getD,h];rfl
theorem Ful.last {f:Fun} (h:Ful f) {b:List Ins} (hb:b∈f.2.2.2.1):∃x,b[b.length - 1]? =some x∧lastTo b=x.2.2.2.2.2.1∧x.2.2.2.2.2.1.length≤1000000:=by
 obtain⟨h1,h2⟩:=h.2 b hb
 have:b.length - 1 < b.length:=by
  have:b.length≠0:=fun e=>h1 (List.length_eq_zero_iff.1 e)
  omega
 refine⟨b[b.length - 1],List.getElem?_eq_getElem this,?_,h2 _ (List.getElem_mem this)⟩
 unfold lastTo
 rw [List.getElem?_eq_getElem this]
theorem next_any (f:Fun) (k:Nat) (v:Value) (w:World) (hv:FunV w f v) (hF:Ful f) (hk:k < f.2.2.2.1.length):
  Calls Tryz.prog 19 #[v,.int .i64 k] w fun e w'=>∃u,e= .returned u∧w'.ownsRow w.heap.size 3 1 u (nextF f k).length (ints (nextF f k))∧Below w.heap.size w w':=by
 obtain⟨b,hb⟩:∃b,f.2.2.2.1[k]? =some b:=⟨_,List.getElem?_eq_getElem hk⟩
 obtain⟨x,hx,hl,h63⟩:=hF.last (List.mem_of_getElem? hb)
 rw [nextF_at hb,hl]
 obtain⟨nm,ps,rt,bl,pl⟩:=f
 obtain⟨vp,vb,rfl,⟨ao,c,rfl,h1,_⟩,h2⟩:=hv
 have h2':=h2
 obtain⟨bo,cb,rfl,_⟩:=h2
 obtain⟨op,id,nn,ty,ar,tt,na,pp⟩:=x
 exact next_try nm ps rt pl bl ao bo c cb k b op id nn ty pp ar tt na w h2' hb hx h63
theorem Tryz.info33:(Tryz.prog.info? 33).map (fun i=>(i.zero,i.size,i.bytes))=some (some (.slice none 0 0),1,24):=by kernel_rfl
def RowsO (B:Nat) (w:World) (ll:List (List Int)) (v:Value):Prop:=∃us:List Value,w.ownsRow B 33 1 v ll.length us∧us.length=ll.length∧∀(i:Nat) (l:List Int),ll[i]? =some l→∃u,us[i]? =some u∧w.ownsRow B 3 1 u l.length (ints l)
theorem RowsO.nil (B:Nat) (w:World):RowsO B w [] (.slice none 0 0):=⟨[],World.ownsRow_nil _ _ _ _,rfl,fun i l h=>by simp at h⟩
theorem RowsO.below {B:Nat} {w w':World} {ll:List (List Int)} {v:Value} (h:RowsO B w ll v) (b:Below w.heap.size w w'):RowsO B w' ll v:=by
 obtain⟨us,h1,h2,h3⟩:=h
 refine⟨us,own_below b B _ _ _ _ _ h1,h2,fun i l hl=> ?_⟩
 obtain⟨u,k1,k2⟩:=h3 i l hl
 exact⟨u,k1,own_below b B _ _ _ _ _ k2⟩
theorem RowsO.base {B B':Nat} {w:World} {ll:List (List Int)} {v:Value} (h:RowsO B w ll v) (hB:B'≤B):RowsO B' w ll v:=by
 obtain⟨us,h1,h2,h3⟩:=h
 refine⟨us,own_base h1 hB,h2,fun i l hl=> ?_⟩
 obtain⟨u,k1,k2⟩:=h3 i l hl
 exact⟨u,k1,own_base k2 hB⟩
theorem RowsO.len {B:Nat} {w:World} {ll:List (List Int)} {v:Value} (h:RowsO B w ll v):∃ao c,v= .slice ao ll.length c:=by
 obtain⟨us,h1,_⟩:=h
 exact own_len h1
theorem RowsO.step {B:Nat} {wr w2:World} {ll:List (List Int)} {l:List Int} {v v' u:Value} {us:List Value} {o:Obj} (h1:wr.ownsRow B 33 1 v ll.length us)
  (h:us.length=ll.length∧∀(i:Nat) (l:List Int),ll[i]? =some l→∃u,us[i]? =some u∧wr.ownsRow B 3 1 u l.length (ints l)) (hu:wr.ownsRow B 3 1 u l.length (ints l))
  (own:w2.ownsRow B 33 1 v' (ll.length+1) (us ++ [u])) (hg:(wr.alloc o).grownBy w2 v.ownBlock):RowsO B w2 (ll ++ [l]) v':=by
 obtain⟨h2,h3⟩:=h
 refine⟨us ++ [u],by simpa using own,by simp [h2],fun i m hm=> ?_⟩
 have other:∀(x:Value) (n:Nat) (xs:List Value),wr.ownsRow B 3 1 x n xs→w2.ownsRow B 3 1 x n xs:=fun x n xs hx=>own_other hg (h1.alloc o) (by decide) x n xs (hx.alloc o)
 by_cases hi:i < ll.length
 ·rw [List.getElem?_append_left hi] at hm
  obtain⟨y,k1,k2⟩:=h3 i m hm
  exact⟨y,by rw [List.getElem?_append_left (by omega)];exact k1,other _ _ _ k2⟩
 ·rw [List.getElem?_append_right (by omega)] at hm
  have hi2:i - ll.length=0:=by
   have:=(List.getElem?_eq_some_iff.1 hm).1
   simp at this
   omega
  rw [hi2] at hm
  simp at hm
  subst hm
  exact⟨u,by rw [List.getElem?_append_right (by omega),h2,hi2];rfl,other _ _ _ hu⟩
theorem one_any {a:Value} (h:a.oneCell'=true):∀u∈ [a],u.oneCell'=true:=by
 intro u hu
 simp only [List.mem_singleton] at hu
 subst hu;exact h
theorem rsuccs_try (nm:List UInt8) (ps:List Int) (rt pl:Int) (bl:List (List Ins)) (ao bo:Option Addr) (c cb:Nat) (w:World)
  (hv:FunV w (nm,ps,rt,bl,pl) (.agg #[.string (bs nm),.slice ao ps.length c,.int .i64 rt,.slice bo bl.length cb,.int .i64 pl])) (hF:Ful (nm,ps,rt,bl,pl)):
  Calls Tryz.prog 81 #[.agg #[.string (bs nm),.slice ao ps.length c,.int .i64 rt,.slice bo bl.length cb,.int .i64 pl]] w fun e w'=>∃v,e= .returned v∧RowsO w.heap.size w' (succsF (nm,ps,rt,bl,pl)) v∧Below w.heap.size w w':=by
 obtain⟨i0,hi0,hz0,hz1,hz2⟩:=info_parts Tryz.info33
 have b0:=below_box w (.cells #[.string (bs nm),.slice ao ps.length c,.int .i64 rt,.slice bo bl.length cb,.int .i64 pl] 36)
 have X0:=hide (L5.Box.new w [.string (bs nm),.slice ao ps.length c,.int .i64 rt,.slice bo bl.length cb,.int .i64 pl] 36)
 have HV:=hide (hv.below b0)
 have B0:=hide b0
 have HFu:=hide hF
 have hbl:bl.length≤1000000:=hF.1
 clear b0 hv hF
 go_enter Tryz.func81,Tryz.ntmps81
 go_upto_region 1 with fail
 show Code.wp _ _ _ _ (w.alloc (.cells #[.string (bs nm),.slice ao ps.length c,.int .i64 rt,.slice bo bl.length cb,.int .i64 pl] 36))
 replace X0:Hid (L5.Box (w.alloc (.cells #[.string (bs nm),.slice ao ps.length c,.int .i64 rt,.slice bo bl.length cb,.int .i64 pl] 36)) w.heap.size [.string (bs nm),.slice ao ps.length c,.int .i64 rt,.slice bo bl.length cb,.int .i64 pl]):=X0
 generalize w.alloc (.cells #[.string (bs nm),.slice ao ps.length c,.int .i64 rt,.slice bo bl.length cb,.int .i64 pl] 36)=W at *
 go_wp2_with fail
 go_loopw [3,4] (fun v i wr=>∃K:Nat,K≤bl.length∧i= .int .i64 K∧Hid (RowsO W.heap.size wr ((succsF (nm,ps,rt,bl,pl)).take K) v)∧Hid (Below W.heap.size W wr)) (fun _ i _=>bl.length - (intOf i).toNat)
 case atStart=>exact⟨0,Nat.zero_le _,rfl,hide (RowsO.nil _ _),hide (Below.refl _ _)⟩
 case round=>
  obtain⟨K,hK,rfl,HR,HW⟩:=hrel
  obtain⟨x0,x1,x2,x3,x4⟩:_∧_∧_∧_∧_:=⟨(X0.out.below HW.out).2 0 _ rfl,(X0.out.below HW.out).2 1 _ rfl,(X0.out.below HW.out).2 2 _ rfl,(X0.out.below HW.out).2 3 _ rfl,(X0.out.below HW.out).2 4 _ rfl⟩
  by_cases hkt:K < bl.length
  ·have hkI:(K:Int) < bl.length:=by omega
   have hsk:Hid ((succsF (nm,ps,rt,bl,pl)).take (K+1)=(succsF (nm,ps,rt,bl,pl)).take K ++ [nextF (nm,ps,rt,bl,pl) K]):=hide (by
    have hb:bl[K]? =some bl[K]:=List.getElem?_eq_getElem hkt
    refine take_more ?_
    rw [nextF_at (f:=(nm,ps,rt,bl,pl)) hb]
    show(bl.map _)[K]? =_
    rw [List.getElem?_map,hb];rfl)
   have hlen:((succsF (nm,ps,rt,bl,pl)).take K).length=K:=by simp [succsF];omega
   obtain⟨vo,vc,rfl⟩:=HR.out.len
   have HN:=hide (next_any (nm,ps,rt,bl,pl) K _ wr (HV.out.below HW.out) HFu.out hkt)
   generalize nextF (nm,ps,rt,bl,pl) K=l at *
   go_wp2_with fail
   refine HN.out.mono ?_;rintro e w1 ⟨u,rfl,hu,b1⟩
   have HR1:=hide (HR.out.below b1)
   have HW1:=hide (below_step HW.out b1)
   have HU:=hide (own_base hu HW.out.size)
   obtain⟨us,ho,hus⟩:=HR1.out
   obtain⟨uo,uc,rfl⟩:=own_len hu
   have hWs:=HW1.out.size
   clear x0 x1 x2 x3 x4 hu b1
   have ho2:=ho
   rw [hlen] at ho2
   go_wp2_with (at_builtin;refine wpList_append_own _ rfl (.tmp 12) (.tmp 16) 105 rfl W.heap.size 33 i0 _ 1 24 Tryz.underlying105 hi0 hz0 hz1 hz2 rfl (by decide) _ _ _ rfl (ho2.alloc _) ⟨w1.heap.size,0,none⟩ 1 1 [.slice uo l.length uc] rfl rfl one_cell (one_any rfl) (by unfold maxLen;omega) (by omega) (by simp;omega) ?_;intro v2 w2 own2 grow2 _)
   have HE:Hid (RowsO W.heap.size w2 ((succsF (nm,ps,rt,bl,pl)).take (K+1)) v2):=hide (by
    rw [hsk.out]
    exact RowsO.step ho hus HU.out (by rw [hlen];exact own2) (by rw [hlen];exact grow2))
   have HW2:Hid (Below W.heap.size W w2):=hide (by
    refine Below.grown (HW1.out.alloc HW1.out.size _) grow2 (by simp;omega) ?_
    intro k hk
    exact(ho2.lt k hk).1)
   clear own2 grow2
   go_wp2_with fail
   go_roundw
   case rel=>exact⟨K+1,by omega,by go_num,HE,HW2⟩
   case measure=>simp [intOf];omega
  ·obtain rfl:K=bl.length:=by omega
   have HE:Hid (RowsO W.heap.size wr (succsF (nm,ps,rt,bl,pl)) _):=hide (by have:=HR.out;rwa [List.take_of_length_le (by simp [succsF])] at this)
   have HE2:=hide (HE.out.base B0.out.size)
   go_wp2_with fail
   go_ret
   exact⟨_,rfl,HE2.out,below_step B0.out HW.out⟩
end Go.Proofs.YtljkgcfnoegibaaGreatDoor
