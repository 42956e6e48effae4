/- Texts of one chain, joined. -/
import Derived.Test.YtljkgcfnoegibaaGreatDoorZCAI
import Derived.Test.YtljkgcfnoegibaaGreatDoorZABD
set_option maxHeartbeats 2000000
set_option maxRecDepth 20000
namespace Go.Proofs.YtljkgcfnoegibaaGreatDoor
open Go Go.RowKit
open G (Tok Er Ins Fun noI noB noF)
theorem mF (l:List Int) (ao bo:Option Addr) (ca cb:Nat) (w:World) (hl:l.length≤maxLen) (ha:Sl w ao l) (hb:Sl w bo l):
  Calls Tryz.prog 29 #[.slice ao l.length ca,.slice bo l.length cb] w fun e w'=>e= .returned (.bool true)∧Below w.heap.size w w':=by
 unfold maxLen at hl;have HA:=ae ha;have HB:=ae hb;clear ha hb;go_enter Tryz.func29,Tryz.ntmps29
 go_wp2
 go_loopw [5] (fun i wr=>∃k:Nat,k≤l.length∧i= .int .i64 k∧Below w.heap.size w wr) (fun i _=>l.length - (intOf i).toNat)
 case atStart=>exact⟨0,Nat.zero_le _,rfl,Below.refl _ _⟩
 case round=>
  obtain⟨k,hk,rfl,hB⟩:=hrel;replace hB:=ae hB;by_cases hlt:k < l.length
  ·obtain⟨n,hn⟩:∃n,l[k]? =some n:=⟨l[k],List.getElem?_eq_getElem hlt⟩;rcases HA.out with he | ⟨a,oa,rfl,hal,ha⟩
   ·subst he;simp at hlt
   rcases HB.out with he | ⟨b,ob,rfl,hbl,hb⟩
   ·subst he;simp at hlt
   have hB2:=fun x=>af hB.out (L5.ax wr x);have c1:=fun x=>((hB2 x).cell (p:=⟨a,oa+k,none⟩) hal).trans (ha k n hn);have c2:=fun x=>((hB2 x).cell (p:=⟨b,ob+k,none⟩) hbl).trans (hb k n hn);replace hB2:=ae hB2;clear ha hb hn;go_wp2
   refine L5.aE (by kernel_rfl) (by kernel_rfl) ?_;repeat (go_big_quiet_step (fail))
   refine wpQuiet_nil ?_;rintro _ ⟨x,rfl⟩;go_wp2_with fail
   go_roundw
   case rel=>exact⟨k+1,by omega,by go_num,hB2.out x⟩
   case measure=>simp [intOf];omega
  ·go_wp2
   go_ret;exact⟨rfl,hB.out⟩
theorem BN (op id nn ty pp qq:Int) (ar tt:List Int) (s:ByteArray) (ao to bo uo:Option Addr) (ca ct cb cu:Nat) (w:World) (la:ar.length≤maxLen) (lt:tt.length≤maxLen) (ha:Sl w ao ar) (ht:Sl w to tt) (hb:Sl w bo ar) (hu:Sl w uo tt):
  Calls Tryz.prog 30 #[.agg #[.int .i64 op,.int .i64 id,.int .i64 nn,.int .i64 ty,.slice ao ar.length ca,.slice to tt.length ct,.string s,.int .i64 pp],.agg #[.int .i64 op,.int .i64 id,.int .i64 nn,.int .i64 ty,.slice bo ar.length cb,.slice uo tt.length cu,.string s,.int .i64 qq]] w fun e w'=>e= .returned (.bool true)∧Below w.heap.size w w':=by
 have b0:=af (ah w (.cells #[.int .i64 op,.int .i64 id,.int .i64 nn,.int .i64 ty,.slice ao ar.length ca,.slice to tt.length ct,.string s,.int .i64 pp] 47)) (ah (w.alloc (.cells #[.int .i64 op,.int .i64 id,.int .i64 nn,.int .i64 ty,.slice ao ar.length ca,.slice to tt.length ct,.string s,.int .i64 pp] 47)) (.cells #[.int .i64 op,.int .i64 id,.int .i64 nn,.int .i64 ty,.slice bo ar.length cb,.slice uo tt.length cu,.string s,.int .i64 qq] 47));have B1:=ae (L5.Box.new w [.int .i64 op,.int .i64 id,.int .i64 nn,.int .i64 ty,.slice ao ar.length ca,.slice to tt.length ct,.string s,.int .i64 pp] 47);have B2:=ae (B1.out.below (ah (w.alloc (.cells #[.int .i64 op,.int .i64 id,.int .i64 nn,.int .i64 ty,.slice ao ar.length ca,.slice to tt.length ct,.string s,.int .i64 pp] 47)) (.cells #[.int .i64 op,.int .i64 id,.int .i64 nn,.int .i64 ty,.slice bo ar.length cb,.slice uo tt.length cu,.string s,.int .i64 qq] 47)));have B3:Hid (L5.Box _ (w.heap.size+1) _):=ae (by
  have:=L5.Box.new (w.alloc (.cells #[.int .i64 op,.int .i64 id,.int .i64 nn,.int .i64 ty,.slice ao ar.length ca,.slice to tt.length ct,.string s,.int .i64 pp] 47)) [.int .i64 op,.int .i64 id,.int .i64 nn,.int .i64 ty,.slice bo ar.length cb,.slice uo tt.length cu,.string s,.int .i64 qq] 47;rwa [show(w.alloc (.cells #[.int .i64 op,.int .i64 id,.int .i64 nn,.int .i64 ty,.slice ao ar.length ca,.slice to tt.length ct,.string s,.int .i64 pp] 47)).heap.size=w.heap.size+1 from by simp] at this)
 have H1:=ae (ha.below b0);have H2:=ae (ht.below b0);have H3:=ae (hb.below b0);have H4:=ae (hu.below b0);have b0:=ae b0;clear ha ht hb hu B1;go_enter Tryz.func30,Tryz.ntmps30
 go_upto_region 1 with fail
 show Code.wp _ _ _ _ ((w.alloc (.cells #[.int .i64 op,.int .i64 id,.int .i64 nn,.int .i64 ty,.slice ao ar.length ca,.slice to tt.length ct,.string s,.int .i64 pp] 47)).alloc (.cells #[.int .i64 op,.int .i64 id,.int .i64 nn,.int .i64 ty,.slice bo ar.length cb,.slice uo tt.length cu,.string s,.int .i64 qq] 47));replace B2:Hid (L5.Box ((w.alloc (.cells #[.int .i64 op,.int .i64 id,.int .i64 nn,.int .i64 ty,.slice ao ar.length ca,.slice to tt.length ct,.string s,.int .i64 pp] 47)).alloc (.cells #[.int .i64 op,.int .i64 id,.int .i64 nn,.int .i64 ty,.slice bo ar.length cb,.slice uo tt.length cu,.string s,.int .i64 qq] 47)) w.heap.size [.int .i64 op,.int .i64 id,.int .i64 nn,.int .i64 ty,.slice ao ar.length ca,.slice to tt.length ct,.string s,.int .i64 pp]):=B2;replace B3:Hid (L5.Box ((w.alloc (.cells #[.int .i64 op,.int .i64 id,.int .i64 nn,.int .i64 ty,.slice ao ar.length ca,.slice to tt.length ct,.string s,.int .i64 pp] 47)).alloc (.cells #[.int .i64 op,.int .i64 id,.int .i64 nn,.int .i64 ty,.slice bo ar.length cb,.slice uo tt.length cu,.string s,.int .i64 qq] 47)) (w.heap.size+1) [.int .i64 op,.int .i64 id,.int .i64 nn,.int .i64 ty,.slice bo ar.length cb,.slice uo tt.length cu,.string s,.int .i64 qq]):=B3;generalize (w.alloc (.cells #[.int .i64 op,.int .i64 id,.int .i64 nn,.int .i64 ty,.slice ao ar.length ca,.slice to tt.length ct,.string s,.int .i64 pp] 47)).alloc (.cells #[.int .i64 op,.int .i64 id,.int .i64 nn,.int .i64 ty,.slice bo ar.length cb,.slice uo tt.length cu,.string s,.int .i64 qq] 47)=W at *;have x0:=B2.out.2 0 _ rfl;have x1:=B2.out.2 1 _ rfl;have x2:=B2.out.2 2 _ rfl;have x3:=B2.out.2 3 _ rfl;have x4:=B2.out.2 4 _ rfl;have x6:=B2.out.2 6 _ rfl;have y0:=B3.out.2 0 _ rfl;have y1:=B3.out.2 1 _ rfl;have y2:=B3.out.2 2 _ rfl;have y3:=B3.out.2 3 _ rfl;have y4:=B3.out.2 4 _ rfl;have y6:=B3.out.2 6 _ rfl;go_wp2_with fail
 refine(mF ar ao bo ca cb _ la H1.out H3.out).mono ?_;rintro e w1 ⟨rfl,b1⟩;clear x0 x1 x2 x3 x4 x6 y0 y1 y2 y3 y4 y6;have x5:=(B2.out.below b1).2 5 _ rfl;have y5:=(B3.out.below b1).2 5 _ rfl;replace b1:=ae b1;go_wp2_with fail
 refine(mF tt to uo ct cu _ lt (H2.out.below b1.out) (H4.out.below b1.out)).mono ?_;rintro e w2 ⟨rfl,b2⟩;go_wp2_with fail
 go_ret;exact⟨rfl,af (af b0.out b1.out) b2⟩
theorem Ah {α β:Type} {f:α→β} {l m:List α} (h:l.map f=m.map f) {i:Nat} {y:α} (hy:m[i]? =some y):∃x,l[i]? =some x∧f x=f y:=by
 have e:=congrArg (·[i]?) h;simp only [List.getElem?_map,hy,Option.map_some] at e
 cases hx:l[i]? with
 |none=>rw [hx] at e;cases e
 |some x=>rw [hx] at e;exact⟨x,rfl,Option.some.inj e⟩
theorem DB {α β:Type} {f:α→β} {l m:List α} (h:l.map f=m.map f):l.length=m.length:=by
 have:=congrArg List.length h;simpa using this
theorem JK {x y:Ins} (h:noI x=noI y):∃op id n ty ar tt nm p q,x=(op,id,n,ty,ar,tt,nm,p)∧y=(op,id,n,ty,ar,tt,nm,q):=by
 obtain⟨a0,a1,a2,a3,a4,a5,a6,a7⟩:=x;obtain⟨b0,b1,b2,b3,b4,b5,b6,b7⟩:=y;simp only [noI,Prod.mk.injEq] at h;obtain⟨rfl,rfl,rfl,rfl,rfl,rfl,rfl,_⟩:=h;exact⟨_,_,_,_,_,_,_,_,_,rfl,rfl⟩
theorem BR (nm:List UInt8) (ps:List Int) (rt pl ql:Int) (bl bm:List (List Ins)) (hlike:bm.map noB=bl.map noB) (ao bo uo vo:Option Addr) (ca cb cu cv:Nat) (w:World) (lp:ps.length≤maxLen) (lb:bl.length≤maxLen)
  (ha:Sl w ao ps) (hb:dy w bm (.slice bo bl.length cb)) (hu:Sl w uo ps) (hv:dy w bl (.slice vo bl.length cv)):
  Calls Tryz.prog 14 #[.agg #[.string (bs nm),.slice ao ps.length ca,.int .i64 rt,.slice bo bl.length cb,.int .i64 pl],.agg #[.string (bs nm),.slice uo ps.length cu,.int .i64 rt,.slice vo bl.length cv,.int .i64 ql]] w fun e w'=>e= .returned (.bool true)∧Below w.heap.size w w':=by
 have b0:=af (ah w (.cells #[.string (bs nm),.slice ao ps.length ca,.int .i64 rt,.slice bo bl.length cb,.int .i64 pl] 36)) (ah (w.alloc (.cells #[.string (bs nm),.slice ao ps.length ca,.int .i64 rt,.slice bo bl.length cb,.int .i64 pl] 36)) (.cells #[.string (bs nm),.slice uo ps.length cu,.int .i64 rt,.slice vo bl.length cv,.int .i64 ql] 36));have B1:=ae (L5.Box.new w [.string (bs nm),.slice ao ps.length ca,.int .i64 rt,.slice bo bl.length cb,.int .i64 pl] 36);have B2:Hid (L5.Box ((w.alloc (.cells #[.string (bs nm),.slice ao ps.length ca,.int .i64 rt,.slice bo bl.length cb,.int .i64 pl] 36)).alloc (.cells #[.string (bs nm),.slice uo ps.length cu,.int .i64 rt,.slice vo bl.length cv,.int .i64 ql] 36)) w.heap.size [.string (bs nm),.slice ao ps.length ca,.int .i64 rt,.slice bo bl.length cb,.int .i64 pl]):=ae (B1.out.below (ah (w.alloc (.cells #[.string (bs nm),.slice ao ps.length ca,.int .i64 rt,.slice bo bl.length cb,.int .i64 pl] 36)) (.cells #[.string (bs nm),.slice uo ps.length cu,.int .i64 rt,.slice vo bl.length cv,.int .i64 ql] 36)));have B3:Hid (L5.Box ((w.alloc (.cells #[.string (bs nm),.slice ao ps.length ca,.int .i64 rt,.slice bo bl.length cb,.int .i64 pl] 36)).alloc (.cells #[.string (bs nm),.slice uo ps.length cu,.int .i64 rt,.slice vo bl.length cv,.int .i64 ql] 36)) (w.heap.size+1) [.string (bs nm),.slice uo ps.length cu,.int .i64 rt,.slice vo bl.length cv,.int .i64 ql]):=ae (by
  have:=L5.Box.new (w.alloc (.cells #[.string (bs nm),.slice ao ps.length ca,.int .i64 rt,.slice bo bl.length cb,.int .i64 pl] 36)) [.string (bs nm),.slice uo ps.length cu,.int .i64 rt,.slice vo bl.length cv,.int .i64 ql] 36;rwa [show(w.alloc (.cells #[.string (bs nm),.slice ao ps.length ca,.int .i64 rt,.slice bo bl.length cb,.int .i64 pl] 36)).heap.size=w.heap.size+1 from by simp] at this)
 have H1:=ae (ha.below b0);have H2:=ae (hb.below b0);have H3:=ae (hu.below b0);have H4:=ae (hv.below b0);have b0:=ae b0;clear ha hb hu hv B1;replace hlike:=ae hlike;go_enter Tryz.func14,Tryz.ntmps14
 go_upto_region 1 with fail
 show Code.wp _ _ _ _ ((w.alloc (.cells #[.string (bs nm),.slice ao ps.length ca,.int .i64 rt,.slice bo bl.length cb,.int .i64 pl] 36)).alloc (.cells #[.string (bs nm),.slice uo ps.length cu,.int .i64 rt,.slice vo bl.length cv,.int .i64 ql] 36));generalize (w.alloc (.cells #[.string (bs nm),.slice ao ps.length ca,.int .i64 rt,.slice bo bl.length cb,.int .i64 pl] 36)).alloc (.cells #[.string (bs nm),.slice uo ps.length cu,.int .i64 rt,.slice vo bl.length cv,.int .i64 ql] 36)=W at *;have x0:=B2.out.2 0 _ rfl;have x1:=B2.out.2 1 _ rfl;have x2:=B2.out.2 2 _ rfl;have y0:=B3.out.2 0 _ rfl;have y1:=B3.out.2 1 _ rfl;have y2:=B3.out.2 2 _ rfl;go_wp2_with fail
 refine(mF ps ao uo ca cu _ lp H1.out H3.out).mono ?_;rintro e w1 ⟨rfl,b1⟩;clear x0 x1 x2 y0 y1 y2 H1 H3;have x3:=(B2.out.below b1).2 3 _ rfl;have y3:=(B3.out.below b1).2 3 _ rfl;replace b1:=ae b1;go_wp2_with fail
 clear x3 y3;unfold maxLen at lb;go_loopw [5] (fun k wr=>∃K:Nat,k= .int .i64 K∧K≤bl.length∧Below W.heap.size W wr) (fun k _=>bl.length - (intOf k).toNat)
 case atStart=>exact⟨0,rfl,Nat.zero_le _,b1.out⟩
 case round=>
  obtain⟨K,rfl,hK,hB⟩:=hrel;have x3:=(B2.out.below hB).2 3 _ rfl;replace hB:=ae hB;by_cases hkt:K < bl.length
  ·obtain⟨b,hbK⟩:∃b,bl[K]? =some b:=⟨bl[K],List.getElem?_eq_some_iff.2 ⟨hkt,rfl⟩⟩;obtain⟨d,hdK,hdb⟩:=Ah hlike.out hbK;obtain⟨_,_,e0,_,_,h2⟩:=H2.out;injection e0 with e1 e2 e3;subst e1 e3;clear e2;rcases h2 with h2 | ⟨gb,ob,rfl,gk,h2⟩
   ·subst h2;simp at hdK
   obtain⟨_,_,e0,_,_,h4⟩:=H4.out;injection e0 with e1 e2 e3;subst e1 e3;clear e2;rcases h4 with h4 | ⟨gc,oc,rfl,gl,h4⟩
   ·subst h4;simp at hkt
   obtain⟨vk,kd,kk⟩:=h2 K d hdK;obtain⟨vl,ke,kl⟩:=h4 K b hbK;clear h2 h4;obtain⟨aok,capk,hvk,_,_,kk⟩:=kk;rw [DB hdb] at hvk;subst hvk;obtain⟨aol,capl,rfl,l1,l2,kl⟩:=kl;have gk:=ae gk;have gl:=ae gl;have lk:b.length≤maxLen:=Nat.le_trans l1 l2;unfold maxLen at lk;clear l1 l2;replace kk:=ae kk;replace kl:=ae kl;replace kd:=ae kd;replace ke:=ae ke;replace hdb:=ae hdb;clear hdK hbK;have hB2:=fun x=>af hB.out (L5.ax wr x);have u3:=fun x=>(B2.out.below (hB2 x)).2 3 _ rfl;have v3:=fun x=>(B3.out.below (hB2 x)).2 3 _ rfl;have ud:=fun x=>((hB2 x).cell (p:=⟨gb,ob+K,none⟩) gk.out).trans kd.out;have vd:=fun x=>((hB2 x).cell (p:=⟨gc,oc+K,none⟩) gl.out).trans ke.out;replace hB2:=ae hB2;go_wp2_with fail
   refine L5.aE (by kernel_rfl) (by kernel_rfl) ?_;repeat (go_big_quiet_step (fail))
   refine wpQuiet_nil ?_;rintro _ ⟨x,rfl⟩;clear u3 v3 ud vd x3;have hBx:=ae (hB2.out x);go_wp2_with fail
   obtain⟨wo,hwo⟩:∃wo:World,wo=L5.aZ wr x:=⟨_,rfl⟩;rw [←hwo] at hBx;rw [←hwo];clear hB2 hB hwo;go_loopw [6] (fun j wr=>∃J:Nat,j= .int .i64 J∧J≤b.length∧Below W.heap.size W wr) (fun j _=>b.length - (intOf j).toNat)
   case atStart=>exact⟨0,rfl,Nat.zero_le _,hBx.out⟩
   case round=>
    obtain⟨J,rfl,hJ,hB⟩:=hrel;have x3:=(B2.out.below hB).2 3 _ rfl;have xd:=(hB.cell (p:=⟨gb,ob+K,none⟩) gk.out).trans kd.out;replace hB:=ae hB;by_cases hjt:J < b.length
    ·obtain⟨y,hyJ⟩:∃y,b[J]? =some y:=⟨b[J],List.getElem?_eq_some_iff.2 ⟨hjt,rfl⟩⟩;obtain⟨z,hzJ,hzy⟩:=Ah hdb.out hyJ;have hB2:=fun x=>af hB.out (L5.ax wr x);rcases kk.out with h | ⟨g1,o1,rfl,kk1⟩
     ·subst h;simp at hzJ
     rcases kl.out with h | ⟨g2,o2,rfl,kl1⟩
     ·subst h;simp at hjt
     have kx:=kk1 J z hzJ;have ky:=kl1 J y hyJ;obtain⟨op,id,nn,ty,ar,tt,na,qp,pp,rfl,rfl⟩:=JK hzy;obtain⟨q1,va,vt,kc,⟨oa,ca1,rfl,sa,la1,la2⟩,⟨ot,ct1,rfl,st,lt1,lt2⟩⟩:=kx;obtain⟨q2,va',vt',kc',⟨oa',ca2,rfl,sa',_,_⟩,⟨ot',ct2,rfl,st',_,_⟩⟩:=ky;have la:ar.length≤maxLen:=Nat.le_trans la1 la2;have lt:tt.length≤maxLen:=Nat.le_trans lt1 lt2;clear kk1 kl1 hzJ hzy hyJ la1 la2 lt1 lt2;have S1:=ae (fun x=>sa.below (hB2 x));have S2:=ae (fun x=>st.below (hB2 x));have S3:=ae (fun x=>sa'.below (hB2 x));have S4:=ae (fun x=>st'.below (hB2 x));have u3:=fun x=>(B2.out.below (hB2 x)).2 3 _ rfl;have v3:=fun x=>(B3.out.below (hB2 x)).2 3 _ rfl;have ud:=fun x=>((hB2 x).cell (p:=⟨gb,ob+K,none⟩) gk.out).trans kd.out;have vd:=fun x=>((hB2 x).cell (p:=⟨gc,oc+K,none⟩) gl.out).trans ke.out;have m0:∀x,(L5.aZ wr x).cell? ⟨g1,o1+J * 8,none⟩=some (.int .i64 op):=fun x=>((hB2 x).cell (p:=⟨g1,o1+J * 8,none⟩) q1).trans (kc 0 _ rfl);have m1:∀x,(L5.aZ wr x).cell? ⟨g1,o1+J * 8+1,none⟩=some (.int .i64 id):=fun x=>((hB2 x).cell (p:=⟨g1,o1+J * 8+1,none⟩) q1).trans (kc 1 _ rfl);have m2:∀x,(L5.aZ wr x).cell? ⟨g1,o1+J * 8+2,none⟩=some (.int .i64 nn):=fun x=>((hB2 x).cell (p:=⟨g1,o1+J * 8+2,none⟩) q1).trans (kc 2 _ rfl);have m3:∀x,(L5.aZ wr x).cell? ⟨g1,o1+J * 8+3,none⟩=some (.int .i64 ty):=fun x=>((hB2 x).cell (p:=⟨g1,o1+J * 8+3,none⟩) q1).trans (kc 3 _ rfl);have m4:∀x,(L5.aZ wr x).cell? ⟨g1,o1+J * 8+4,none⟩=some (.slice oa ar.length ca1):=fun x=>((hB2 x).cell (p:=⟨g1,o1+J * 8+4,none⟩) q1).trans (kc 4 _ rfl);have m5:∀x,(L5.aZ wr x).cell? ⟨g1,o1+J * 8+5,none⟩=some (.slice ot tt.length ct1):=fun x=>((hB2 x).cell (p:=⟨g1,o1+J * 8+5,none⟩) q1).trans (kc 5 _ rfl);have m6:∀x,(L5.aZ wr x).cell? ⟨g1,o1+J * 8+6,none⟩=some (.string (bs na)):=fun x=>((hB2 x).cell (p:=⟨g1,o1+J * 8+6,none⟩) q1).trans (kc 6 _ rfl);have m7:∀x,(L5.aZ wr x).cell? ⟨g1,o1+J * 8+7,none⟩=some (.int .i64 qp):=fun x=>((hB2 x).cell (p:=⟨g1,o1+J * 8+7,none⟩) q1).trans (kc 7 _ rfl);have n0:∀x,(L5.aZ wr x).cell? ⟨g2,o2+J * 8,none⟩=some (.int .i64 op):=fun x=>((hB2 x).cell (p:=⟨g2,o2+J * 8,none⟩) q2).trans (kc' 0 _ rfl);have n1:∀x,(L5.aZ wr x).cell? ⟨g2,o2+J * 8+1,none⟩=some (.int .i64 id):=fun x=>((hB2 x).cell (p:=⟨g2,o2+J * 8+1,none⟩) q2).trans (kc' 1 _ rfl);have n2:∀x,(L5.aZ wr x).cell? ⟨g2,o2+J * 8+2,none⟩=some (.int .i64 nn):=fun x=>((hB2 x).cell (p:=⟨g2,o2+J * 8+2,none⟩) q2).trans (kc' 2 _ rfl);have n3:∀x,(L5.aZ wr x).cell? ⟨g2,o2+J * 8+3,none⟩=some (.int .i64 ty):=fun x=>((hB2 x).cell (p:=⟨g2,o2+J * 8+3,none⟩) q2).trans (kc' 3 _ rfl);have n4:∀x,(L5.aZ wr x).cell? ⟨g2,o2+J * 8+4,none⟩=some (.slice oa' ar.length ca2):=fun x=>((hB2 x).cell (p:=⟨g2,o2+J * 8+4,none⟩) q2).trans (kc' 4 _ rfl);have n5:∀x,(L5.aZ wr x).cell? ⟨g2,o2+J * 8+5,none⟩=some (.slice ot' tt.length ct2):=fun x=>((hB2 x).cell (p:=⟨g2,o2+J * 8+5,none⟩) q2).trans (kc' 5 _ rfl);have n6:∀x,(L5.aZ wr x).cell? ⟨g2,o2+J * 8+6,none⟩=some (.string (bs na)):=fun x=>((hB2 x).cell (p:=⟨g2,o2+J * 8+6,none⟩) q2).trans (kc' 6 _ rfl);have n7:∀x,(L5.aZ wr x).cell? ⟨g2,o2+J * 8+7,none⟩=some (.int .i64 pp):=fun x=>((hB2 x).cell (p:=⟨g2,o2+J * 8+7,none⟩) q2).trans (kc' 7 _ rfl);replace hB2:=ae hB2;clear kc kc' sa st sa' st';go_wp2_with fail
     refine L5.aE (by kernel_rfl) (by kernel_rfl) ?_;repeat (go_big_quiet_step ((go_at_call 30;exact L5.bC (BN op id nn ty qp pp ar tt (bs na) oa ot oa' ot' ca1 ct1 ca2 ct2 _ la lt (S1.out _) (S2.out _) (S3.out _) (S4.out _)))))
     refine wpQuiet_nil ?_;rintro _ ⟨x,rfl⟩;clear u3 v3 ud vd x3 xd m0 m1 m2 m3 m4 m5 m6 m7 n0 n1 n2 n3 n4 n5 n6 n7;go_wp2_with fail
     go_roundw
     case rel=>exact⟨J+1,by go_num,by omega,hB2.out x⟩
     case measure=>simp [intOf];omega
    ·obtain rfl:J=b.length:=(by omega);go_wp2_with fail
     go_roundw
     case rel=>exact⟨K+1,by go_num,by omega,hB.out⟩
     case measure=>simp [intOf];omega
  ·have hge:¬((K:Int) < (bl.length:Int)):=(by omega);clear hkt;go_wp2_with fail
   go_ret;exact⟨rfl,af b0.out hB.out⟩
open G (Tok Er Ins Fun)
def vv (f:Fun) (id:Int):Int:=(eA f id f.2.2.2.1.length 0).2.2.1
theorem Dg (f:Fun) (id:Int) (v:Value) (w:World) (hv:cg w f v) (hF:Mod f):
  Calls Tryz.prog 16 #[v,.int .i64 id] w fun e w'=>e= .returned (.int .i64 (vv f id))∧Below w.heap.size w w':=by
 have hfl:∀(a b c d:Value) (w:World),(Instr.field 62 (.agg #[a,b,c,d]) 2).run Tryz.prog w= .ok c w:=fun _ _ _ _ _=>rfl;obtain⟨lp,cp,lb,cb,rfl,X,b0⟩:=de hv;have HM:=ae (nJ f id f.2.2.2.1.length 0 _ _ (hv.below b0) hF hF.1 (by omega));have HTy:Hid (vv f id=(eA f id f.2.2.2.1.length 0).2.2.1):=ae rfl;have hN:=hF.1;unfold Gt at HM;have X0:=ae X;have B0:=ae b0;clear hv X b0 hF;generalize eA f id f.2.2.2.1.length 0=m at *;generalize bs f.1=nm at *;generalize f.2.1.length=lps at *;generalize f.2.2.1=rt at *;generalize f.2.2.2.1.length=lbs at *;generalize f.2.2.2.2=pl at *;go_enter Tryz.func16,Tryz.ntmps16
 go_upto_region 1 with fail
 show Code.wp _ _ _ _ (w.alloc (.cells #[.string nm,.slice lp lps cp,.int .i64 rt,.slice lb lbs cb,.int .i64 pl] 36));generalize w.alloc (.cells #[.string nm,.slice lp lps cp,.int .i64 rt,.slice lb lbs cb,.int .i64 pl] 36)=W at *;obtain⟨x0,x1,x2,x3,x4⟩:_∧_∧_∧_∧_:=⟨X0.out.2 0 _ rfl,X0.out.2 1 _ rfl,X0.out.2 2 _ rfl,X0.out.2 3 _ rfl,X0.out.2 4 _ rfl⟩;go_wp2_with fail
 refine HM.out.mono ?_;rintro e w1 ⟨rfl,b1⟩;have HE:=ae (af B0.out b1);clear HM b1 x0 x1 x2 x3 x4;go_wp2_with fail
 go_ret;exact⟨bU HTy.out.symm,HE.out⟩
theorem qU {p:List Fun} {i:Nat} (hi:i < p.length):aF p i∈p:=List.mem_of_getElem? (eQ hi)
open Go Go.RowKit Go.Maps
open Mix (Up)
theorem BO (f:Fun) (v u:Value) (w:World) (hv:cg w f v) (hu:cg w f u):Calls Tryz.prog 14 #[v,u] w fun e w'=>e= .returned (.bool true)∧Below w.heap.size w w':=by
 obtain⟨nm,ps,rt,bl,pl⟩:=f;obtain⟨_,_,rfl,⟨ao,ca,rfl,ha,la,lb⟩,hB⟩:=hv;obtain⟨_,_,rfl,⟨uo,cu,rfl,hU,_,_⟩,hC⟩:=hu;obtain⟨bo,cb,rfl,h1,h2,h3⟩:=hB;obtain⟨vo,cv,rfl,k1,k2,k3⟩:=hC;exact BR nm ps rt pl pl bl bl rfl ao bo uo vo ca cb cu cv w (Nat.le_trans la lb) (Nat.le_trans h1 h2) ha ⟨bo,cb,rfl,h1,h2,h3⟩ hU ⟨vo,cv,rfl,k1,k2,k3⟩
def TyV (f:Fun) (id T:Int) (w:World) (v:Value):Prop:=∃b,v= .map (some b)∧cI w b (f.2.1.length+(mkL (bB f f.2.2.2.1.length 0)).length) (fun a=>tyL f a (bB f f.2.2.2.1.length 0))∧(tyL f id (bB f f.2.2.2.1.length 0)).getD 0=T
theorem TyV.below {f:Fun} {id T:Int} {w w':World} {v:Value} (h:TyV f id T w v) (b:Below w.heap.size w w'):TyV f id T w' v:=by
 obtain⟨m,rfl,h1,h2⟩:=h;exact⟨m,rfl,bS.below h1 b,h2⟩
def KZ (q g o i pn pc:Nat) (fv:Value) (f:Fun) (id T:Int) (t:Tmp):Up:=match t with
 |55=>Up.eq (.pointer (some ⟨q,0,none⟩))
 |56=>Up.eq (.slice (some ⟨g,o,none⟩) pn pc)
 |57=>Up.eq (.int .i64 i)
 |58=>Up.eq (.pointer (some ⟨g,o+i * 5,none⟩))
 |59=>Up.eq fv
 |60=>⟨fun v w=>TyV f id T w v,fun _ _ _ b h=>h.below b⟩
 |61=>Up.eq (.int .i64 id)
 |62=>Up.eq (.int .i64 T)
 |63=>Up.eq (.pointer (some ⟨q,0,none⟩))
 |64=>Up.eq (.slice (some ⟨g,o,none⟩) pn pc)
 |65=>Up.eq (.int .i64 i)
 |66=>Up.eq (.pointer (some ⟨g,o+i * 5,none⟩))
 |67=>Up.eq fv
 |68=>Up.eq (.int .i64 id)
 |69=>Up.eq (.int .i64 T)
 |70=>Up.eq (.bool false)
 |_=>Up.any
theorem yu {p:List Fun} (h:(bj p false).1=0) {i:Nat} (hi:i < p.length) (id:Int):(tyL (aF p i) id (bB (aF p i) (aF p i).2.2.2.1.length 0)).getD 0=vv (aF p i) id:=by
 obtain⟨_,_,h3⟩:=mM h;obtain⟨_,_,c,_⟩:=tx (h3 i hi);rw [AE _ (Nat.le_refl _) (AU c _ _)];unfold vv;rw [made_pl]
 cases plF (aF p i) id (aF p i).2.2.2.1.length 0 <;> rfl
theorem LN (p:List Fun) (nm:List UInt8) (id:Int) (po:Option Addr) (pc:Nat) (w:World) (hp:bK w p (.slice po p.length pc)) (gp:∀y∈p,GxF y) (fp:Few p.length) (hid:Wf6 id) (hT:Tb w):
  Calls Tryz.prog 4 #[.agg #[.slice po p.length pc],.string (bs nm),.int .i64 id] w fun e w'=>e= .returned (.bool true)∧Below w.heap.size w w':=by
 have hfl:∀(a b:Value) (w:World),(Instr.field 29 (.agg #[a,b]) 0).run Tryz.prog w= .ok a w:=fun _ _ _=>rfl;have CL:=ae (fun w' (b:Below w.heap.size w w')=>kS p po pc w' (hp.below b) fp (fun f hf=>(gp f hf).Ke));have CWk:=ae (fun w' (b:Below w.heap.size w w')=>kM w' (hT.below b));have CCh:=ae (fun(h:iV p=true) w' (b:Below w.heap.size w w')=>oe p false po pc w' (hp.below b) (bH h gp).1.1 (bH h gp).1.2.1 (bH h gp).1.2.2.1 (fun hW f hf=>((bH h gp).1.2.2.2 hW f hf).1));have HKp:Hid (∀(h:iV p=true) (hc:(bj p false).1=0),∀f∈p,(aH f).1=0∧Kept p f∧tM f):=ae (fun h hc f hf=>by
  obtain⟨a,_,c⟩:=mM hc;obtain⟨i,hi,rfl⟩:=List.getElem_of_mem hf;have hfi:=c i hi;rw [show aF p i=p[i] from by unfold aF;simp [hi]] at hfi;have:=(bH h gp).1.2.2.2 a _ hf;exact⟨(tx hfi).1,this.1,this.2.1⟩)
 have CFd:=ae (fun(h:iV p=true) (hc:(bj p false).1=0) w' (b:Below w.heap.size w w')=>qw p nm po pc w' (hp.below b) (bH h gp).1.1 (Ft (bH h gp).2 (fun f hf=>⟨(HKp.out h hc f hf).1,(HKp.out h hc f hf).2.1⟩)));have CRf:=ae (fun(h:iV p=true) w' (b:Below w.heap.size w w')=>lI p nm po pc w' (hp.below b) (bH h gp).1.1);have HRd:Hid (∀i,i < p.length→∃g o,po=some ⟨g,o,none⟩∧lS w (aF p i) g (o+i * 5)):=ae (fun i hi=>eh hp hi);have CTyA:=ae (fun(h:iV p=true) (hc:(bj p false).1=0) i (hi:i < p.length) fv w' (b:Below w.heap.size w w') (hv:cg w' (aF p i) fv)=>oC (aF p i) fv w' hv (hT.below b).2.2 ((bH h gp).1.2.2.1 _ (qU hi)).1 (HKp.out h hc _ (qU hi)).2.2);have CTfA:=ae (fun(h:iV p=true) i (hi:i < p.length) fv w' (_:Below w.heap.size w w') (hv:cg w' (aF p i) fv)=>Dg (aF p i) id fv w' hv ((bH h gp).1.2.2.1 _ (qU hi)).1);have HTy:=ae (fun(hc:(bj p false).1=0) i (hi:i < p.length)=>yu hc hi id);have HLn:Hid (iV p=true→p.length≤100):=ae (fun h=>(oY h).1);have HId:=ae hid;clear hp gp fp hT HKp hid;obtain⟨pn,hpn⟩:∃n,p.length=n:=⟨_,rfl⟩;rw [hpn] at CL CCh CFd CRf HRd CTyA CTfA HTy HLn ⊢;clear hpn;obtain⟨bnm,hnm⟩:∃s,bs nm=s:=⟨_,rfl⟩;rw [hnm] at CFd CRf ⊢;clear hnm;have b0:=ah w (.cells #[.slice po pn pc] 24);have H0:=ae (heap_alloc_new w (.cells #[.slice po pn pc] 24));have B0:=ae b0;clear b0;go_enter Tryz.func4,Tryz.ntmps4
 go_upto_region 1 with fail
 show Code.wp _ _ _ _ (w.alloc (.cells #[.slice po pn pc] 24));generalize w.alloc (.cells #[.slice po pn pc] 24)=W at *;have c0:=(aV H0.out).1;go_wp2_with fail
 refine(CL.out W B0.out).mono ?_;rintro e w1 ⟨rfl,b1⟩;have B1:=ae (af B0.out b1);have K0:=ae ((b1.block _ (Array.getElem?_eq_some_iff.1 H0.out).1).trans H0.out);clear b1 c0 CL H0 B0
 cases hL:iV p with
 |false=>
  rw [if_neg (by simp)];clear CCh CFd CRf HRd CTyA CTfA HTy hL;go_wp2_with fail
  refine(CWk.out w1 B1.out).mono ?_;rintro e w2 ⟨rfl,b2⟩;have B2:=ae (af B1.out b2);clear b2;go_wp2_with fail
  go_ret;exact⟨rfl,B2.out⟩
 |true=>
  rw [if_pos rfl];replace CCh:=ae (CCh.out hL);replace CFd:=ae (CFd.out hL);replace CRf:=ae (CRf.out hL);replace CTyA:=ae (CTyA.out hL);replace CTfA:=ae (CTfA.out hL);have hpl:pn≤100:=HLn.out hL;clear hL HLn;have c0:=(aV K0.out).1;by_cases hlen:(100:Int) < bnm.size
  ·clear CCh CFd CRf HRd CTyA CTfA HTy;go_wp2_with fail
   refine(CWk.out w1 B1.out).mono ?_;rintro e w2 ⟨rfl,b2⟩;have B2:=ae (af B1.out b2);clear b2;go_wp2_with fail
   go_ret;exact⟨rfl,B2.out⟩
  ·have C1:=ae (CCh.out w1 B1.out);obtain⟨⟨s1,s2⟩,hs⟩:∃s,bj p false=s:=⟨_,rfl⟩;rw [hs] at C1 CFd CTyA HTy;clear hs CCh;go_wp2_with fail
   refine C1.out.mono ?_;rintro e w2 ⟨rfl,b2⟩;have B2:=ae (af B1.out b2);have K2:=ae ((b2.block _ (Array.getElem?_eq_some_iff.1 K0.out).1).trans K0.out);clear b2 C1 c0 B1 K0;by_cases hs1:s1=0
   ·replace CFd:=ae (CFd.out hs1);replace CTyA:=ae (CTyA.out hs1);replace HTy:=ae (HTy.out hs1);subst hs1;have c0:=(aV K2.out).1;have C2:=ae (CFd.out w2 B2.out);obtain⟨rb,hrb⟩:∃r,(findF p nm).isSome=r:=⟨_,rfl⟩;obtain⟨ff,hff⟩:∃r,(findF p nm).getD ie=r:=⟨_,rfl⟩;rw [hrb,hff] at C2 CRf;clear hrb hff CFd;go_wp2_with fail
    refine C2.out.mono ?_;rintro e w3 ⟨⟨fv,rfl,hfv⟩,b3⟩;obtain⟨lp,cp,lb,cb,rfl,_,_⟩:=de hfv;have b4:=ah w3 (.cells #[.string (bs ff.1),.slice lp ff.2.1.length cp,.int .i64 ff.2.2.1,.slice lb ff.2.2.2.1.length cb,.int .i64 ff.2.2.2.2] 36);have D4:=ae (heap_alloc_new w3 (.cells #[.string (bs ff.1),.slice lp ff.2.1.length cp,.int .i64 ff.2.2.1,.slice lb ff.2.2.2.1.length cb,.int .i64 ff.2.2.2.2] 36));have HF4:=ae (hfv.below b4);have B4:=ae (af B2.out (af b3 b4));have K4:=ae (((af b3 b4).block _ (Array.getElem?_eq_some_iff.1 K2.out).1).trans K2.out);clear b3 b4 hfv c0 C2 K2 B2;obtain⟨fnm,hfn⟩:∃n,bs ff.1=n:=⟨_,rfl⟩;obtain⟨fl,hfl2⟩:∃n,ff.2.1.length=n:=⟨_,rfl⟩;obtain⟨fr,hfr⟩:∃n,ff.2.2.1=n:=⟨_,rfl⟩;obtain⟨fb,hfb⟩:∃n,ff.2.2.2.1.length=n:=⟨_,rfl⟩;obtain⟨fq,hfq⟩:∃n,ff.2.2.2.2=n:=⟨_,rfl⟩;rw [hfn,hfl2,hfr,hfb,hfq] at D4 HF4 B4 K4 ⊢;go_upto_region 4 with fail
    show Code.wp _ _ _ _ (w3.alloc (.cells #[.string fnm,.slice lp fl cp,.int .i64 fr,.slice lb fb cb,.int .i64 fq] 36));generalize w3.alloc (.cells #[.string fnm,.slice lp fl cp,.int .i64 fr,.slice lb fb cb,.int .i64 fq] 36)=W4 at *;generalize w3.heap.size=q3 at *;have c0:=(aV K4.out).1;have C3:=ae (CRf.out W4 B4.out);clear CRf;go_wp2_with fail
    refine C3.out.mono ?_;rintro e w5 ⟨⟨gv,rfl,hgv⟩,b5⟩;obtain⟨lp2,cp2,lb2,cb2,rfl,_,_⟩:=de hgv;have b6:=ah w5 (.cells #[.string (bs ff.1),.slice lp2 ff.2.1.length cp2,.int .i64 ff.2.2.1,.slice lb2 ff.2.2.2.1.length cb2,.int .i64 ff.2.2.2.2] 36);have D6:=ae (heap_alloc_new w5 (.cells #[.string (bs ff.1),.slice lp2 ff.2.1.length cp2,.int .i64 ff.2.2.1,.slice lb2 ff.2.2.2.1.length cb2,.int .i64 ff.2.2.2.2] 36));have HG6:=ae (hgv.below b6);have HF6:=ae (HF4.out.below (af b5 b6));have B6:=ae (af B4.out (af b5 b6));have K6:=ae (((af b5 b6).block _ (Array.getElem?_eq_some_iff.1 K4.out).1).trans K4.out);have E6:=ae (((af b5 b6).block _ (Array.getElem?_eq_some_iff.1 D4.out).1).trans D4.out);clear b5 b6 hgv c0 C3 K4 B4 D4 HF4;rw [hfn,hfl2,hfr,hfb,hfq] at D6 HG6 HF6 B6 K6 E6 ⊢;clear hfn hfl2 hfr hfb hfq;go_upto_region 5 with fail
    show Code.wp _ _ _ _ (w5.alloc (.cells #[.string fnm,.slice lp2 fl cp2,.int .i64 fr,.slice lb2 fb cb2,.int .i64 fq] 36));generalize w5.alloc (.cells #[.string fnm,.slice lp2 fl cp2,.int .i64 fr,.slice lb2 fb cb2,.int .i64 fq] 36)=W6 at *;generalize w5.heap.size=q5 at *;obtain⟨⟨x0,x1,x2,x3,x4⟩,_,_⟩:=bP E6.out;obtain⟨⟨y0,y1,y2,y3,y4⟩,_,_⟩:=bP D6.out;have C4:=ae (BO ff _ _ W6 HF6.out HG6.out);have hbb:(rb != rb)=false:=(by cases rb <;> rfl);have hbb2:(rb == rb)=true:=(by cases rb <;> rfl);go_wp2_with fail
    refine C4.out.mono ?_;rintro e w7 ⟨rfl,b7⟩;have B7:=ae (af B6.out b7);have K7:=ae ((b7.block _ (Array.getElem?_eq_some_iff.1 K6.out).1).trans K6.out);clear b7 x0 x1 x2 x3 x4 y0 y1 y2 y3 y4 C4 HF6 HG6 D6 E6 K6 B6 hbb hbb2;go_wp2_with fail
    go_loopw [11] (fun iv wr=>∃i:Nat,i≤pn∧iv= .int .i64 i∧Hid (Below w7.heap.size w7 wr)) (fun iv _=>pn - (intOf iv).toNat)
    case atStart=>exact⟨0,Nat.zero_le _,rfl,ae (Below.refl _ _)⟩
    case round=>
     obtain⟨i,hi,rfl,HW⟩:=hrel;have Kr:=ae ((HW.out.block _ (Array.getElem?_eq_some_iff.1 K7.out).1).trans K7.out);have c0:=(aV Kr.out).1;by_cases hit:i < pn
     ·have hiI:(i:Int) < pn:=(by omega);obtain⟨g,o,rfl,hfr⟩:=HRd.out i hit;obtain⟨ha,hb,hc,hdd,hfv,d0,d1,d2,d3,d4⟩:=hfr.val;have hgl:=hfr.1;have Bw:=ae (af B7.out HW.out);obtain⟨T,hTd⟩:∃T,vv (aF p i) id=T:=⟨_,rfl⟩;have HTi:=ae (HTy.out i hit);rw [hTd] at HTi;have CTy0:=ae (fun w' (b:Below wr.heap.size wr w')=>CTyA.out i hit _ w' (af Bw.out b) (hfv.below (af Bw.out b)));have CTf:=ae (fun w' (b:Below wr.heap.size wr w')=>CTfA.out i hit _ w' (af Bw.out b) (hfv.below (af Bw.out b)));rw [hTd] at CTf;obtain⟨fx,hh⟩:∃fx,aF p i=fx:=⟨_,rfl⟩;rw [hh] at d0 d1 d2 d3 d4 CTy0 CTf HTi;have CTy:Hid (∀w',Below wr.heap.size wr w'→Calls Tryz.prog 15 #[(.agg #[.string (bs fx.1),.slice ha fx.2.1.length hc,.int .i64 fx.2.2.1,.slice hb fx.2.2.2.1.length hdd,.int .i64 fx.2.2.2.2])] w' fun e w''=>∃v,e= .returned v∧Below w'.heap.size w' w''∧TyV fx id T w'' v):=ae (fun w' b=>(CTy0.out w' b).mono fun e w'' ⟨m,he,_,hm,hb⟩=>⟨_,he,hb,m,rfl,hm,HTi.out⟩);have cs:=fun(w':World) (b:Below wr.heap.size wr w')=>(b.cell (p:=⟨w.heap.size,0,none⟩) (aV Kr.out).2).trans (aV Kr.out).1;have ds:=fun(w':World) (b:Below wr.heap.size wr w')=>And.intro (((af Bw.out b).cell (p:=⟨g,o+i * 5,none⟩) hgl).trans d0) (And.intro (((af Bw.out b).cell (p:=⟨g,o+i * 5+1,none⟩) hgl).trans d1) (And.intro (((af Bw.out b).cell (p:=⟨g,o+i * 5+2,none⟩) hgl).trans d2) (And.intro (((af Bw.out b).cell (p:=⟨g,o+i * 5+3,none⟩) hgl).trans d3) (((af Bw.out b).cell (p:=⟨g,o+i * 5+4,none⟩) hgl).trans d4))));clear hfv hfr d0 d1 d2 d3 d4 hTd hh CTy0 HTi;go_upto_region 10 with fail
      clear c0;refine Mix.cj (KZ w.heap.size g o i pn pc (.agg #[.string (bs fx.1),.slice ha fx.2.1.length hc,.int .i64 fx.2.2.1,.slice hb fx.2.2.2.1.length hdd,.int .i64 fx.2.2.2.2]) fx id T) (by kernel_rfl) (by kernel_rfl) ?_;refine Mix.aj rfl (aq (.pointer (some ⟨w.heap.size,0,none⟩)) rfl) ?_ ?_
      ·intro w b k;clear k;simp [go_sem];exact⟨Below.refl _ _,fun d hd=>by cases hd;rfl⟩
      rintro v ⟨_,_,h⟩;obtain rfl:v=(.pointer (some ⟨w.heap.size,0,none⟩)):=h _ rfl;clear h;simp only [Act.put,sU1,sU2,sU3];refine Mix.aj rfl (aq (.slice (some ⟨g,o,none⟩) pn pc) rfl) ?_ ?_
      ·intro w b k;have c0:=cs w b;clear k;simp [go_sem,c0];exact⟨Below.refl _ _,fun d hd=>by cases hd;rfl⟩
      rintro v ⟨_,_,h⟩;obtain rfl:v=(.slice (some ⟨g,o,none⟩) pn pc):=h _ rfl;clear h;simp only [Act.put,sU1,sU2,sU3];refine Mix.aj rfl (aq (.int .i64 i) rfl) ?_ ?_
      ·intro w b k;clear k;simp [go_sem];exact⟨Below.refl _ _,fun d hd=>by cases hd;rfl⟩
      rintro v ⟨_,_,h⟩;obtain rfl:v=(.int .i64 i):=h _ rfl;clear h;simp only [Act.put,sU1,sU2,sU3];refine Mix.aj rfl (aq (.pointer (some ⟨g,o+i * 5,none⟩)) rfl) ?_ ?_
      ·intro w b k;clear k;simp [go_sem,hiI];exact⟨Below.refl _ _,fun d hd=>by cases hd;rfl⟩
      rintro v ⟨_,_,h⟩;obtain rfl:v=(.pointer (some ⟨g,o+i * 5,none⟩)):=h _ rfl;clear h;simp only [Act.put,sU1,sU2,sU3];refine Mix.aj rfl (aq (.agg #[.string (bs fx.1),.slice ha fx.2.1.length hc,.int .i64 fx.2.2.1,.slice hb fx.2.2.2.1.length hdd,.int .i64 fx.2.2.2.2]) rfl) ?_ ?_
      ·intro w b k;obtain⟨d0,d1,d2,d3,d4⟩:=ds w b;clear k;simp [go_sem,d0,d1,d2,d3,d4];exact⟨Below.refl _ _,fun d hd=>by cases hd;rfl⟩
      rintro v ⟨_,_,h⟩;obtain rfl:v=(.agg #[.string (bs fx.1),.slice ha fx.2.1.length hc,.int .i64 fx.2.2.1,.slice hb fx.2.2.2.1.length hdd,.int .i64 fx.2.2.2.2]):=h _ rfl;clear h;simp only [Act.put,sU1,sU2,sU3];refine Mix.aj rfl (cD (CTy.out wr (Below.refl _ _))) ?_ ?_
      ·intro w b k;clear k;simp [go_sem];exact Calls.mono (CTy.out w b) fun e w' ⟨v,he,hb,hf⟩=>⟨v,he,hb,fun d hd=>by cases hd;exact hf⟩
      rintro p60 -;simp only [Act.put,sU1,sU2,sU3];refine Mix.aj rfl (aq (.int .i64 id) rfl) ?_ ?_
      ·intro w b k;clear k;simp [go_sem];exact⟨Below.refl _ _,fun d hd=>by cases hd;rfl⟩
      rintro v ⟨_,_,h⟩;obtain rfl:v=(.int .i64 id):=h _ rfl;clear h;simp only [Act.put,sU1,sU2,sU3];refine Mix.aj rfl (aq (.int .i64 T) rfl) ?_ ?_
      ·intro w b k;have f60:TyV fx id T w p60:=k 60 (by decide +kernel) (by simp [Mix.add]) p60 rfl;obtain⟨bm,rfl,hbm⟩:=f60;have hl0:=pJ hbm.1 id HId.out T hbm.2;clear k;simp [go_sem,hl0];exact⟨Below.refl _ _,fun d hd=>by cases hd;rfl⟩
      rintro v ⟨_,_,h⟩;obtain rfl:v=(.int .i64 T):=h _ rfl;clear h;simp only [Act.put,sU1,sU2,sU3];refine Mix.aj rfl (aq (.pointer (some ⟨w.heap.size,0,none⟩)) rfl) ?_ ?_
      ·intro w b k;clear k;simp [go_sem];exact⟨Below.refl _ _,fun d hd=>by cases hd;rfl⟩
      rintro v ⟨_,_,h⟩;obtain rfl:v=(.pointer (some ⟨w.heap.size,0,none⟩)):=h _ rfl;clear h;simp only [Act.put,sU1,sU2,sU3];refine Mix.aj rfl (aq (.slice (some ⟨g,o,none⟩) pn pc) rfl) ?_ ?_
      ·intro w b k;have c0:=cs w b;clear k;simp [go_sem,c0];exact⟨Below.refl _ _,fun d hd=>by cases hd;rfl⟩
      rintro v ⟨_,_,h⟩;obtain rfl:v=(.slice (some ⟨g,o,none⟩) pn pc):=h _ rfl;clear h;simp only [Act.put,sU1,sU2,sU3];refine Mix.aj rfl (aq (.int .i64 i) rfl) ?_ ?_
      ·intro w b k;clear k;simp [go_sem];exact⟨Below.refl _ _,fun d hd=>by cases hd;rfl⟩
      rintro v ⟨_,_,h⟩;obtain rfl:v=(.int .i64 i):=h _ rfl;clear h;simp only [Act.put,sU1,sU2,sU3];refine Mix.aj rfl (aq (.pointer (some ⟨g,o+i * 5,none⟩)) rfl) ?_ ?_
      ·intro w b k;clear k;simp [go_sem,hiI];exact⟨Below.refl _ _,fun d hd=>by cases hd;rfl⟩
      rintro v ⟨_,_,h⟩;obtain rfl:v=(.pointer (some ⟨g,o+i * 5,none⟩)):=h _ rfl;clear h;simp only [Act.put,sU1,sU2,sU3];refine Mix.aj rfl (aq (.agg #[.string (bs fx.1),.slice ha fx.2.1.length hc,.int .i64 fx.2.2.1,.slice hb fx.2.2.2.1.length hdd,.int .i64 fx.2.2.2.2]) rfl) ?_ ?_
      ·intro w b k;obtain⟨d0,d1,d2,d3,d4⟩:=ds w b;clear k;simp [go_sem,d0,d1,d2,d3,d4];exact⟨Below.refl _ _,fun d hd=>by cases hd;rfl⟩
      rintro v ⟨_,_,h⟩;obtain rfl:v=(.agg #[.string (bs fx.1),.slice ha fx.2.1.length hc,.int .i64 fx.2.2.1,.slice hb fx.2.2.2.1.length hdd,.int .i64 fx.2.2.2.2]):=h _ rfl;clear h;simp only [Act.put,sU1,sU2,sU3];refine Mix.aj rfl (aq (.int .i64 id) rfl) ?_ ?_
      ·intro w b k;clear k;simp [go_sem];exact⟨Below.refl _ _,fun d hd=>by cases hd;rfl⟩
      rintro v ⟨_,_,h⟩;obtain rfl:v=(.int .i64 id):=h _ rfl;clear h;simp only [Act.put,sU1,sU2,sU3];refine Mix.aj rfl (aq (.int .i64 T) rfl) ?_ ?_
      ·intro w b k;clear k;simp [go_sem];exact Calls.mono (CTf.out w b) fun e w' ⟨he,hb⟩=>⟨_,he,hb,fun d hd=>by cases hd;rfl⟩
      rintro v ⟨_,_,h⟩;obtain rfl:v=(.int .i64 T):=h _ rfl;clear h;simp only [Act.put,sU1,sU2,sU3];refine Mix.aj rfl (aq (.bool false) rfl) ?_ ?_
      ·intro w b k;clear k;simp [go_sem];exact⟨Below.refl _ _,fun d hd=>by cases hd;rfl⟩
      rintro v ⟨_,_,h⟩;obtain rfl:v=(.bool false):=h _ rfl;clear h;simp only [Act.put,sU1,sU2,sU3];refine Mix.ed ?_;intro w9 b9 hk;clear hk cs ds;have H9:=ae (af HW.out b9);clear b9;go_wp2_with fail
      go_roundw
      case rel=>exact⟨i+1,by omega,by go_num,H9⟩
      case measure=>simp [intOf];omega
     ·have hge:¬((i:Int) < (pn:Int)):=(by omega);clear hit;go_wp2_with fail
      refine(CWk.out wr (af B7.out HW.out)).mono ?_;rintro e w8 ⟨rfl,b8⟩;have B8:=ae (af (af B7.out HW.out) b8);clear b8;go_wp2_with fail
      go_ret;exact⟨rfl,B8.out⟩
   ·clear CFd CRf HRd CTyA CTfA HTy;have hs0:(s1 != 0)=true:=bne_iff_ne.2 hs1;go_wp2_with fail
    refine(CWk.out w2 B2.out).mono ?_;rintro e w3 ⟨rfl,b3⟩;have B3:=ae (af B2.out b3);clear b3;go_wp2_with fail
    go_ret;exact⟨rfl,B3.out⟩
theorem La (p:List Fun) (s:ByteArray) (id:Int) (po:Option Addr) (pc:Nat) (w:World) (hp:bK w p (.slice po p.length pc)) (gp:∀y∈p,GxF y) (fp:Few p.length) (hid:Wf6 id) (hT:Tb w):
  Calls Tryz.prog 4 #[.agg #[.slice po p.length pc],.string s,.int .i64 id] w fun e w'=>e= .returned (.bool true)∧Below w.heap.size w w':=by
 have h:=LN p s.data.toList id po pc w hp gp fp hid hT;rw [D7] at h;exact h
end Go.Proofs.YtljkgcfnoegibaaGreatDoor
