/- Texts of one chain, joined. -/
import Derived.Test.YtljkgcfnoegibaaGreatDoorZCAI
import Derived.Test.YtljkgcfnoegibaaGreatDoorZABD
import Derived.Test.YtljkgcfnoegibaaGreatDoorZBAA
set_option maxHeartbeats 2000000
set_option maxRecDepth 20000
namespace Go.Proofs.YtljkgcfnoegibaaGreatDoor
open Go Go.RowKit
open G (Tok Er Ins Fun)
theorem Ay (a b:Int) (w:World):Sem.run Tryz.prog (binOp BinOp.eql 29 (.agg #[.int .i64 a,.int .i64 b]) (.agg #[.int .i64 a,.int .i64 b])) w= .ok (.bool true) w:=by
 have h:=Ev a b w;simp only [binOp,Op.equal];simp [show Op.maxDepth=10000 from rfl,h]
theorem Mq (p:List Fun) (po:Option Addr) (pc:Nat) (w:World) (hp:bK w p (.slice po p.length pc)) (gp:∀y∈p,GxF y) (fp:Few p.length) (hT:Tb w):
  Calls Tryz.prog 3 #[.agg #[.slice po p.length pc]] w fun e w'=>e= .returned (.bool true)∧Below w.heap.size w w':=by
 have CL:=ae (fun w' (b:Below w.heap.size w w')=>kS p po pc w' (hp.below b) fp (fun f hf=>(gp f hf).Ke));have CWk:=ae (fun w' (b:Below w.heap.size w w')=>kM w' (hT.below b));have CSo:=ae (fun(h:iV p=true) w' (b:Below w.heap.size w w')=>eM p po pc w' (hp.below b) (bH h gp).1.1 (bH h gp).1.2.1 (bH h gp).1.2.2.1 (hT.below b) (hT.below b).2.2 (jI (hT.below b).2.2) (bH h gp).1.2.2.2);have CMa:=ae (fun(h:iV p=true) w' (b:Below w.heap.size w w')=>mB p po pc w' (hp.below b) (bH h gp).1.1 (bH h gp).1.2.1 (bH h gp).1.2.2.1 (hT.below b) (hT.below b).2.2 (jI (hT.below b).2.2) (bH h gp).1.2.2.2);have CCh:=ae (fun(h:iV p=true) (src:Bool) w' (b:Below w.heap.size w w')=>oe p src po pc w' (hp.below b) (bH h gp).1.1 (bH h gp).1.2.1 (bH h gp).1.2.2.1 (fun hW f hf=>((bH h gp).1.2.2.2 hW f hf).1));clear hp gp fp hT;generalize p.length=pn at *;have b0:=ah w (.cells #[.slice po pn pc] 24);have H0:=ae (heap_alloc_new w (.cells #[.slice po pn pc] 24));have B0:=ae b0;clear b0;go_enter Tryz.func3,Tryz.ntmps3
 go_upto_region 1 with fail
 show Code.wp _ _ _ _ (w.alloc (.cells #[.slice po pn pc] 24));generalize w.alloc (.cells #[.slice po pn pc] 24)=W at *;have c0:=(aV H0.out).1;go_wp2_with fail
 refine(CL.out W B0.out).mono ?_;rintro e w1 ⟨rfl,b1⟩;have B1:=ae (af B0.out b1);have K0:=ae ((b1.block _ (Array.getElem?_eq_some_iff.1 H0.out).1).trans H0.out);clear b1 c0 CL H0 B0
 cases hL:iV p with
 |false=>
  rw [if_neg (by simp)];clear CSo CMa CCh hL;go_wp2_with fail
  refine(CWk.out w1 B1.out).mono ?_;rintro e w2 ⟨rfl,b2⟩;have B2:=ae (af B1.out b2);clear b2;go_wp2_with fail
  go_ret;exact⟨rfl,B2.out⟩
 |true=>
  rw [if_pos rfl];replace CSo:=ae (CSo.out hL);replace CMa:=ae (CMa.out hL);have CC1:=ae (CCh.out hL true);have CC2:=ae (CCh.out hL false);clear hL CCh;obtain⟨⟨s1,s2⟩,hs⟩:∃s,bj p true=s:=⟨_,rfl⟩;obtain⟨⟨m1,m2⟩,hm⟩:∃s,bj p false=s:=⟨_,rfl⟩;rw [hs] at CSo CC1;rw [hm] at CMa CC2;clear hs hm;have e1:=Ay s1 s2;have e2:=Ay m1 m2;have HBx:=ae (fun x=>af B1.out (L5.ax w1 x));have c0:=fun x=>(aV (((L5.ax w1 x).block _ (Array.getElem?_eq_some_iff.1 K0.out).1).trans K0.out)).1;go_wp2_with fail
  refine L5.aE (by kernel_rfl) (by kernel_rfl) ?_;iterate 4 (go_big_quiet_step (first | (go_at_call 9;exact L5.bC (CSo.out _ (HBx.out _))) | (go_at_call 11;exact L5.bC (CMa.out _ (HBx.out _))) | (go_at_call 8;exact L5.bC (CWk.out _ (HBx.out _))) | (go_at_call 10;exact L5.bC (CC1.out _ (HBx.out _)))))
  repeat (go_big_quiet_step (first | (go_at_call 9;exact L5.bC (CSo.out _ (HBx.out _))) | (go_at_call 11;exact L5.bC (CMa.out _ (HBx.out _))) | (go_at_call 8;exact L5.bC (CWk.out _ (HBx.out _))) | (go_at_call 10;exact L5.bC (CC2.out _ (HBx.out _)))))
  refine wpQuiet_nil ?_;rintro _ ⟨x,rfl⟩;have HX:=ae (HBx.out x);clear c0 HBx;go_wp2_with fail
  go_ret;exact⟨rfl,HX.out⟩
end Go.Proofs.YtljkgcfnoegibaaGreatDoor
