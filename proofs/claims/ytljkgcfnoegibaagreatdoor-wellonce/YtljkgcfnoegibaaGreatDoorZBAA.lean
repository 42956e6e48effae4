/- Texts of one chain, joined. -/
import Derived.Test.YtljkgcfnoegibaaGreatDoorZAAI
import Derived.ChangeKeysEq
set_option maxRecDepth 20000
namespace Go.Proofs.YtljkgcfnoegibaaGreatDoor
open Go Go.RowKit
theorem IV (n:Nat) (x y:Int) (w:World):(Op.equalIn (n+1) 3 (.int .i64 x) (.int .i64 y)).run Tryz.prog w= .ok (x == y) w:=by
 simp only [Op.equalIn,Sem.run_bind,run_underlying Tryz.underlying3,Result.andThen_ok];rfl
theorem GO (n:Nat) (x y:Int) (w:World):(Op.equalIn (n+1) 27 (.int .i64 x) (.int .i64 y)).run Tryz.prog w= .ok (x == y) w:=by
 simp only [Op.equalIn,Sem.run_bind,run_underlying Tryz.underlying27,Result.andThen_ok];rfl
theorem Ev (a b:Int) (w:World):(Op.equalIn 10000 29 (.agg #[.int .i64 a,.int .i64 b]) (.agg #[.int .i64 a,.int .i64 b])).run Tryz.prog w= .ok true w:=by
 have e2:∀(x y:Int) (w:World),(Op.equalIn 9999 3 (.int .i64 x) (.int .i64 y)).run Tryz.prog w= .ok (x == y) w:=IV 9998;have e3:∀(x y:Int) (w:World),(Op.equalIn 9999 27 (.int .i64 x) (.int .i64 y)).run Tryz.prog w= .ok (x == y) w:=GO 9998;have p0:∀(x y:Value) (w:World),(part 27 #[x,y] 0).run Tryz.prog w= .ok x w:=fun _ _ _=>rfl;have p1:∀(x y:Value) (w:World),(part 3 #[x,y] 1).run Tryz.prog w= .ok y w:=fun _ _ _=>rfl;have hs:Tryz.prog.stoodInHeld 29=false:=by kernel_rfl
 rw [show(10000:Nat)=9999+1 from rfl];unfold Op.equalIn;simp [run_underlying Tryz.underlying29,hs,p0,p1,e2,e3]
end Go.Proofs.YtljkgcfnoegibaaGreatDoor
