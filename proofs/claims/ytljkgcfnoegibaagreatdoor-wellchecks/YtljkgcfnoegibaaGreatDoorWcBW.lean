/- Texts of one chain, joined. -/
import Derived.Test.YtljkgcfnoegibaaGreatDoorWcAD
import Derived.Test.YtljkgcfnoegibaaGreatDoorRows
import Derived.ProofKit
import Derived.LaidMore
import Derived.OpenShut
import Derived.Stop.Joined
import Derived.ShutString
import Derived.ChangeOld
import Derived.Below
import Derived.Lib.LaidTab
import Derived.Lib.SmallJoins
import Derived.WideKeyPair
namespace Go.Proofs.YtljkgcfnoegibaaGreatDoor
open Go.ChangeShapes Go.WideShapes Go.ChangeAt Go.RowKit
open L5 (letters tk0 tk1 mk ds word)
theorem own:ownKnob Tryz.prog.godebug=none:=by kernel_rfl
theorem laidOut:laidOutB Tryz.prog=true:=by kernel_rfl
def laid2 : List (String × DataW Unit) := [("turntable/ops.rows", Rows.laid_turntable_ops_rows), ("turntable/shape.slotBits", Rows.laid_turntable_shape_slotBits)]
theorem rowsNamed : Tryz.prog.globalNamed "turntable/ops.rows" = some 0 := by kernel_rfl
theorem rowsType:(Tryz.prog.globals[0]?).map (·.type)=some 128:=by kernel_rfl
theorem lc3:Tryz.prog.cellsOf 3=1:=by kernel_rfl
theorem lc9:Tryz.prog.cellsOf 9=1:=by kernel_rfl
theorem lc86:Tryz.prog.cellsOf 89=2:=by kernel_rfl
theorem lc88:Tryz.prog.cellsOf 91=5:=by kernel_rfl
theorem lc117:Tryz.prog.cellsOf 174=16:=by kernel_rfl
def rowD {H:Type} (k:Nat):DataW H:= .agg [.lit (.string (letters k)),.agg [.lit (.int .i64 (tk0 k)),.lit (.int .i64 (tk1 k))],.lit (.int .i64 (mk k)),.lit (.int .i64 (ds k))]
theorem laid_rows {H:Type}:(Rows.laid_turntable_ops_rows:DataW H)= .agg ((List.range 30).map rowD):=by rfl
def bitsTab:List Int:= [1,2,4,8,16,32,64,128,256,512,1024,2048,4096,8192,16384,32768]
theorem bitsNamed : Tryz.prog.globalNamed "turntable/shape.slotBits" = some 1 := by kernel_rfl
theorem bitsType:(Tryz.prog.globals[1]?).map (·.type)=some 174:=by kernel_rfl
theorem bitsData:(Rows.laid_turntable_shape_slotBits:DataW Unit)=Lib.tabData .i64 bitsTab:=by kernel_rfl
theorem bits_pw:∀k,k < 16→bitsTab.getD k 0=L3.pw k:=by decide
section
variable {H:Type} {enc:TypeId × Value→H} {W:World} {base:Nat} {sp:Nat→Bool} {held:Bool}
theorem five {cs:List Value} (h:cs.length=5):∃a b c d e,cs= [a,b,c,d,e]:=by
 match cs,h with
 |[a,b,c,d,e],_=>exact⟨a,b,c,d,e,rfl⟩
theorem str_of {s:ByteArray} {bs:List UInt8} (h:s.data.toList=bs):s=⟨bs.toArray⟩:=by
 subst h;rfl
theorem row_cells {fuel k:Nat} {cs:List Value} {p:List MemPlace} (h:DataW.trod enc Tryz.prog W base sp held fuel 91 cs=some (rowD k,p)):
  cs= [.string (word k),.int .i64 (tk0 k),.int .i64 (tk1 k),.int .i64 (mk k),.int .i64 (ds k)]:=by
 obtain⟨xs,n,_,hx,hl,hlen,hf⟩:=DataW.trod_struct Tryz.underlying91 h
 obtain⟨v0,v1,v2,v3,v4,rfl⟩:=five (hl.trans lc88)
 match xs,hlen with
 |[y0,y1,y2,y3],_=>
  have h0:DataW.trod enc Tryz.prog W base sp held n 9 ([v0,v1,v2,v3,v4].take (Tryz.prog.cellsOf 9))=some y0:=hf 0 _ rfl
  have h1:DataW.trod enc Tryz.prog W base sp held n 89 ([v1,v2,v3,v4].take (Tryz.prog.cellsOf 89))=some y1:=hf 1 _ rfl
  have h2:DataW.trod enc Tryz.prog W base sp held n 3 ([v3,v4].take (Tryz.prog.cellsOf 3))=some y2:=hf 2 _ rfl
  have h3:DataW.trod enc Tryz.prog W base sp held n 3 ([v4].take (Tryz.prog.cellsOf 3))=some y3:=hf 3 _ rfl
  rw [lc9] at h0
  rw [lc86] at h1
  rw [lc3] at h2 h3
  obtain⟨s,e0,rfl,_⟩:=DataW.trod_string Tryz.underlying9 h0
  obtain⟨x2,e2,rfl,_⟩:=DataW.trod_int Tryz.underlying3 h2
  obtain⟨x3,e3,rfl,_⟩:=DataW.trod_int Tryz.underlying3 h3
  obtain⟨zs,m,_,hz,_,hzl,each⟩:=DataW.trod_array Tryz.underlying89 h1
  match zs,hzl with
  |[z0,z1],_=>
   have g0:=each 0 (by decide)
   have g1:=each 1 (by decide)
   simp only [lc3] at g0 g1
   simp at g0 g1
   obtain⟨u0,f0,rfl,_⟩:=DataW.trod_int Tryz.underlying3 g0
   obtain⟨u1,f1,rfl,_⟩:=DataW.trod_int Tryz.underlying3 g1
   subst hz
   simp [rowD] at hx e0 e2 e3 f0 f1
   obtain⟨⟨q0,⟨q1,q2⟩,q3,q4⟩,_⟩:=hx
   subst e0 e2 e3 f0 f1 q1 q2 q3 q4
   rw [str_of q0.symm]
   rfl
end
theorem tabs_of_laid {W:World} (h:laidMetH Tryz.prog laid2 W):Tb W:=by
 rw [MakeChecks.laidMetH_plain _ _ _ (by kernel_rfl)] at h
 obtain⟨ps,⟨g,t,cs,fuel,p,q,hg,ht,hvar,hd,⟨g1,t1,cs1,f1,p1,q1,hg1,ht1,hv1,hd1,_,_⟩,_⟩,_,_⟩:=h
 obtain rfl:=Option.some.inj (rowsNamed.symm.trans hg)
 obtain rfl:=Option.some.inj (rowsType.symm.trans ht)
 rw [laid_rows] at hd
 obtain⟨xs,n,_,hx,hl,hlen,each⟩:=DataW.trod_array Tryz.underlying128 hd
 have hxs:xs.map (·.1)=(List.range 30).map rowD:=by
  have:=congrArg Prod.fst hx
  simpa using this.symm
 have key:∀k,k < 30→(cs.toList.drop (k * 5)).take 5= [.string (word k),.int .i64 (tk0 k),.int .i64 (tk1 k),.int .i64 (mk k),.int .i64 (ds k)]:=by
  intro k hk
  have h1:=each k hk
  rw [lc88] at h1
  obtain⟨y,hy⟩:∃y,xs[k]? =some y:=⟨_,List.getElem?_eq_getElem (by omega)⟩
  have h2:=congrArg (·[k]?) hxs
  simp [hy,hk] at h2
  rw [hy] at h1
  obtain⟨d,pl⟩:=y
  simp at h2
  subst h2
  exact row_cells h1
 have cell:∀k j v,k < 30→j < 5→((cs.toList.drop (k * 5)).take 5)[j]? =some v→W.cell? ⟨0,k * 5+j,none⟩=some v:=by
  intro k j v hk hj hv
  have:=World.var?_cell hg hvar (k * 5+j)
  rw [this]
  simpa [List.getElem?_take,List.getElem?_drop,hj] using hv
 refine⟨?_,?_,?_⟩
 ·trivial
 ·obtain rfl:=Option.some.inj (bitsNamed.symm.trans hg1)
  obtain rfl:=Option.some.inj (bitsType.symm.trans ht1)
  rw [bitsData] at hd1
  have hcs:=Lib.cells_of_tab Tryz.underlying174 Tryz.underlying3 lc3 lc117 hd1
  have ht : Lib.TabIs Tryz.prog W "turntable/shape.slotBits" .i64 bitsTab := by
   unfold Lib.TabIs
   rw [hv1,←hcs]
  have hc:∀k,k < 16→W.cell? ⟨1,k,none⟩=some (.int .i64 (L3.pw k)):=fun k hk=>by
   rw [←bits_pw k hk];exact ht.cell bitsNamed k hk
  exact⟨World.block_lt_of_cell? W _ (hc 0 (by omega)),hc⟩
 refine⟨World.block_lt_of_cell? W _ (cell 0 0 (.string (word 0)) (by omega) (by omega) (by rw [key 0 (by omega)];rfl)),fun k hk=> ?_⟩
 exact⟨cell k 0 _ hk (by omega) (by rw [key k hk];rfl),cell k 1 _ hk (by omega) (by rw [key k hk];rfl),cell k 2 _ hk (by omega) (by rw [key k hk];rfl),cell k 3 _ hk (by omega) (by rw [key k hk];rfl),cell k 4 _ hk (by omega) (by rw [key k hk];rfl)⟩
theorem door_met (os:Os) (args:Array Value):laidMetH Tryz.prog laid2 ((World.doorLaid Tryz.prog 400 os).forCall (fun _ _=>0) ⟨#[],args,[]⟩).memory:=
 laidMetH_of_parts3 (fuel:=8) (laidMet_of_run' 8 (by kernel_rfl) (by kernel_rfl)) (by kernel_rfl) (by kernel_rfl)
end Go.Proofs.YtljkgcfnoegibaaGreatDoor
