/- Texts of one chain, joined. -/
import Derived.Test.YtfdhemcahjommaaGreatDoorZTeAC
import Derived.Test.YtfdhemcahjommaaGreatDoorZABG
namespace Go.Proofs.YtfdhemcahjommaaGreatDoor
open Go Go.RowKit
open G (Tok Er Ins Fun)
theorem EL {w w':World} {l:List Int} {v:Value} (h:Grw w l v w'):bT w' l v:=by
 obtain⟨o1,_⟩:=h;obtain⟨ao,c,rfl⟩:=aI o1;refine⟨ao,c,rfl,xS o1,?_⟩;rcases o1.2 with ⟨e,h0⟩ | ⟨_,cap,_,e,_,_,h1,h2,_⟩
 ·injection e with _ _ e;rw [h0,e];exact⟨Nat.le_refl _,Nat.zero_le _⟩
 ·injection e with _ _ e;subst e;exact⟨h1,h2⟩
theorem tJ (p:List Fun) (wh:Int) (po:Option Addr) (pc:Nat) (w:World) (hp:eg w p (.slice po p.length pc)) (gp:∀y∈p,GxF y) (fp:Few p.length) (hwb:0≤wh∧wh < 256) (hT:L5.Tab w) (hZ:kQ w):
  Calls Tryz.prog 3 #[.agg #[.slice po p.length pc],.int .u8 wh] w fun e w'=>e= .returned (.bool true)∧Below w.heap.size w w':=by
 have hR:lgQ p=true→iA p (bh p (wh % (p.length:Int)).toNat):=fun q=>mw q gp (Im q);refine sO p wh po pc w (eL (bh p (wh % (p.length:Int)).toNat)) (bh p (wh % (p.length:Int)).toNat) (fun w' b=>qp p wh po pc w' (hp.below b) gp fp hwb) (fun w' b=>nw w' (hT.below b) (hZ.below b)) rfl (fun b w w' h k=>h.below k)
  (fun q=>⟨(hR q).mod.1,fun k _=>(hR q).mod.blk k,yq (hR q)⟩) (fun q w' v b hv=>JE (hR q) v w' hv (hT.below b) (hZ.below b)) (fun q w' v b hv=>(rG _ v w' hv (hR q).mod (hR q).1.2.2.2.1).mono fun e w'' ⟨u,he,hg⟩=>⟨u,he,EL hg,hg.2⟩)
  (fun q w' b k _ h hk=>JW (hR q) h hk) (fun q w' b k _ h hk=>Cf (hR q) h hk) (fun q w' v k id _ hv hk=>oF _ k 0 id v w' hv (hR q).1.1 hk (Nat.zero_le _)) (fun q w' v k id _ hv hk=>nT _ k id v w' hv (hR q).1.1 hk)
  (fun q w' b k i _ h hk hi=>yk (hR q) h hk hi) (fun q w' v k i id _ hv hk hi=>uI _ k i id v w' hv (hR q).1.1 hk hi) (fun q w' b _ h=>Fi (hR q) h)
end Go.Proofs.YtfdhemcahjommaaGreatDoor
