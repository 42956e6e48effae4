/- Layer 9: what a light function is; what is asked of the program's functions; the small check answers true, where these do. Layer 9: the law DomTells. -/
import Derived.Test.YtnlcpfijfjbgjaaTeAN
import Derived.Test.YtnlcpfijfjbgjaaTeAX
import Derived.BigQuiet
namespace Go.Proofs.Ytnlcpfijfjbgjaa
open Go Go.RowKit
open G (Tok Er Ins Fun)
/-- No more than is waited for. -/
def Lgt9 (f : Fun) : Prop := Lgt f ∧ f.2.2.2.1.length ≤ 10
theorem Lgt9.gr {f : Fun} (h : Lgt9 f) : Gr (succsF f) := by
  refine ⟨fun l hl => ?_, by rw [succsF_len]; exact lgt_pos h.1⟩
  obtain ⟨K, hK, rfl⟩ := List.mem_iff_getElem.1 hl
  have hK2 : K < f.2.2.2.1.length := by rw [← succsF_len]; exact hK
  have e := succsF_at hK2
  rw [List.getElem?_eq_getElem hK] at e
  injection e with e
  rw [e, succsF_len]
  exact lgt_tos h.1 K
theorem Lgt9.few {f : Fun} (h : Lgt9 f) : (succsF f).length ≤ 10 := by rw [succsF_len]; exact h.2
def R64 (a : Int) : Prop := -9223372036854775808 ≤ a ∧ a < 9223372036854775808
/-- What is asked of the program's functions: a property of the tree that stays, one of the globals that stays, and what each function answers. -/
def Dom (T : World → Fun → Value → Prop) (G : World → Prop) : Prop :=
  (∀ {w w' : World}, G w → Below w.heap.size w w' → G w') ∧
  (∀ {w w' : World} {f : Fun} {v : Value}, T w f v → Below w.heap.size w w' → T w' f v) ∧
  (∀ (f : Fun) (v : Value) (w : World), G w → FunV w f v → Lgt9 f → Calls Try.prog 8 #[v] w fun e w' => ∃ a, e = .returned (.pointer (some a)) ∧ T w' f (.pointer (some a)) ∧ Below w.heap.size w w') ∧
  (∀ (f : Fun) (a b : Int) (v : Value) (w : World), T w f v → Lgt9 f → R64 a → R64 b → Calls Try.prog 10 #[v, .int .i64 a, .int .i64 b] w fun e w' => e = .returned (.bool (aheadB (succsF f) a b)) ∧ Below w.heap.size w w') ∧
  (∀ (f : Fun) (b : Int) (v : Value) (w : World), T w f v → Lgt9 f → R64 b → Calls Try.prog 12 #[v, .int .i64 b] w fun e w' => e = .returned (.int .i64 (upB (succsF f) b)) ∧ Below w.heap.size w w') ∧
  (∀ (f : Fun) (b : Int) (v : Value) (w : World), T w f v → Lgt9 f → R64 b → Calls Try.prog 14 #[v, .int .i64 b] w fun e w' => e = .returned (.int .i64 (depthB (succsF f) b)) ∧ Below w.heap.size w w') ∧
  (∀ (f : Fun) (b : Int) (v : Value) (w : World), T w f v → Lgt9 f → R64 b → Calls Try.prog 17 #[v, .int .i64 b] w fun e w' => ∃ u, e = .returned u ∧ IntsV w' (kidsB (succsF f) b) u ∧ Below w.heap.size w w') ∧
  (∀ (f : Fun) (v : Value) (w : World), T w f v → Lgt9 f → Calls Try.prog 19 #[v] w fun e w' => ∃ u, e = .returned u ∧ IntsV w' (downB (succsF f) 0) u ∧ Below w.heap.size w w')
theorem Dom.gb {T : World → Fun → Value → Prop} {G : World → Prop} (D : Dom T G) : ∀ {w w' : World}, G w → Below w.heap.size w w' → G w' := D.1
theorem Dom.tb {T : World → Fun → Value → Prop} {G : World → Prop} (D : Dom T G) : ∀ {w w' : World} {f : Fun} {v : Value}, T w f v → Below w.heap.size w w' → T w' f v := D.2.1
theorem Dom.of {T : World → Fun → Value → Prop} {G : World → Prop} (D : Dom T G) : ∀ (f : Fun) (v : Value) (w : World), G w → FunV w f v → Lgt9 f → Calls Try.prog 8 #[v] w fun e w' => ∃ a, e = .returned (.pointer (some a)) ∧ T w' f (.pointer (some a)) ∧ Below w.heap.size w w' := D.2.2.1
theorem Dom.ahead {T : World → Fun → Value → Prop} {G : World → Prop} (D : Dom T G) : ∀ (f : Fun) (a b : Int) (v : Value) (w : World), T w f v → Lgt9 f → R64 a → R64 b → Calls Try.prog 10 #[v, .int .i64 a, .int .i64 b] w fun e w' => e = .returned (.bool (aheadB (succsF f) a b)) ∧ Below w.heap.size w w' := D.2.2.2.1
theorem Dom.up {T : World → Fun → Value → Prop} {G : World → Prop} (D : Dom T G) : ∀ (f : Fun) (b : Int) (v : Value) (w : World), T w f v → Lgt9 f → R64 b → Calls Try.prog 12 #[v, .int .i64 b] w fun e w' => e = .returned (.int .i64 (upB (succsF f) b)) ∧ Below w.heap.size w w' := D.2.2.2.2.1
theorem Dom.depth {T : World → Fun → Value → Prop} {G : World → Prop} (D : Dom T G) : ∀ (f : Fun) (b : Int) (v : Value) (w : World), T w f v → Lgt9 f → R64 b → Calls Try.prog 14 #[v, .int .i64 b] w fun e w' => e = .returned (.int .i64 (depthB (succsF f) b)) ∧ Below w.heap.size w w' := D.2.2.2.2.2.1
theorem Dom.kids {T : World → Fun → Value → Prop} {G : World → Prop} (D : Dom T G) : ∀ (f : Fun) (b : Int) (v : Value) (w : World), T w f v → Lgt9 f → R64 b → Calls Try.prog 17 #[v, .int .i64 b] w fun e w' => ∃ u, e = .returned u ∧ IntsV w' (kidsB (succsF f) b) u ∧ Below w.heap.size w w' := D.2.2.2.2.2.2.1
theorem Dom.down {T : World → Fun → Value → Prop} {G : World → Prop} (D : Dom T G) : ∀ (f : Fun) (v : Value) (w : World), T w f v → Lgt9 f → Calls Try.prog 19 #[v] w fun e w' => ∃ u, e = .returned u ∧ IntsV w' (downB (succsF f) 0) u ∧ Below w.heap.size w w' := D.2.2.2.2.2.2.2
set_option maxHeartbeats 4000000 in
set_option maxRecDepth 20000 in
theorem light9_try (nm : List UInt8) (ps : List Int) (rt pl : Int) (bl : List (List Ins)) (ao bo : Option Addr) (c cb : Nat) (w : World)
    (hv : FunV w (nm, ps, rt, bl, pl) (.agg #[.string (bs nm), .slice ao ps.length c, .int .i64 rt, .slice bo bl.length cb, .int .i64 pl])) (hg : GyF (nm, ps, rt, bl, pl)) :
    Calls Try.prog 6 #[.agg #[.string (bs nm), .slice ao ps.length c, .int .i64 rt, .slice bo bl.length cb, .int .i64 pl]] w fun e w' => (e = .returned (.bool false) ∨ (e = .returned (.bool true) ∧ Lgt9 (nm, ps, rt, bl, pl))) ∧ Below w.heap.size w w' := by
  have b0 := below_box w (.cells #[.string (bs nm), .slice ao ps.length c, .int .i64 rt, .slice bo bl.length cb, .int .i64 pl] 25)
  have X0 := hide (L5.Box.new w [.string (bs nm), .slice ao ps.length c, .int .i64 rt, .slice bo bl.length cb, .int .i64 pl] 25)
  have HL := hide (light_any (nm, ps, rt, bl, pl) _ _ (hv.below b0) hg)
  have B0 := hide b0
  clear b0 hv hg
  go_enter Try.func6, Try.ntmps6
  go_upto_region 1 with fail
  show Code.wp _ _ _ _ (w.alloc (.cells #[.string (bs nm), .slice ao ps.length c, .int .i64 rt, .slice bo bl.length cb, .int .i64 pl] 25))
  replace X0 : Hid (L5.Box (w.alloc (.cells #[.string (bs nm), .slice ao ps.length c, .int .i64 rt, .slice bo bl.length cb, .int .i64 pl] 25)) w.heap.size [.string (bs nm), .slice ao ps.length c, .int .i64 rt, .slice bo bl.length cb, .int .i64 pl]) := X0
  generalize w.alloc (.cells #[.string (bs nm), .slice ao ps.length c, .int .i64 rt, .slice bo bl.length cb, .int .i64 pl] 25) = W at *
  obtain ⟨x0, x1, x2, x3, x4⟩ : _ ∧ _ ∧ _ ∧ _ ∧ _ := ⟨X0.out.2 0 _ rfl, X0.out.2 1 _ rfl, X0.out.2 2 _ rfl, X0.out.2 3 _ rfl, X0.out.2 4 _ rfl⟩
  go_wp2_with fail
  refine HL.out.mono ?_; rintro e w1 ⟨he, b1⟩
  have B1 := hide (below_step B0.out b1)
  have X1 := hide (X0.out.below b1)
  clear x0 x1 x2 x3 x4 HL X0 b1
  have x3 := X1.out.2 3 _ rfl
  rcases he with rfl | ⟨rfl, hl⟩
  · go_wp2_with fail
    go_ret
    exact ⟨.inl rfl, B1.out⟩
  · have HLg := hide hl
    clear hl
    by_cases hb : bl.length ≤ 10
    · have hbI : (bl.length : Int) ≤ 10 := by omega
      go_wp2_with fail
      go_ret
      exact ⟨.inr ⟨rfl, HLg.out, hb⟩, B1.out⟩
    · have hbI : ¬ (bl.length : Int) ≤ 10 := by omega
      go_wp2_with fail
      go_ret
      refine ⟨.inl ?_, B1.out⟩
      show Ending.returned (.bool (decide ((bl.length : Int) ≤ 10))) = _
      rw [decide_eq_false (by omega)]
theorem light9_any (f : Fun) (v : Value) (w : World) (hv : FunV w f v) (hg : GyF f) :
    Calls Try.prog 6 #[v] w fun e w' => (e = .returned (.bool false) ∨ (e = .returned (.bool true) ∧ Lgt9 f)) ∧ Below w.heap.size w w' := by
  obtain ⟨nm, ps, rt, bl, pl⟩ := f
  have hv2 := hv
  obtain ⟨vp, vb, rfl, ⟨ao, c, rfl, h1, _⟩, h2⟩ := hv
  obtain ⟨bo, cb, rfl, _⟩ := h2
  exact light9_try nm ps rt pl bl ao bo c cb w hv2 hg
theorem fork_lgt : Lgt9 fFork := by
  refine ⟨⟨by decide, ?_, by rw [fork_shape]⟩, by decide⟩
  have h : ∀ b ∈ fFork.2.2.2.1, b.length ≤ 150 ∧ ∀ x ∈ b, x.2.2.2.2.2.1.length ≤ 30 ∧ x.2.2.2.2.1.length ≤ 30 ∧ x.2.2.2.2.2.2.1.length ≤ 100 := by decide +kernel
  exact h
theorem fork_up4 : upB (succsF fFork) 4 = 1 := by decide +kernel
theorem fork_up0 : upB (succsF fFork) 0 = -1 := by decide +kernel
theorem fork_up6 : upB (succsF fFork) 6 = -1 := by decide +kernel
theorem fork_a15 : aheadB (succsF fFork) 1 5 = true := by decide +kernel
theorem fork_a24 : aheadB (succsF fFork) 2 4 = false := by decide +kernel
theorem fork_a66 : aheadB (succsF fFork) 6 6 = false := by decide +kernel
theorem fork_kids : kidsB (succsF fFork) 1 = [2, 3, 4] := by decide +kernel
theorem fork_deep : depthB (succsF fFork) 5 = 3 := by decide +kernel
theorem fork_down : downB (succsF fFork) 0 = [0, 1, 2, 3, 4, 5] := by decide +kernel
set_option maxHeartbeats 8000000 in
set_option maxRecDepth 20000 in
theorem works9_any {T : World → Fun → Value → Prop} {G : World → Prop} (D : Dom T G) (w : World) (hG : G w) : Calls Try.prog 7 #[] w fun e w' => e = .returned (.bool true) ∧ Below w.heap.size w w' := by
  have HGw := hide hG
  have HD := hide D
  clear hG D
  go_enter Try.func7, Try.ntmps7
  go_wp2_with fail
  refine (fork_any w).mono ?_; rintro e w1 ⟨v, rfl, hv, b1⟩
  obtain ⟨vp, vb, rfl, ⟨ao, c, rfl, _⟩, ⟨bo, cb, rfl, _⟩⟩ := id hv
  have b2 := below_box w1 (.cells #[.string (bs fFork.1), .slice ao fFork.2.1.length c, .int .i64 fFork.2.2.1, .slice bo fFork.2.2.2.1.length cb, .int .i64 fFork.2.2.2.2] 25)
  have X0 := hide (L5.Box.new w1 [.string (bs [102]), .slice ao 1 c, .int .i64 0, .slice bo 7 cb, .int .i64 0] 25)
  have HV := hide (hv.below b2)
  have HB := hide (below_step b1 b2)
  clear hv b1 b2
  go_upto_region 2 with fail
  show Code.wp _ _ _ _ (w1.alloc (.cells #[.string (bs [102]), .slice ao 1 c, .int .i64 0, .slice bo 7 cb, .int .i64 0] 25))
  replace X0 : Hid (L5.Box (w1.alloc (.cells #[.string (bs [102]), .slice ao 1 c, .int .i64 0, .slice bo 7 cb, .int .i64 0] 25)) w1.heap.size [.string (bs [102]), .slice ao 1 c, .int .i64 0, .slice bo 7 cb, .int .i64 0]) := X0
  replace HV : Hid (FunV (w1.alloc (.cells #[.string (bs [102]), .slice ao 1 c, .int .i64 0, .slice bo 7 cb, .int .i64 0] 25)) fFork (.agg #[.string (bs [102]), .slice ao 1 c, .int .i64 0, .slice bo 7 cb, .int .i64 0])) := HV
  replace HB : Hid (Below w.heap.size w (w1.alloc (.cells #[.string (bs [102]), .slice ao 1 c, .int .i64 0, .slice bo 7 cb, .int .i64 0] 25))) := HB
  generalize w1.alloc (.cells #[.string (bs [102]), .slice ao 1 c, .int .i64 0, .slice bo 7 cb, .int .i64 0] 25) = W at *
  generalize w1.heap.size = q at *
  obtain ⟨x0, x1, x2, x3, x4⟩ : _ ∧ _ ∧ _ ∧ _ ∧ _ := ⟨X0.out.2 0 _ rfl, X0.out.2 1 _ rfl, X0.out.2 2 _ rfl, X0.out.2 3 _ rfl, X0.out.2 4 _ rfl⟩
  have HO := hide (HD.out.of fFork _ W (HD.out.gb HGw.out HB.out) HV.out fork_lgt)
  go_wp2_with fail
  refine HO.out.mono ?_; rintro e w2 ⟨ta, rfl, hT, b2⟩
  have HT := hide hT
  have B2 := hide (below_step HB.out b2)
  clear x0 x1 x2 x3 x4 HO hT b2 HV X0 HB
  have r : ∀ n : Int, 0 ≤ n → n ≤ 10 → R64 n := fun n h1 h2 => ⟨by omega, by omega⟩
  have K1 := hide (HD.out.up fFork 4 _ w2 HT.out fork_lgt (r _ (by omega) (by omega)))
  rw [fork_up4] at K1
  go_wp2_with fail
  refine K1.out.mono ?_; rintro e w3 ⟨rfl, b3⟩
  replace HT := hide (HD.out.tb HT.out b3)
  replace B2 := hide (below_step B2.out b3)
  clear b3 K1
  have K1 := hide (HD.out.up fFork 0 _ w3 HT.out fork_lgt (r _ (by omega) (by omega)))
  rw [fork_up0] at K1
  go_wp2_with fail
  refine K1.out.mono ?_; rintro e w4 ⟨rfl, b3⟩
  replace HT := hide (HD.out.tb HT.out b3)
  replace B2 := hide (below_step B2.out b3)
  clear b3 K1
  have K1 := hide (HD.out.up fFork 6 _ w4 HT.out fork_lgt (r _ (by omega) (by omega)))
  rw [fork_up6] at K1
  go_wp2_with fail
  refine K1.out.mono ?_; rintro e w5 ⟨rfl, b3⟩
  replace HT := hide (HD.out.tb HT.out b3)
  replace B2 := hide (below_step B2.out b3)
  clear b3 K1
  have K1 := hide (HD.out.ahead fFork 1 5 _ w5 HT.out fork_lgt (r _ (by omega) (by omega)) (r _ (by omega) (by omega)))
  rw [fork_a15] at K1
  go_wp2_with fail
  refine K1.out.mono ?_; rintro e w6 ⟨rfl, b3⟩
  replace HT := hide (HD.out.tb HT.out b3)
  replace B2 := hide (below_step B2.out b3)
  clear b3 K1
  have K1 := hide (HD.out.ahead fFork 2 4 _ w6 HT.out fork_lgt (r _ (by omega) (by omega)) (r _ (by omega) (by omega)))
  rw [fork_a24] at K1
  go_wp2_with fail
  refine K1.out.mono ?_; rintro e w7 ⟨rfl, b3⟩
  replace HT := hide (HD.out.tb HT.out b3)
  replace B2 := hide (below_step B2.out b3)
  clear b3 K1
  have K1 := hide (HD.out.ahead fFork 6 6 _ w7 HT.out fork_lgt (r _ (by omega) (by omega)) (r _ (by omega) (by omega)))
  rw [fork_a66] at K1
  go_wp2_with fail
  refine K1.out.mono ?_; rintro e w8 ⟨rfl, b3⟩
  replace HT := hide (HD.out.tb HT.out b3)
  replace B2 := hide (below_step B2.out b3)
  clear b3 K1
  have K1 := hide (HD.out.kids fFork 1 _ w8 HT.out fork_lgt (r _ (by omega) (by omega)))
  rw [fork_kids] at K1
  go_wp2_with fail
  refine K1.out.mono ?_; rintro e w9 ⟨u, rfl, hu, b3⟩
  replace HT := hide (HD.out.tb HT.out b3)
  replace B2 := hide (below_step B2.out b3)
  obtain ⟨uo, uc, rfl, us, _, _⟩ := hu
  have HI : Hid (Calls Try.prog 16 #[.slice uo 3 uc, .slice (some ⟨w9.heap.size, 0, none⟩) 3 3] (w9.alloc (.cells #[.int .i64 2, .int .i64 3, .int .i64 4] 3)) fun e w' => e = .returned (.bool true) ∧ Below (w9.alloc (.cells #[.int .i64 2, .int .i64 3, .int .i64 4] 3)).heap.size (w9.alloc (.cells #[.int .i64 2, .int .i64 3, .int .i64 4] 3)) w') := hide (rints_same [2, 3, 4] uo _ uc 3 _ (by decide) (us.below (below_box _ _)) (new_sl w9 [2, 3, 4] 3))
  clear b3 K1 us
  go_wp2_with fail
  refine HI.out.mono ?_; rintro e wA ⟨rfl, b3⟩
  replace b3 := below_step (below_box w9 (.cells #[.int .i64 2, .int .i64 3, .int .i64 4] 3)) b3
  replace HT := hide (HD.out.tb HT.out b3)
  replace B2 := hide (below_step B2.out b3)
  clear b3 HI
  have K1 := hide (HD.out.depth fFork 5 _ wA HT.out fork_lgt (r _ (by omega) (by omega)))
  rw [fork_deep] at K1
  go_wp2_with fail
  refine K1.out.mono ?_; rintro e wB ⟨rfl, b3⟩
  replace HT := hide (HD.out.tb HT.out b3)
  replace B2 := hide (below_step B2.out b3)
  clear b3 K1
  have K1 := hide (HD.out.down fFork _ wB HT.out fork_lgt)
  rw [fork_down] at K1
  go_wp2_with fail
  refine K1.out.mono ?_; rintro e wC ⟨u, rfl, hu, b3⟩
  replace B2 := hide (below_step B2.out b3)
  obtain ⟨uo, uc, rfl, us, _, _⟩ := hu
  have HI : Hid (Calls Try.prog 16 #[.slice uo 6 uc, .slice (some ⟨wC.heap.size, 0, none⟩) 6 6] (wC.alloc (.cells #[.int .i64 0, .int .i64 1, .int .i64 2, .int .i64 3, .int .i64 4, .int .i64 5] 3)) fun e w' => e = .returned (.bool true) ∧ Below (wC.alloc (.cells #[.int .i64 0, .int .i64 1, .int .i64 2, .int .i64 3, .int .i64 4, .int .i64 5] 3)).heap.size (wC.alloc (.cells #[.int .i64 0, .int .i64 1, .int .i64 2, .int .i64 3, .int .i64 4, .int .i64 5] 3)) w') := hide (rints_same [0, 1, 2, 3, 4, 5] uo _ uc 6 _ (by decide) (us.below (below_box _ _)) (new_sl wC [0, 1, 2, 3, 4, 5] 3))
  clear b3 K1 us HT
  go_wp2_with fail
  refine HI.out.mono ?_; rintro e wD ⟨rfl, b3⟩
  replace B2 := hide (below_step B2.out (below_step (below_box wC (.cells #[.int .i64 0, .int .i64 1, .int .i64 2, .int .i64 3, .int .i64 4, .int .i64 5] 3)) b3))
  clear b3 HI
  go_wp2_with fail
  go_ret
  exact ⟨rfl, B2.out⟩
end Go.Proofs.Ytnlcpfijfjbgjaa
namespace Go.Proofs.Ytnlcpfijfjbgjaa
open Go Go.RowKit
open G (Tok Er Ins Fun)
theorem rtable_any (f : Fun) (v : Value) (w : World) (hv : FunV w f v) (hl : Lgt9 f) :
    Calls Try.prog 9 #[v] w fun e w' => ∃ u, e = .returned u ∧ TabL w' (succsF f) u ∧ Below w.heap.size w w' := by
  have hg := hl.gr
  have hF := lgt_ful hl.1
  obtain ⟨nm, ps, rt, bl, pl⟩ := f
  have hv2 := hv
  obtain ⟨vp, vb, rfl, ⟨ao, c, rfl, h1, _⟩, h2⟩ := hv
  obtain ⟨bo, cb, rfl, _⟩ := h2
  exact (rtable_try nm ps rt pl bl ao bo c cb w hv2 hF hg).mono fun e w' ⟨u, he, h, b⟩ => ⟨u, he, h.read hg.2, b⟩
set_option maxHeartbeats 8000000 in
set_option maxRecDepth 20000 in
theorem lawTells {T : World → Fun → Value → Prop} {G : World → Prop} (D : Dom T G) (f : Fun) (a b : Int) (v : Value) (w : World) (hv : FunV w f v) (hg : GyF f) (hG : G w) (ra : R64 a) (rb : R64 b) :
    Calls Try.prog 3 #[v, .int .i64 a, .int .i64 b] w fun e w' => e = .returned (.bool true) ∧ Below w.heap.size w w' := by
  have hv2 := hv
  obtain ⟨vp, vb, rfl, _, _⟩ := hv2
  have b0 := below_box w (.cells #[.string (bs f.1), vp, .int .i64 f.2.2.1, vb, .int .i64 f.2.2.2.2] 25)
  have X0 := hide (L5.Box.new w [.string (bs f.1), vp, .int .i64 f.2.2.1, vb, .int .i64 f.2.2.2.2] 25)
  have HV := hide (hv.below b0)
  have B0 := hide b0
  have HG := hide hg
  have HGw := hide (D.gb hG b0)
  have HD := hide D
  have HWk := hide (fun w (h : G w) => works9_any D w h)
  clear b0 hv hg hG D
  obtain ⟨lp, cp, rfl⟩ : ∃ ao c, vp = .slice ao f.2.1.length c := by
    obtain ⟨vp', vb', e, ⟨ao, c, e2, _⟩, _⟩ := HV.out
    injection e with e
    have e1 := congrArg (fun a => a[1]?) e
    simp at e1
    exact ⟨ao, c, by rw [e1, e2]⟩
  obtain ⟨lb, cb, rfl⟩ : ∃ ao c, vb = .slice ao f.2.2.2.1.length c := by
    obtain ⟨vp', vb', e, _, ⟨ao, c, e2, _⟩⟩ := HV.out
    injection e with e
    have e1 := congrArg (fun a => a[3]?) e
    simp at e1
    exact ⟨ao, c, by rw [e1, e2]⟩
  have HLt := hide (light9_any f _ _ HV.out HG.out)
  have HOf := hide (fun w1 (b : Below (w.alloc (.cells #[.string (bs f.1), .slice lp f.2.1.length cp, .int .i64 f.2.2.1, .slice lb f.2.2.2.1.length cb, .int .i64 f.2.2.2.2] 25)).heap.size _ w1) (h : Lgt9 f) => HD.out.of f _ w1 (HD.out.gb HGw.out b) (HV.out.below b) h)
  have HLl : Hid (Lgt9 f → 0 < f.2.2.2.1.length ∧ f.2.2.2.1.length ≤ 10) := hide (fun h => ⟨lgt_pos h.1, h.2⟩)
  have HLn : Hid ((succsF f).length = f.2.2.2.1.length) := hide (succsF_len f)
  generalize bs f.1 = nm at *
  generalize f.2.1.length = lps at *
  generalize f.2.2.1 = rt at *
  generalize f.2.2.2.1.length = lbs at *
  generalize f.2.2.2.2 = pl at *
  go_enter Try.func3, Try.ntmps3
  go_upto_region 1 with fail
  show Code.wp _ _ _ _ (w.alloc (.cells #[.string nm, .slice lp lps cp, .int .i64 rt, .slice lb lbs cb, .int .i64 pl] 25))
  replace X0 : Hid (L5.Box (w.alloc (.cells #[.string nm, .slice lp lps cp, .int .i64 rt, .slice lb lbs cb, .int .i64 pl] 25)) w.heap.size [.string nm, .slice lp lps cp, .int .i64 rt, .slice lb lbs cb, .int .i64 pl]) := X0
  generalize w.alloc (.cells #[.string nm, .slice lp lps cp, .int .i64 rt, .slice lb lbs cb, .int .i64 pl] 25) = W at *
  obtain ⟨x0, x1, x2, x3, x4⟩ : _ ∧ _ ∧ _ ∧ _ ∧ _ := ⟨X0.out.2 0 _ rfl, X0.out.2 1 _ rfl, X0.out.2 2 _ rfl, X0.out.2 3 _ rfl, X0.out.2 4 _ rfl⟩
  go_wp2_with fail
  refine HLt.out.mono ?_; rintro e w1 ⟨he, b1⟩
  have B1 := hide b1
  clear x0 x1 x2 x3 x4 HLt b1
  rcases he with rfl | ⟨rfl, hl⟩
  · have HW2 := hide (HWk.out w1 (HD.out.gb HGw.out B1.out))
    go_wp2_with fail
    refine HW2.out.mono ?_; rintro e w3 ⟨rfl, b3⟩
    have HE := hide (below_step B0.out (below_step B1.out b3))
    clear b3
    go_wp2_with fail
    go_ret
    exact ⟨rfl, HE.out⟩
  obtain ⟨hn0, hn1⟩ := HLl.out hl
  have HLg := hide hl
  have HO := hide (HOf.out w1 B1.out hl)
  clear hl HLl
  obtain ⟨x0, x1, x2, x3, x4⟩ : _ ∧ _ ∧ _ ∧ _ ∧ _ := ⟨(X0.out.below B1.out).2 0 _ rfl, (X0.out.below B1.out).2 1 _ rfl, (X0.out.below B1.out).2 2 _ rfl, (X0.out.below B1.out).2 3 _ rfl, (X0.out.below B1.out).2 4 _ rfl⟩
  go_wp2_with fail
  refine HO.out.mono ?_; rintro e w2 ⟨ta, rfl, hT, b2⟩
  have HT := hide hT
  have B2 := hide (below_step B1.out b2)
  clear x0 x1 x2 x3 x4 HO hT b2 HOf
  have HRa := hide ra
  have HRb := hide rb
  have hlen : (succsF f).length = lbs := HLn.out
  have HGr := hide HLg.out.gr
  have HFw := hide HLg.out.few
  clear ra rb
  obtain ⟨x0, x1, x2, x3, x4⟩ : _ ∧ _ ∧ _ ∧ _ ∧ _ := ⟨(X0.out.below B2.out).2 0 _ rfl, (X0.out.below B2.out).2 1 _ rfl, (X0.out.below B2.out).2 2 _ rfl, (X0.out.below B2.out).2 3 _ rfl, (X0.out.below B2.out).2 4 _ rfl⟩
  have HTa := hide (rtable_any f _ w2 (HV.out.below B2.out) HLg.out)
  go_wp2_with fail
  refine HTa.out.mono ?_; rintro e w3 ⟨xv, rfl, hx, b3⟩
  replace HT := hide (HD.out.tb HT.out b3)
  replace B2 := hide (below_step B2.out b3)
  have HX := hide hx
  clear x0 x1 x2 x3 x4 HTa hx b3
  have KA := hide (fun j k wq (h : Below w3.heap.size w3 wq) (rj : R64 j) (rk : R64 k) => HD.out.ahead f j k _ wq (HD.out.tb HT.out h) HLg.out rj rk)
  have RA := hide (fun j k wq (h : Below w3.heap.size w3 wq) => rahead_any (succsF f) j k xv wq (HX.out.below h) HGr.out)
  have KU := hide (fun k wq (h : Below w3.heap.size w3 wq) (rk : R64 k) => HD.out.up f k _ wq (HD.out.tb HT.out h) HLg.out rk)
  have RU := hide (fun k wq (h : Below w3.heap.size w3 wq) => rup_any (succsF f) k xv wq (HX.out.below h) HGr.out (Nat.le_trans HFw.out (by omega)))
  have KD := hide (fun k wq (h : Below w3.heap.size w3 wq) (rk : R64 k) => HD.out.depth f k _ wq (HD.out.tb HT.out h) HLg.out rk)
  have RD := hide (fun k wq (h : Below w3.heap.size w3 wq) => rdepth_any (succsF f) k xv wq (HX.out.below h) HGr.out (Nat.le_trans HFw.out (by omega)))
  have KK := hide (fun k wq (h : Below w3.heap.size w3 wq) (rk : R64 k) => HD.out.kids f k _ wq (HD.out.tb HT.out h) HLg.out rk)
  have RK := hide (fun k wq (h : Below w3.heap.size w3 wq) => rkids_any (succsF f) k xv wq (HX.out.below h) HGr.out (Nat.le_trans HFw.out (by omega)))
  have KN := hide (fun wq (h : Below w3.heap.size w3 wq) => HD.out.down f _ wq (HD.out.tb HT.out h) HLg.out)
  have RN : Hid (∀ wq, Below w3.heap.size w3 wq → Calls Try.prog 20 #[xv, .int .i64 0] wq fun e w' => ∃ u, e = .returned u ∧ Grw wq (downB (succsF f) 0) u w') := hide (fun wq h => rdown_any (succsF f) HGr.out HFw.out ((succsF f).length + 1) 0 xv wq (by have := HFw.out; omega) (HX.out.below h) (by omega))
  have HSh := hide HX.out
  obtain ⟨tb, to, tc, rfl, _, _⟩ := HSh.out
  rw [hlen] at *
  clear HSh hlen
  have K1 := hide (KA.out a b w3 (Below.refl _ _) HRa.out HRb.out)
  go_wp2_with fail
  refine K1.out.mono ?_; rintro e w4 ⟨rfl, b4⟩
  have K2 := hide (RA.out a b w4 b4)
  have B4 := hide b4
  have hpp : (aheadB (succsF f) a b != aheadB (succsF f) a b) = false := by simp
  clear K1 b4
  go_wp2_with fail
  refine K2.out.mono ?_; rintro e w5 ⟨rfl, rfl⟩
  clear K2
  go_wp2_with fail
  clear hpp
  go_loopw [9] (fun i wr => ∃ K : Nat, K ≤ lbs ∧ i = .int .i64 K ∧ Hid (Below w3.heap.size w3 wr)) (fun i _ => lbs - (intOf i).toNat)
  case atStart => exact ⟨0, Nat.zero_le _, rfl, B4⟩
  case round =>
    clear B4
    obtain ⟨K, hK, rfl, HB⟩ := hrel
    have x3 := (X0.out.below (below_step B2.out HB.out)).2 3 _ rfl
    by_cases hkt : K < lbs
    · have hkI : (K : Int) < lbs := by omega
      have rK : Hid (R64 (K : Int)) := hide ⟨by omega, by omega⟩
      have K1 := hide (KU.out K wr HB.out rK.out)
      go_wp2_with fail
      refine K1.out.mono ?_; rintro e w6 ⟨rfl, b6⟩
      have B6 := hide (below_step HB.out b6)
      clear K1 b6 x3
      have K1 := hide (RU.out K w6 B6.out)
      have h1 : (upB (succsF f) K != upB (succsF f) K) = false := by simp
      go_wp2_with fail
      refine K1.out.mono ?_; rintro e w7 ⟨rfl, rfl⟩
      clear K1
      have K1 := hide (KD.out K w7 B6.out rK.out)
      go_wp2_with fail
      refine K1.out.mono ?_; rintro e w8 ⟨rfl, b8⟩
      have B8 := hide (below_step B6.out b8)
      clear K1 b8 B6
      have K1 := hide (RD.out K w8 B8.out)
      have h2 : ((depthB (succsF f) K : Int) != (depthB (succsF f) K : Int)) = false := by simp
      go_wp2_with fail
      refine K1.out.mono ?_; rintro e w9 ⟨rfl, rfl⟩
      clear K1
      have K1 := hide (KK.out K w9 B8.out rK.out)
      go_wp2_with fail
      refine K1.out.mono ?_; rintro e wA ⟨u, rfl, hu, bA⟩
      have BA := hide (below_step B8.out bA)
      have HU := hide hu
      clear K1 bA B8 hu
      have K1 := hide (RK.out K wA BA.out)
      go_wp2_with fail
      refine K1.out.mono ?_; rintro e wB ⟨u2, rfl, hu2⟩
      have BB := hide (below_step BA.out hu2.2)
      have K2 := hide (ints_any _ u u2 wB (HU.out.below hu2.2) (ints_of hu2.1))
      clear K1 hu2 BA HU
      go_wp2_with fail
      refine K2.out.mono ?_; rintro e wC ⟨rfl, bC⟩
      have BC := hide (below_step BB.out bC)
      clear K2 bC BB h1 h2
      go_wp2_with fail
      go_loopw [10] (fun i wq => ∃ J : Nat, J ≤ lbs ∧ i = .int .i64 J ∧ Hid (Below w3.heap.size w3 wq)) (fun i _ => lbs - (intOf i).toNat)
      case atStart => exact ⟨0, Nat.zero_le _, rfl, BC⟩
      case round =>
        clear BC
        obtain ⟨J, hJ, rfl, HB⟩ := hrel
        have x3 := (X0.out.below (below_step B2.out HB.out)).2 3 _ rfl
        by_cases hjt : J < lbs
        · have hjI : (J : Int) < lbs := by omega
          have rJ : Hid (R64 (J : Int)) := hide ⟨by omega, by omega⟩
          have K1 := hide (KA.out J K wr HB.out rJ.out rK.out)
          go_wp2_with fail
          refine K1.out.mono ?_; rintro e w6 ⟨rfl, b6⟩
          have B6 := hide (below_step HB.out b6)
          have K2 := hide (RA.out J K w6 B6.out)
          have hpp : (aheadB (succsF f) J K != aheadB (succsF f) J K) = false := by simp
          clear K1 b6 x3
          go_wp2_with fail
          refine K2.out.mono ?_; rintro e w7 ⟨rfl, rfl⟩
          clear K2
          go_wp2_with fail
          go_roundw
          case rel => exact ⟨J + 1, by omega, by go_num, B6⟩
          case measure => simp [intOf]; omega
        · obtain rfl : J = lbs := by omega
          go_wp2_with fail
          go_roundw
          case rel => exact ⟨K + 1, by omega, by go_num, HB⟩
          case measure => simp [intOf]; omega
    · obtain rfl : K = lbs := by omega
      have K1 := hide (KN.out wr HB.out)
      go_wp2_with fail
      refine K1.out.mono ?_; rintro e w6 ⟨u, rfl, hu, b6⟩
      have B6 := hide (below_step HB.out b6)
      have HU := hide hu
      clear K1 b6 hu x3
      have K1 := hide (RN.out w6 B6.out)
      go_wp2_with fail
      refine K1.out.mono ?_; rintro e wB ⟨u2, rfl, hu2⟩
      have BB := hide (below_step B6.out hu2.2)
      have K2 := hide (ints_any _ u u2 wB (HU.out.below hu2.2) (ints_of hu2.1))
      clear K1 hu2 B6 HU
      go_wp2_with fail
      refine K2.out.mono ?_; rintro e wC ⟨rfl, bC⟩
      have BC := hide (below_step BB.out bC)
      clear K2 bC BB
      have HW2 := hide (HWk.out wC (HD.out.gb HGw.out (below_step B2.out BC.out)))
      go_wp2_with fail
      refine HW2.out.mono ?_; rintro e wD ⟨rfl, bD⟩
      have HE := hide (below_step B0.out (below_step B2.out (below_step BC.out bD)))
      clear bD HW2
      go_wp2_with fail
      go_ret
      exact ⟨rfl, HE.out⟩
end Go.Proofs.Ytnlcpfijfjbgjaa
