/- Layer 9: what a light function is; what is asked of the program's functions; the small check answers true, where these do. -/
import Derived.Test.YtnlcpfijfjbgjaaOrAK
import Derived.Test.YtnlcpfijfjbgjaaOrAU
namespace Go.Proofs.Ytnlcpfijfjbgjaa
open Go Go.RowKit
open G (Tok Er Ins Fun)
/-- No more than is waited for. -/
def Lgt9 (f : Fun) : Prop := Lgt f ∧ f.2.2.2.1.length ≤ 10
theorem Lgt9.gr {f : Fun} (h : Lgt9 f) : Gr (succsF f) := by
  refine ⟨fun l hl => ?_, by rw [succsF_len]; exact lgt_pos h.1⟩
  obtain ⟨K, hK, rfl⟩ := List.mem_iff_getElem.1 hl
  have hK2 : K < f.2.2.2.1.length := by rw [← succsF_len]; exact hK
  have e := succsF_at hK2
  rw [List.getElem?_eq_getElem hK] at e
  injection e with e
  rw [e, succsF_len]
  exact lgt_tos h.1 K
theorem Lgt9.few {f : Fun} (h : Lgt9 f) : (succsF f).length ≤ 10 := by rw [succsF_len]; exact h.2
def R64 (a : Int) : Prop := -9223372036854775808 ≤ a ∧ a < 9223372036854775808
/-- What is asked of the program's functions: a property of the tree that stays, one of the globals that stays, and what each function answers. -/
def Dom (T : World → Fun → Value → Prop) (G : World → Prop) : Prop :=
  (∀ {w w' : World}, G w → Below w.heap.size w w' → G w') ∧
  (∀ {w w' : World} {f : Fun} {v : Value}, T w f v → Below w.heap.size w w' → T w' f v) ∧
  (∀ (f : Fun) (v : Value) (w : World), G w → FunV w f v → Lgt9 f → Calls Try.prog 8 #[v] w fun e w' => ∃ a, e = .returned (.pointer (some a)) ∧ T w' f (.pointer (some a)) ∧ Below w.heap.size w w') ∧
  (∀ (f : Fun) (a b : Int) (v : Value) (w : World), T w f v → Lgt9 f → R64 a → R64 b → Calls Try.prog 10 #[v, .int .i64 a, .int .i64 b] w fun e w' => e = .returned (.bool (aheadB (succsF f) a b)) ∧ Below w.heap.size w w') ∧
  (∀ (f : Fun) (b : Int) (v : Value) (w : World), T w f v → Lgt9 f → R64 b → Calls Try.prog 12 #[v, .int .i64 b] w fun e w' => e = .returned (.int .i64 (upB (succsF f) b)) ∧ Below w.heap.size w w') ∧
  (∀ (f : Fun) (b : Int) (v : Value) (w : World), T w f v → Lgt9 f → R64 b → Calls Try.prog 14 #[v, .int .i64 b] w fun e w' => e = .returned (.int .i64 (depthB (succsF f) b)) ∧ Below w.heap.size w w') ∧
  (∀ (f : Fun) (b : Int) (v : Value) (w : World), T w f v → Lgt9 f → R64 b → Calls Try.prog 17 #[v, .int .i64 b] w fun e w' => ∃ u, e = .returned u ∧ IntsV w' (kidsB (succsF f) b) u ∧ Below w.heap.size w w') ∧
  (∀ (f : Fun) (v : Value) (w : World), T w f v → Lgt9 f → Calls Try.prog 19 #[v] w fun e w' => ∃ u, e = .returned u ∧ IntsV w' (downB (succsF f) 0) u ∧ Below w.heap.size w w')
theorem Dom.gb {T : World → Fun → Value → Prop} {G : World → Prop} (D : Dom T G) : ∀ {w w' : World}, G w → Below w.heap.size w w' → G w' := D.1
theorem Dom.tb {T : World → Fun → Value → Prop} {G : World → Prop} (D : Dom T G) : ∀ {w w' : World} {f : Fun} {v : Value}, T w f v → Below w.heap.size w w' → T w' f v := D.2.1
theorem Dom.of {T : World → Fun → Value → Prop} {G : World → Prop} (D : Dom T G) : ∀ (f : Fun) (v : Value) (w : World), G w → FunV w f v → Lgt9 f → Calls Try.prog 8 #[v] w fun e w' => ∃ a, e = .returned (.pointer (some a)) ∧ T w' f (.pointer (some a)) ∧ Below w.heap.size w w' := D.2.2.1
theorem Dom.ahead {T : World → Fun → Value → Prop} {G : World → Prop} (D : Dom T G) : ∀ (f : Fun) (a b : Int) (v : Value) (w : World), T w f v → Lgt9 f → R64 a → R64 b → Calls Try.prog 10 #[v, .int .i64 a, .int .i64 b] w fun e w' => e = .returned (.bool (aheadB (succsF f) a b)) ∧ Below w.heap.size w w' := D.2.2.2.1
theorem Dom.up {T : World → Fun → Value → Prop} {G : World → Prop} (D : Dom T G) : ∀ (f : Fun) (b : Int) (v : Value) (w : World), T w f v → Lgt9 f → R64 b → Calls Try.prog 12 #[v, .int .i64 b] w fun e w' => e = .returned (.int .i64 (upB (succsF f) b)) ∧ Below w.heap.size w w' := D.2.2.2.2.1
theorem Dom.depth {T : World → Fun → Value → Prop} {G : World → Prop} (D : Dom T G) : ∀ (f : Fun) (b : Int) (v : Value) (w : World), T w f v → Lgt9 f → R64 b → Calls Try.prog 14 #[v, .int .i64 b] w fun e w' => e = .returned (.int .i64 (depthB (succsF f) b)) ∧ Below w.heap.size w w' := D.2.2.2.2.2.1
theorem Dom.kids {T : World → Fun → Value → Prop} {G : World → Prop} (D : Dom T G) : ∀ (f : Fun) (b : Int) (v : Value) (w : World), T w f v → Lgt9 f → R64 b → Calls Try.prog 17 #[v, .int .i64 b] w fun e w' => ∃ u, e = .returned u ∧ IntsV w' (kidsB (succsF f) b) u ∧ Below w.heap.size w w' := D.2.2.2.2.2.2.1
theorem Dom.down {T : World → Fun → Value → Prop} {G : World → Prop} (D : Dom T G) : ∀ (f : Fun) (v : Value) (w : World), T w f v → Lgt9 f → Calls Try.prog 19 #[v] w fun e w' => ∃ u, e = .returned u ∧ IntsV w' (downB (succsF f) 0) u ∧ Below w.heap.size w w' := D.2.2.2.2.2.2.2
set_option maxHeartbeats 4000000 in
set_option maxRecDepth 20000 in
theorem light9_try (nm : List UInt8) (ps : List Int) (rt pl : Int) (bl : List (List Ins)) (ao bo : Option Addr) (c cb : Nat) (w : World)
    (hv : FunV w (nm, ps, rt, bl, pl) (.agg #[.string (bs nm), .slice ao ps.length c, .int .i64 rt, .slice bo bl.length cb, .int .i64 pl])) (hg : GyF (nm, ps, rt, bl, pl)) :
    Calls Try.prog 6 #[.agg #[.string (bs nm), .slice ao ps.length c, .int .i64 rt, .slice bo bl.length cb, .int .i64 pl]] w fun e w' => (e = .returned (.bool false) ∨ (e = .returned (.bool true) ∧ Lgt9 (nm, ps, rt, bl, pl))) ∧ Below w.heap.size w w' := by
  have b0 := below_box w (.cells #[.string (bs nm), .slice ao ps.length c, .int .i64 rt, .slice bo bl.length cb, .int .i64 pl] 25)
  have X0 := hide (L5.Box.new w [.string (bs nm), .slice ao ps.length c, .int .i64 rt, .slice bo bl.length cb, .int .i64 pl] 25)
  have HL := hide (light_any (nm, ps, rt, bl, pl) _ _ (hv.below b0) hg)
  have B0 := hide b0
  clear b0 hv hg
  go_enter Try.func6, Try.ntmps6
  go_upto_region 1 with fail
  show Code.wp _ _ _ _ (w.alloc (.cells #[.string (bs nm), .slice ao ps.length c, .int .i64 rt, .slice bo bl.length cb, .int .i64 pl] 25))
  replace X0 : Hid (L5.Box (w.alloc (.cells #[.string (bs nm), .slice ao ps.length c, .int .i64 rt, .slice bo bl.length cb, .int .i64 pl] 25)) w.heap.size [.string (bs nm), .slice ao ps.length c, .int .i64 rt, .slice bo bl.length cb, .int .i64 pl]) := X0
  generalize w.alloc (.cells #[.string (bs nm), .slice ao ps.length c, .int .i64 rt, .slice bo bl.length cb, .int .i64 pl] 25) = W at *
  obtain ⟨x0, x1, x2, x3, x4⟩ : _ ∧ _ ∧ _ ∧ _ ∧ _ := ⟨X0.out.2 0 _ rfl, X0.out.2 1 _ rfl, X0.out.2 2 _ rfl, X0.out.2 3 _ rfl, X0.out.2 4 _ rfl⟩
  go_wp2_with fail
  refine HL.out.mono ?_; rintro e w1 ⟨he, b1⟩
  have B1 := hide (below_step B0.out b1)
  have X1 := hide (X0.out.below b1)
  clear x0 x1 x2 x3 x4 HL X0 b1
  have x3 := X1.out.2 3 _ rfl
  rcases he with rfl | ⟨rfl, hl⟩
  · go_wp2_with fail
    go_ret
    exact ⟨.inl rfl, B1.out⟩
  · have HLg := hide hl
    clear hl
    by_cases hb : bl.length ≤ 10
    · have hbI : (bl.length : Int) ≤ 10 := by omega
      go_wp2_with fail
      go_ret
      exact ⟨.inr ⟨rfl, HLg.out, hb⟩, B1.out⟩
    · have hbI : ¬ (bl.length : Int) ≤ 10 := by omega
      go_wp2_with fail
      go_ret
      refine ⟨.inl ?_, B1.out⟩
      show Ending.returned (.bool (decide ((bl.length : Int) ≤ 10))) = _
      rw [decide_eq_false (by omega)]
theorem light9_any (f : Fun) (v : Value) (w : World) (hv : FunV w f v) (hg : GyF f) :
    Calls Try.prog 6 #[v] w fun e w' => (e = .returned (.bool false) ∨ (e = .returned (.bool true) ∧ Lgt9 f)) ∧ Below w.heap.size w w' := by
  obtain ⟨nm, ps, rt, bl, pl⟩ := f
  have hv2 := hv
  obtain ⟨vp, vb, rfl, ⟨ao, c, rfl, h1, _⟩, h2⟩ := hv
  obtain ⟨bo, cb, rfl, _⟩ := h2
  exact light9_try nm ps rt pl bl ao bo c cb w hv2 hg
theorem fork_lgt : Lgt9 fFork := by
  refine ⟨⟨by decide, ?_, by rw [fork_shape]⟩, by decide⟩
  have h : ∀ b ∈ fFork.2.2.2.1, b.length ≤ 150 ∧ ∀ x ∈ b, x.2.2.2.2.2.1.length ≤ 30 ∧ x.2.2.2.2.1.length ≤ 30 ∧ x.2.2.2.2.2.2.1.length ≤ 100 := by decide +kernel
  exact h
theorem fork_up4 : upB (succsF fFork) 4 = 1 := by decide +kernel
theorem fork_up0 : upB (succsF fFork) 0 = -1 := by decide +kernel
theorem fork_up6 : upB (succsF fFork) 6 = -1 := by decide +kernel
theorem fork_a15 : aheadB (succsF fFork) 1 5 = true := by decide +kernel
theorem fork_a24 : aheadB (succsF fFork) 2 4 = false := by decide +kernel
theorem fork_a66 : aheadB (succsF fFork) 6 6 = false := by decide +kernel
theorem fork_kids : kidsB (succsF fFork) 1 = [2, 3, 4] := by decide +kernel
theorem fork_deep : depthB (succsF fFork) 5 = 3 := by decide +kernel
theorem fork_down : downB (succsF fFork) 0 = [0, 1, 2, 3, 4, 5] := by decide +kernel
set_option maxHeartbeats 8000000 in
set_option maxRecDepth 20000 in
theorem works9_any {T : World → Fun → Value → Prop} {G : World → Prop} (D : Dom T G) (w : World) (hG : G w) : Calls Try.prog 7 #[] w fun e w' => e = .returned (.bool true) ∧ Below w.heap.size w w' := by
  have HGw := hide hG
  have HD := hide D
  clear hG D
  go_enter Try.func7, Try.ntmps7
  go_wp2_with fail
  refine (fork_any w).mono ?_; rintro e w1 ⟨v, rfl, hv, b1⟩
  obtain ⟨vp, vb, rfl, ⟨ao, c, rfl, _⟩, ⟨bo, cb, rfl, _⟩⟩ := id hv
  have b2 := below_box w1 (.cells #[.string (bs fFork.1), .slice ao fFork.2.1.length c, .int .i64 fFork.2.2.1, .slice bo fFork.2.2.2.1.length cb, .int .i64 fFork.2.2.2.2] 25)
  have X0 := hide (L5.Box.new w1 [.string (bs [102]), .slice ao 1 c, .int .i64 0, .slice bo 7 cb, .int .i64 0] 25)
  have HV := hide (hv.below b2)
  have HB := hide (below_step b1 b2)
  clear hv b1 b2
  go_upto_region 2 with fail
  show Code.wp _ _ _ _ (w1.alloc (.cells #[.string (bs [102]), .slice ao 1 c, .int .i64 0, .slice bo 7 cb, .int .i64 0] 25))
  replace X0 : Hid (L5.Box (w1.alloc (.cells #[.string (bs [102]), .slice ao 1 c, .int .i64 0, .slice bo 7 cb, .int .i64 0] 25)) w1.heap.size [.string (bs [102]), .slice ao 1 c, .int .i64 0, .slice bo 7 cb, .int .i64 0]) := X0
  replace HV : Hid (FunV (w1.alloc (.cells #[.string (bs [102]), .slice ao 1 c, .int .i64 0, .slice bo 7 cb, .int .i64 0] 25)) fFork (.agg #[.string (bs [102]), .slice ao 1 c, .int .i64 0, .slice bo 7 cb, .int .i64 0])) := HV
  replace HB : Hid (Below w.heap.size w (w1.alloc (.cells #[.string (bs [102]), .slice ao 1 c, .int .i64 0, .slice bo 7 cb, .int .i64 0] 25))) := HB
  generalize w1.alloc (.cells #[.string (bs [102]), .slice ao 1 c, .int .i64 0, .slice bo 7 cb, .int .i64 0] 25) = W at *
  generalize w1.heap.size = q at *
  obtain ⟨x0, x1, x2, x3, x4⟩ : _ ∧ _ ∧ _ ∧ _ ∧ _ := ⟨X0.out.2 0 _ rfl, X0.out.2 1 _ rfl, X0.out.2 2 _ rfl, X0.out.2 3 _ rfl, X0.out.2 4 _ rfl⟩
  have HO := hide (HD.out.of fFork _ W (HD.out.gb HGw.out HB.out) HV.out fork_lgt)
  go_wp2_with fail
  refine HO.out.mono ?_; rintro e w2 ⟨ta, rfl, hT, b2⟩
  have HT := hide hT
  have B2 := hide (below_step HB.out b2)
  clear x0 x1 x2 x3 x4 HO hT b2 HV X0 HB
  have r : ∀ n : Int, 0 ≤ n → n ≤ 10 → R64 n := fun n h1 h2 => ⟨by omega, by omega⟩
  have K1 := hide (HD.out.up fFork 4 _ w2 HT.out fork_lgt (r _ (by omega) (by omega)))
  rw [fork_up4] at K1
  go_wp2_with fail
  refine K1.out.mono ?_; rintro e w3 ⟨rfl, b3⟩
  replace HT := hide (HD.out.tb HT.out b3)
  replace B2 := hide (below_step B2.out b3)
  clear b3 K1
  have K1 := hide (HD.out.up fFork 0 _ w3 HT.out fork_lgt (r _ (by omega) (by omega)))
  rw [fork_up0] at K1
  go_wp2_with fail
  refine K1.out.mono ?_; rintro e w4 ⟨rfl, b3⟩
  replace HT := hide (HD.out.tb HT.out b3)
  replace B2 := hide (below_step B2.out b3)
  clear b3 K1
  have K1 := hide (HD.out.up fFork 6 _ w4 HT.out fork_lgt (r _ (by omega) (by omega)))
  rw [fork_up6] at K1
  go_wp2_with fail
  refine K1.out.mono ?_; rintro e w5 ⟨rfl, b3⟩
  replace HT := hide (HD.out.tb HT.out b3)
  replace B2 := hide (below_step B2.out b3)
  clear b3 K1
  have K1 := hide (HD.out.ahead fFork 1 5 _ w5 HT.out fork_lgt (r _ (by omega) (by omega)) (r _ (by omega) (by omega)))
  rw [fork_a15] at K1
  go_wp2_with fail
  refine K1.out.mono ?_; rintro e w6 ⟨rfl, b3⟩
  replace HT := hide (HD.out.tb HT.out b3)
  replace B2 := hide (below_step B2.out b3)
  clear b3 K1
  have K1 := hide (HD.out.ahead fFork 2 4 _ w6 HT.out fork_lgt (r _ (by omega) (by omega)) (r _ (by omega) (by omega)))
  rw [fork_a24] at K1
  go_wp2_with fail
  refine K1.out.mono ?_; rintro e w7 ⟨rfl, b3⟩
  replace HT := hide (HD.out.tb HT.out b3)
  replace B2 := hide (below_step B2.out b3)
  clear b3 K1
  have K1 := hide (HD.out.ahead fFork 6 6 _ w7 HT.out fork_lgt (r _ (by omega) (by omega)) (r _ (by omega) (by omega)))
  rw [fork_a66] at K1
  go_wp2_with fail
  refine K1.out.mono ?_; rintro e w8 ⟨rfl, b3⟩
  replace HT := hide (HD.out.tb HT.out b3)
  replace B2 := hide (below_step B2.out b3)
  clear b3 K1
  have K1 := hide (HD.out.kids fFork 1 _ w8 HT.out fork_lgt (r _ (by omega) (by omega)))
  rw [fork_kids] at K1
  go_wp2_with fail
  refine K1.out.mono ?_; rintro e w9 ⟨u, rfl, hu, b3⟩
  replace HT := hide (HD.out.tb HT.out b3)
  replace B2 := hide (below_step B2.out b3)
  obtain ⟨uo, uc, rfl, us, _, _⟩ := hu
  have HI : Hid (Calls Try.prog 16 #[.slice uo 3 uc, .slice (some ⟨w9.heap.size, 0, none⟩) 3 3] (w9.alloc (.cells #[.int .i64 2, .int .i64 3, .int .i64 4] 3)) fun e w' => e = .returned (.bool true) ∧ Below (w9.alloc (.cells #[.int .i64 2, .int .i64 3, .int .i64 4] 3)).heap.size (w9.alloc (.cells #[.int .i64 2, .int .i64 3, .int .i64 4] 3)) w') := hide (rints_same [2, 3, 4] uo _ uc 3 _ (by decide) (us.below (below_box _ _)) (new_sl w9 [2, 3, 4] 3))
  clear b3 K1 us
  go_wp2_with fail
  refine HI.out.mono ?_; rintro e wA ⟨rfl, b3⟩
  replace b3 := below_step (below_box w9 (.cells #[.int .i64 2, .int .i64 3, .int .i64 4] 3)) b3
  replace HT := hide (HD.out.tb HT.out b3)
  replace B2 := hide (below_step B2.out b3)
  clear b3 HI
  have K1 := hide (HD.out.depth fFork 5 _ wA HT.out fork_lgt (r _ (by omega) (by omega)))
  rw [fork_deep] at K1
  go_wp2_with fail
  refine K1.out.mono ?_; rintro e wB ⟨rfl, b3⟩
  replace HT := hide (HD.out.tb HT.out b3)
  replace B2 := hide (below_step B2.out b3)
  clear b3 K1
  have K1 := hide (HD.out.down fFork _ wB HT.out fork_lgt)
  rw [fork_down] at K1
  go_wp2_with fail
  refine K1.out.mono ?_; rintro e wC ⟨u, rfl, hu, b3⟩
  replace B2 := hide (below_step B2.out b3)
  obtain ⟨uo, uc, rfl, us, _, _⟩ := hu
  have HI : Hid (Calls Try.prog 16 #[.slice uo 6 uc, .slice (some ⟨wC.heap.size, 0, none⟩) 6 6] (wC.alloc (.cells #[.int .i64 0, .int .i64 1, .int .i64 2, .int .i64 3, .int .i64 4, .int .i64 5] 3)) fun e w' => e = .returned (.bool true) ∧ Below (wC.alloc (.cells #[.int .i64 0, .int .i64 1, .int .i64 2, .int .i64 3, .int .i64 4, .int .i64 5] 3)).heap.size (wC.alloc (.cells #[.int .i64 0, .int .i64 1, .int .i64 2, .int .i64 3, .int .i64 4, .int .i64 5] 3)) w') := hide (rints_same [0, 1, 2, 3, 4, 5] uo _ uc 6 _ (by decide) (us.below (below_box _ _)) (new_sl wC [0, 1, 2, 3, 4, 5] 3))
  clear b3 K1 us HT
  go_wp2_with fail
  refine HI.out.mono ?_; rintro e wD ⟨rfl, b3⟩
  replace B2 := hide (below_step B2.out (below_step (below_box wC (.cells #[.int .i64 0, .int .i64 1, .int .i64 2, .int .i64 3, .int .i64 4, .int .i64 5] 3)) b3))
  clear b3 HI
  go_wp2_with fail
  go_ret
  exact ⟨rfl, B2.out⟩
end Go.Proofs.Ytnlcpfijfjbgjaa
