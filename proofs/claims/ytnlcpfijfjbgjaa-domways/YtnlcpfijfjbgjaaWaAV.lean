/- Layer 9: what a light function is; what is asked of the program's functions; the small check answers true, where these do. Bytes that come in, opened. Layer 9: the law DomWays. -/
import Derived.Test.YtnlcpfijfjbgjaaWaAK
import Derived.Test.YtnlcpfijfjbgjaaWaAU
namespace Go.Proofs.Ytnlcpfijfjbgjaa
open Go Go.RowKit
open G (Tok Er Ins Fun)
/-- No more than is waited for. -/
def Lgt9 (f : Fun) : Prop := Lgt f ∧ f.2.2.2.1.length ≤ 10
theorem Lgt9.gr {f : Fun} (h : Lgt9 f) : Gr (succsF f) := by
  refine ⟨fun l hl => ?_, by rw [succsF_len]; exact lgt_pos h.1⟩
  obtain ⟨K, hK, rfl⟩ := List.mem_iff_getElem.1 hl
  have hK2 : K < f.2.2.2.1.length := by rw [← succsF_len]; exact hK
  have e := succsF_at hK2
  rw [List.getElem?_eq_getElem hK] at e
  injection e with e
  rw [e, succsF_len]
  exact lgt_tos h.1 K
theorem Lgt9.few {f : Fun} (h : Lgt9 f) : (succsF f).length ≤ 10 := by rw [succsF_len]; exact h.2
def R64 (a : Int) : Prop := -9223372036854775808 ≤ a ∧ a < 9223372036854775808
/-- What is asked of the program's functions: a property of the tree that stays, one of the globals that stays, and what each function answers. -/
def Dom (T : World → Fun → Value → Prop) (G : World → Prop) : Prop :=
  (∀ {w w' : World}, G w → Below w.heap.size w w' → G w') ∧
  (∀ {w w' : World} {f : Fun} {v : Value}, T w f v → Below w.heap.size w w' → T w' f v) ∧
  (∀ (f : Fun) (v : Value) (w : World), G w → FunV w f v → Lgt9 f → Calls Try.prog 8 #[v] w fun e w' => ∃ a, e = .returned (.pointer (some a)) ∧ T w' f (.pointer (some a)) ∧ Below w.heap.size w w') ∧
  (∀ (f : Fun) (a b : Int) (v : Value) (w : World), T w f v → Lgt9 f → R64 a → R64 b → Calls Try.prog 10 #[v, .int .i64 a, .int .i64 b] w fun e w' => e = .returned (.bool (aheadB (succsF f) a b)) ∧ Below w.heap.size w w') ∧
  (∀ (f : Fun) (b : Int) (v : Value) (w : World), T w f v → Lgt9 f → R64 b → Calls Try.prog 12 #[v, .int .i64 b] w fun e w' => e = .returned (.int .i64 (upB (succsF f) b)) ∧ Below w.heap.size w w') ∧
  (∀ (f : Fun) (b : Int) (v : Value) (w : World), T w f v → Lgt9 f → R64 b → Calls Try.prog 14 #[v, .int .i64 b] w fun e w' => e = .returned (.int .i64 (depthB (succsF f) b)) ∧ Below w.heap.size w w') ∧
  (∀ (f : Fun) (b : Int) (v : Value) (w : World), T w f v → Lgt9 f → R64 b → Calls Try.prog 17 #[v, .int .i64 b] w fun e w' => ∃ u, e = .returned u ∧ IntsV w' (kidsB (succsF f) b) u ∧ Below w.heap.size w w') ∧
  (∀ (f : Fun) (v : Value) (w : World), T w f v → Lgt9 f → Calls Try.prog 19 #[v] w fun e w' => ∃ u, e = .returned u ∧ IntsV w' (downB (succsF f) 0) u ∧ Below w.heap.size w w')
theorem Dom.gb {T : World → Fun → Value → Prop} {G : World → Prop} (D : Dom T G) : ∀ {w w' : World}, G w → Below w.heap.size w w' → G w' := D.1
theorem Dom.tb {T : World → Fun → Value → Prop} {G : World → Prop} (D : Dom T G) : ∀ {w w' : World} {f : Fun} {v : Value}, T w f v → Below w.heap.size w w' → T w' f v := D.2.1
theorem Dom.of {T : World → Fun → Value → Prop} {G : World → Prop} (D : Dom T G) : ∀ (f : Fun) (v : Value) (w : World), G w → FunV w f v → Lgt9 f → Calls Try.prog 8 #[v] w fun e w' => ∃ a, e = .returned (.pointer (some a)) ∧ T w' f (.pointer (some a)) ∧ Below w.heap.size w w' := D.2.2.1
theorem Dom.ahead {T : World → Fun → Value → Prop} {G : World → Prop} (D : Dom T G) : ∀ (f : Fun) (a b : Int) (v : Value) (w : World), T w f v → Lgt9 f → R64 a → R64 b → Calls Try.prog 10 #[v, .int .i64 a, .int .i64 b] w fun e w' => e = .returned (.bool (aheadB (succsF f) a b)) ∧ Below w.heap.size w w' := D.2.2.2.1
theorem Dom.up {T : World → Fun → Value → Prop} {G : World → Prop} (D : Dom T G) : ∀ (f : Fun) (b : Int) (v : Value) (w : World), T w f v → Lgt9 f → R64 b → Calls Try.prog 12 #[v, .int .i64 b] w fun e w' => e = .returned (.int .i64 (upB (succsF f) b)) ∧ Below w.heap.size w w' := D.2.2.2.2.1
theorem Dom.depth {T : World → Fun → Value → Prop} {G : World → Prop} (D : Dom T G) : ∀ (f : Fun) (b : Int) (v : Value) (w : World), T w f v → Lgt9 f → R64 b → Calls Try.prog 14 #[v, .int .i64 b] w fun e w' => e = .returned (.int .i64 (depthB (succsF f) b)) ∧ Below w.heap.size w w' := D.2.2.2.2.2.1
theorem Dom.kids {T : World → Fun → Value → Prop} {G : World → Prop} (D : Dom T G) : ∀ (f : Fun) (b : Int) (v : Value) (w : World), T w f v → Lgt9 f → R64 b → Calls Try.prog 17 #[v, .int .i64 b] w fun e w' => ∃ u, e = .returned u ∧ IntsV w' (kidsB (succsF f) b) u ∧ Below w.heap.size w w' := D.2.2.2.2.2.2.1
theorem Dom.down {T : World → Fun → Value → Prop} {G : World → Prop} (D : Dom T G) : ∀ (f : Fun) (v : Value) (w : World), T w f v → Lgt9 f → Calls Try.prog 19 #[v] w fun e w' => ∃ u, e = .returned u ∧ IntsV w' (downB (succsF f) 0) u ∧ Below w.heap.size w w' := D.2.2.2.2.2.2.2
set_option maxHeartbeats 4000000 in
set_option maxRecDepth 20000 in
theorem light9_try (nm : List UInt8) (ps : List Int) (rt pl : Int) (bl : List (List Ins)) (ao bo : Option Addr) (c cb : Nat) (w : World)
    (hv : FunV w (nm, ps, rt, bl, pl) (.agg #[.string (bs nm), .slice ao ps.length c, .int .i64 rt, .slice bo bl.length cb, .int .i64 pl])) (hg : GyF (nm, ps, rt, bl, pl)) :
    Calls Try.prog 6 #[.agg #[.string (bs nm), .slice ao ps.length c, .int .i64 rt, .slice bo bl.length cb, .int .i64 pl]] w fun e w' => (e = .returned (.bool false) ∨ (e = .returned (.bool true) ∧ Lgt9 (nm, ps, rt, bl, pl))) ∧ Below w.heap.size w w' := by
  have b0 := below_box w (.cells #[.string (bs nm), .slice ao ps.length c, .int .i64 rt, .slice bo bl.length cb, .int .i64 pl] 25)
  have X0 := hide (L5.Box.new w [.string (bs nm), .slice ao ps.length c, .int .i64 rt, .slice bo bl.length cb, .int .i64 pl] 25)
  have HL := hide (light_any (nm, ps, rt, bl, pl) _ _ (hv.below b0) hg)
  have B0 := hide b0
  clear b0 hv hg
  go_enter Try.func6, Try.ntmps6
  go_upto_region 1 with fail
  show Code.wp _ _ _ _ (w.alloc (.cells #[.string (bs nm), .slice ao ps.length c, .int .i64 rt, .slice bo bl.length cb, .int .i64 pl] 25))
  replace X0 : Hid (L5.Box (w.alloc (.cells #[.string (bs nm), .slice ao ps.length c, .int .i64 rt, .slice bo bl.length cb, .int .i64 pl] 25)) w.heap.size [.string (bs nm), .slice ao ps.length c, .int .i64 rt, .slice bo bl.length cb, .int .i64 pl]) := X0
  generalize w.alloc (.cells #[.string (bs nm), .slice ao ps.length c, .int .i64 rt, .slice bo bl.length cb, .int .i64 pl] 25) = W at *
  obtain ⟨x0, x1, x2, x3, x4⟩ : _ ∧ _ ∧ _ ∧ _ ∧ _ := ⟨X0.out.2 0 _ rfl, X0.out.2 1 _ rfl, X0.out.2 2 _ rfl, X0.out.2 3 _ rfl, X0.out.2 4 _ rfl⟩
  go_wp2_with fail
  refine HL.out.mono ?_; rintro e w1 ⟨he, b1⟩
  have B1 := hide (below_step B0.out b1)
  have X1 := hide (X0.out.below b1)
  clear x0 x1 x2 x3 x4 HL X0 b1
  have x3 := X1.out.2 3 _ rfl
  rcases he with rfl | ⟨rfl, hl⟩
  · go_wp2_with fail
    go_ret
    exact ⟨.inl rfl, B1.out⟩
  · have HLg := hide hl
    clear hl
    by_cases hb : bl.length ≤ 10
    · have hbI : (bl.length : Int) ≤ 10 := by omega
      go_wp2_with fail
      go_ret
      exact ⟨.inr ⟨rfl, HLg.out, hb⟩, B1.out⟩
    · have hbI : ¬ (bl.length : Int) ≤ 10 := by omega
      go_wp2_with fail
      go_ret
      refine ⟨.inl ?_, B1.out⟩
      show Ending.returned (.bool (decide ((bl.length : Int) ≤ 10))) = _
      rw [decide_eq_false (by omega)]
theorem light9_any (f : Fun) (v : Value) (w : World) (hv : FunV w f v) (hg : GyF f) :
    Calls Try.prog 6 #[v] w fun e w' => (e = .returned (.bool false) ∨ (e = .returned (.bool true) ∧ Lgt9 f)) ∧ Below w.heap.size w w' := by
  obtain ⟨nm, ps, rt, bl, pl⟩ := f
  have hv2 := hv
  obtain ⟨vp, vb, rfl, ⟨ao, c, rfl, h1, _⟩, h2⟩ := hv
  obtain ⟨bo, cb, rfl, _⟩ := h2
  exact light9_try nm ps rt pl bl ao bo c cb w hv2 hg
theorem fork_lgt : Lgt9 fFork := by
  refine ⟨⟨by decide, ?_, by rw [fork_shape]⟩, by decide⟩
  have h : ∀ b ∈ fFork.2.2.2.1, b.length ≤ 150 ∧ ∀ x ∈ b, x.2.2.2.2.2.1.length ≤ 30 ∧ x.2.2.2.2.1.length ≤ 30 ∧ x.2.2.2.2.2.2.1.length ≤ 100 := by decide +kernel
  exact h
theorem fork_up4 : upB (succsF fFork) 4 = 1 := by decide +kernel
theorem fork_up0 : upB (succsF fFork) 0 = -1 := by decide +kernel
theorem fork_up6 : upB (succsF fFork) 6 = -1 := by decide +kernel
theorem fork_a15 : aheadB (succsF fFork) 1 5 = true := by decide +kernel
theorem fork_a24 : aheadB (succsF fFork) 2 4 = false := by decide +kernel
theorem fork_a66 : aheadB (succsF fFork) 6 6 = false := by decide +kernel
theorem fork_kids : kidsB (succsF fFork) 1 = [2, 3, 4] := by decide +kernel
theorem fork_deep : depthB (succsF fFork) 5 = 3 := by decide +kernel
theorem fork_down : downB (succsF fFork) 0 = [0, 1, 2, 3, 4, 5] := by decide +kernel
set_option maxHeartbeats 8000000 in
set_option maxRecDepth 20000 in
theorem works9_any {T : World → Fun → Value → Prop} {G : World → Prop} (D : Dom T G) (w : World) (hG : G w) : Calls Try.prog 7 #[] w fun e w' => e = .returned (.bool true) ∧ Below w.heap.size w w' := by
  have HGw := hide hG
  have HD := hide D
  clear hG D
  go_enter Try.func7, Try.ntmps7
  go_wp2_with fail
  refine (fork_any w).mono ?_; rintro e w1 ⟨v, rfl, hv, b1⟩
  obtain ⟨vp, vb, rfl, ⟨ao, c, rfl, _⟩, ⟨bo, cb, rfl, _⟩⟩ := id hv
  have b2 := below_box w1 (.cells #[.string (bs fFork.1), .slice ao fFork.2.1.length c, .int .i64 fFork.2.2.1, .slice bo fFork.2.2.2.1.length cb, .int .i64 fFork.2.2.2.2] 25)
  have X0 := hide (L5.Box.new w1 [.string (bs [102]), .slice ao 1 c, .int .i64 0, .slice bo 7 cb, .int .i64 0] 25)
  have HV := hide (hv.below b2)
  have HB := hide (below_step b1 b2)
  clear hv b1 b2
  go_upto_region 2 with fail
  show Code.wp _ _ _ _ (w1.alloc (.cells #[.string (bs [102]), .slice ao 1 c, .int .i64 0, .slice bo 7 cb, .int .i64 0] 25))
  replace X0 : Hid (L5.Box (w1.alloc (.cells #[.string (bs [102]), .slice ao 1 c, .int .i64 0, .slice bo 7 cb, .int .i64 0] 25)) w1.heap.size [.string (bs [102]), .slice ao 1 c, .int .i64 0, .slice bo 7 cb, .int .i64 0]) := X0
  replace HV : Hid (FunV (w1.alloc (.cells #[.string (bs [102]), .slice ao 1 c, .int .i64 0, .slice bo 7 cb, .int .i64 0] 25)) fFork (.agg #[.string (bs [102]), .slice ao 1 c, .int .i64 0, .slice bo 7 cb, .int .i64 0])) := HV
  replace HB : Hid (Below w.heap.size w (w1.alloc (.cells #[.string (bs [102]), .slice ao 1 c, .int .i64 0, .slice bo 7 cb, .int .i64 0] 25))) := HB
  generalize w1.alloc (.cells #[.string (bs [102]), .slice ao 1 c, .int .i64 0, .slice bo 7 cb, .int .i64 0] 25) = W at *
  generalize w1.heap.size = q at *
  obtain ⟨x0, x1, x2, x3, x4⟩ : _ ∧ _ ∧ _ ∧ _ ∧ _ := ⟨X0.out.2 0 _ rfl, X0.out.2 1 _ rfl, X0.out.2 2 _ rfl, X0.out.2 3 _ rfl, X0.out.2 4 _ rfl⟩
  have HO := hide (HD.out.of fFork _ W (HD.out.gb HGw.out HB.out) HV.out fork_lgt)
  go_wp2_with fail
  refine HO.out.mono ?_; rintro e w2 ⟨ta, rfl, hT, b2⟩
  have HT := hide hT
  have B2 := hide (below_step HB.out b2)
  clear x0 x1 x2 x3 x4 HO hT b2 HV X0 HB
  have r : ∀ n : Int, 0 ≤ n → n ≤ 10 → R64 n := fun n h1 h2 => ⟨by omega, by omega⟩
  have K1 := hide (HD.out.up fFork 4 _ w2 HT.out fork_lgt (r _ (by omega) (by omega)))
  rw [fork_up4] at K1
  go_wp2_with fail
  refine K1.out.mono ?_; rintro e w3 ⟨rfl, b3⟩
  replace HT := hide (HD.out.tb HT.out b3)
  replace B2 := hide (below_step B2.out b3)
  clear b3 K1
  have K1 := hide (HD.out.up fFork 0 _ w3 HT.out fork_lgt (r _ (by omega) (by omega)))
  rw [fork_up0] at K1
  go_wp2_with fail
  refine K1.out.mono ?_; rintro e w4 ⟨rfl, b3⟩
  replace HT := hide (HD.out.tb HT.out b3)
  replace B2 := hide (below_step B2.out b3)
  clear b3 K1
  have K1 := hide (HD.out.up fFork 6 _ w4 HT.out fork_lgt (r _ (by omega) (by omega)))
  rw [fork_up6] at K1
  go_wp2_with fail
  refine K1.out.mono ?_; rintro e w5 ⟨rfl, b3⟩
  replace HT := hide (HD.out.tb HT.out b3)
  replace B2 := hide (below_step B2.out b3)
  clear b3 K1
  have K1 := hide (HD.out.ahead fFork 1 5 _ w5 HT.out fork_lgt (r _ (by omega) (by omega)) (r _ (by omega) (by omega)))
  rw [fork_a15] at K1
  go_wp2_with fail
  refine K1.out.mono ?_; rintro e w6 ⟨rfl, b3⟩
  replace HT := hide (HD.out.tb HT.out b3)
  replace B2 := hide (below_step B2.out b3)
  clear b3 K1
  have K1 := hide (HD.out.ahead fFork 2 4 _ w6 HT.out fork_lgt (r _ (by omega) (by omega)) (r _ (by omega) (by omega)))
  rw [fork_a24] at K1
  go_wp2_with fail
  refine K1.out.mono ?_; rintro e w7 ⟨rfl, b3⟩
  replace HT := hide (HD.out.tb HT.out b3)
  replace B2 := hide (below_step B2.out b3)
  clear b3 K1
  have K1 := hide (HD.out.ahead fFork 6 6 _ w7 HT.out fork_lgt (r _ (by omega) (by omega)) (r _ (by omega) (by omega)))
  rw [fork_a66] at K1
  go_wp2_with fail
  refine K1.out.mono ?_; rintro e w8 ⟨rfl, b3⟩
  replace HT := hide (HD.out.tb HT.out b3)
  replace B2 := hide (below_step B2.out b3)
  clear b3 K1
  have K1 := hide (HD.out.kids fFork 1 _ w8 HT.out fork_lgt (r _ (by omega) (by omega)))
  rw [fork_kids] at K1
  go_wp2_with fail
  refine K1.out.mono ?_; rintro e w9 ⟨u, rfl, hu, b3⟩
  replace HT := hide (HD.out.tb HT.out b3)
  replace B2 := hide (below_step B2.out b3)
  obtain ⟨uo, uc, rfl, us, _, _⟩ := hu
  have HI : Hid (Calls Try.prog 16 #[.slice uo 3 uc, .slice (some ⟨w9.heap.size, 0, none⟩) 3 3] (w9.alloc (.cells #[.int .i64 2, .int .i64 3, .int .i64 4] 3)) fun e w' => e = .returned (.bool true) ∧ Below (w9.alloc (.cells #[.int .i64 2, .int .i64 3, .int .i64 4] 3)).heap.size (w9.alloc (.cells #[.int .i64 2, .int .i64 3, .int .i64 4] 3)) w') := hide (rints_same [2, 3, 4] uo _ uc 3 _ (by decide) (us.below (below_box _ _)) (new_sl w9 [2, 3, 4] 3))
  clear b3 K1 us
  go_wp2_with fail
  refine HI.out.mono ?_; rintro e wA ⟨rfl, b3⟩
  replace b3 := below_step (below_box w9 (.cells #[.int .i64 2, .int .i64 3, .int .i64 4] 3)) b3
  replace HT := hide (HD.out.tb HT.out b3)
  replace B2 := hide (below_step B2.out b3)
  clear b3 HI
  have K1 := hide (HD.out.depth fFork 5 _ wA HT.out fork_lgt (r _ (by omega) (by omega)))
  rw [fork_deep] at K1
  go_wp2_with fail
  refine K1.out.mono ?_; rintro e wB ⟨rfl, b3⟩
  replace HT := hide (HD.out.tb HT.out b3)
  replace B2 := hide (below_step B2.out b3)
  clear b3 K1
  have K1 := hide (HD.out.down fFork _ wB HT.out fork_lgt)
  rw [fork_down] at K1
  go_wp2_with fail
  refine K1.out.mono ?_; rintro e wC ⟨u, rfl, hu, b3⟩
  replace B2 := hide (below_step B2.out b3)
  obtain ⟨uo, uc, rfl, us, _, _⟩ := hu
  have HI : Hid (Calls Try.prog 16 #[.slice uo 6 uc, .slice (some ⟨wC.heap.size, 0, none⟩) 6 6] (wC.alloc (.cells #[.int .i64 0, .int .i64 1, .int .i64 2, .int .i64 3, .int .i64 4, .int .i64 5] 3)) fun e w' => e = .returned (.bool true) ∧ Below (wC.alloc (.cells #[.int .i64 0, .int .i64 1, .int .i64 2, .int .i64 3, .int .i64 4, .int .i64 5] 3)).heap.size (wC.alloc (.cells #[.int .i64 0, .int .i64 1, .int .i64 2, .int .i64 3, .int .i64 4, .int .i64 5] 3)) w') := hide (rints_same [0, 1, 2, 3, 4, 5] uo _ uc 6 _ (by decide) (us.below (below_box _ _)) (new_sl wC [0, 1, 2, 3, 4, 5] 3))
  clear b3 K1 us HT
  go_wp2_with fail
  refine HI.out.mono ?_; rintro e wD ⟨rfl, b3⟩
  replace B2 := hide (below_step B2.out (below_step (below_box wC (.cells #[.int .i64 0, .int .i64 1, .int .i64 2, .int .i64 3, .int .i64 4, .int .i64 5] 3)) b3))
  clear b3 HI
  go_wp2_with fail
  go_ret
  exact ⟨rfl, B2.out⟩
end Go.Proofs.Ytnlcpfijfjbgjaa
namespace Go.Proofs.Ytnlcpfijfjbgjaa
open Go Go.RowKit
open Go.ChangeShapes Go.WideShapes Go.ChangeAt
/-- Bytes that lie one by one. -/
def BytesV (w : World) (l : List Int) (v : Value) : Prop := ∃ ao c, v = .slice ao l.length c ∧ (l = [] ∨ ∃ b o, ao = some ⟨b, o, none⟩ ∧ b < w.heap.size ∧ ∀ (i : Nat) (n : Int), l[i]? = some n → w.cell? ⟨b, o + i, none⟩ = some (.int .u8 n)) ∧ l.length ≤ maxLen
theorem BytesV.below {w w' : World} {l : List Int} {v : Value} (h : BytesV w l v) (hb : Below w.heap.size w w') : BytesV w' l v := by
  obtain ⟨ao, c, e, h1, h2⟩ := h
  refine ⟨ao, c, e, ?_, h2⟩
  rcases h1 with h1 | ⟨b, o, e2, hl, hc⟩
  · exact .inl h1
  · exact .inr ⟨b, o, e2, Nat.lt_of_lt_of_le hl hb.size, fun i n hi => (hb.cell (p := ⟨b, o + i, none⟩) hl).trans (hc i n hi)⟩
theorem oc5 : Try.prog.cellsOf 5 = 1 := by kernel_rfl
theorem u8_wf {n : Int} (h : (Lit.int .u8 n).wf = true) : 0 ≤ n ∧ n < 256 := by
  simp [Lit.wf, IntKind.min, IntKind.max, IntKind.bits, IntKind.signed] at h
  omega
set_option maxRecDepth 20000 in
theorem opn_bytes {H : Type} {enc : TypeId × Value → H} {W : World} {r : Reach} {b0 : Nat} {v : Value} {d : DataW H} {ps : List MemPlace} (hv : Value.okWide Try.prog W r b0 41 v) (h : DataW.Trod enc Try.prog W 0 (fun _ => true) true 41 v d ps) (_hz : Sz 41 d) :
    ∃ b : List Int, BytesV W b v ∧ ∀ x ∈ b, 0 ≤ x ∧ x < 256 := by
  obtain ⟨a0, len0, cap0, rfl⟩ := okWide_slice Try.underlying41 hv
  obtain ⟨fuel, hf⟩ := h
  rcases open_ints Try.underlying41 Try.underlying5 oc5 hf with ⟨e, _⟩ | ⟨a, len, cap, zs, e, _, hl, hm, hzl, hx, hc, hw⟩
  · have e' : Value.slice a0 len0 cap0 = .slice none 0 0 := by simpa [Value.cells] using e
    exact ⟨[], ⟨none, 0, e', .inl rfl, Nat.zero_le _⟩, fun _ h => (by cases h)⟩
  · have e' : Value.slice a0 len0 cap0 = .slice (some a) len cap := by simpa [Value.cells] using e
    rw [if_pos rfl] at hzl
    have hlen : (zs.take len).length = len := by simp; omega
    refine ⟨zs.take len, ⟨some a, cap, by rw [hlen]; exact e', ?_, by omega⟩, fun n hn => u8_wf (hw n (List.mem_of_mem_take hn))⟩
    by_cases h0 : len = 0
    · exact .inl (by rw [h0]; rfl)
    · obtain ⟨b, o, rfl, hb⟩ := spot_none (hc 0 (by omega))
      refine .inr ⟨b, o, rfl, hb, fun i n hi => ?_⟩
      obtain ⟨h1, h2⟩ := List.getElem?_eq_some_iff.1 hi
      have := hc i (by omega)
      rw [add_plain] at this
      rw [this, List.getD_eq_getElem?_getD, List.getElem?_eq_getElem (by omega)]
      rw [List.getElem_take] at h2
      rw [← h2]; rfl
end Go.Proofs.Ytnlcpfijfjbgjaa
namespace Go.Proofs.Ytnlcpfijfjbgjaa
open Go Go.RowKit
open G (Tok Er Ins Fun)
theorem succs_getD {f : Fun} {K : Nat} (h : K < f.2.2.2.1.length) : (succsF f).getD K [] = nextF f K := by
  rw [List.getD_eq_getElem?_getD, succsF_at h]; rfl
set_option maxHeartbeats 8000000 in
set_option maxRecDepth 20000 in
theorem lawWays {T : World → Fun → Value → Prop} {G : World → Prop} (D : Dom T G) (f : Fun) (tu : List Int) (v v1 : Value) (w : World) (hv : FunV w f v) (hg : GyF f) (hG : G w) (hb : BytesV w tu v1) (gb : ∀ x ∈ tu, 0 ≤ x ∧ x < 256) :
    Calls Try.prog 4 #[v, v1] w fun e w' => e = .returned (.bool true) ∧ Below w.heap.size w w' := by
  obtain ⟨i3, hi3, hz3, hz4, hz5⟩ := info_parts Try.info3
  have HBy := hide hb
  have HGb := hide gb
  obtain ⟨ko, kc, rfl, _, hkm⟩ := hb
  unfold maxLen at hkm
  clear gb
  have hv2 := hv
  obtain ⟨vp, vb, rfl, _, _⟩ := hv2
  have b0 := below_box w (.cells #[.string (bs f.1), vp, .int .i64 f.2.2.1, vb, .int .i64 f.2.2.2.2] 25)
  have X0 := hide (L5.Box.new w [.string (bs f.1), vp, .int .i64 f.2.2.1, vb, .int .i64 f.2.2.2.2] 25)
  have HV := hide (hv.below b0)
  have B0 := hide b0
  have HG := hide hg
  have HGw := hide (D.gb hG b0)
  have HD := hide D
  have HWk := hide (fun w (h : G w) => works9_any D w h)
  clear b0 hv hg hG D
  obtain ⟨lp, cp, rfl⟩ : ∃ ao c, vp = .slice ao f.2.1.length c := by
    obtain ⟨vp', vb', e, ⟨ao, c, e2, _⟩, _⟩ := HV.out
    injection e with e
    have e1 := congrArg (fun a => a[1]?) e
    simp at e1
    exact ⟨ao, c, by rw [e1, e2]⟩
  obtain ⟨lb, cb, rfl⟩ : ∃ ao c, vb = .slice ao f.2.2.2.1.length c := by
    obtain ⟨vp', vb', e, _, ⟨ao, c, e2, _⟩⟩ := HV.out
    injection e with e
    have e1 := congrArg (fun a => a[3]?) e
    simp at e1
    exact ⟨ao, c, by rw [e1, e2]⟩
  have HLt := hide (light9_any f _ _ HV.out HG.out)
  have HOf := hide (fun w1 (b : Below (w.alloc (.cells #[.string (bs f.1), .slice lp f.2.1.length cp, .int .i64 f.2.2.1, .slice lb f.2.2.2.1.length cb, .int .i64 f.2.2.2.2] 25)).heap.size _ w1) (h : Lgt9 f) => HD.out.of f _ w1 (HD.out.gb HGw.out b) (HV.out.below b) h)
  have HLl : Hid (Lgt9 f → 0 < f.2.2.2.1.length ∧ f.2.2.2.1.length ≤ 10) := hide (fun h => ⟨lgt_pos h.1, h.2⟩)
  have HLn : Hid ((succsF f).length = f.2.2.2.1.length) := hide (succsF_len f)
  have HNx : Hid (∀ k wq, k < f.2.2.2.1.length → FunV wq f _ → Ful f → _) := hide (fun k wq hk hv hF => next_any f k (.agg #[.string (bs f.1), .slice lp f.2.1.length cp, .int .i64 f.2.2.1, .slice lb f.2.2.2.1.length cb, .int .i64 f.2.2.2.2]) wq hv hF hk)
  have HSg : Hid (∀ k, k < f.2.2.2.1.length → (succsF f).getD k [] = nextF f k) := hide (fun k hk => succs_getD hk)
  have HTs : Hid (Tos f → ∀ k, Num f.2.2.2.1.length (nextF f k)) := hide (fun h k => h k)
  generalize bs f.1 = nm at *
  generalize f.2.1.length = lps at *
  generalize f.2.2.1 = rt at *
  generalize f.2.2.2.1.length = lbs at *
  generalize f.2.2.2.2 = pl at *
  go_enter Try.func4, Try.ntmps4
  go_upto_region 1 with fail
  show Code.wp _ _ _ _ (w.alloc (.cells #[.string nm, .slice lp lps cp, .int .i64 rt, .slice lb lbs cb, .int .i64 pl] 25))
  replace X0 : Hid (L5.Box (w.alloc (.cells #[.string nm, .slice lp lps cp, .int .i64 rt, .slice lb lbs cb, .int .i64 pl] 25)) w.heap.size [.string nm, .slice lp lps cp, .int .i64 rt, .slice lb lbs cb, .int .i64 pl]) := X0
  generalize w.alloc (.cells #[.string nm, .slice lp lps cp, .int .i64 rt, .slice lb lbs cb, .int .i64 pl] 25) = W at *
  obtain ⟨x0, x1, x2, x3, x4⟩ : _ ∧ _ ∧ _ ∧ _ ∧ _ := ⟨X0.out.2 0 _ rfl, X0.out.2 1 _ rfl, X0.out.2 2 _ rfl, X0.out.2 3 _ rfl, X0.out.2 4 _ rfl⟩
  go_wp2_with fail
  refine HLt.out.mono ?_; rintro e w1 ⟨he, b1⟩
  have B1 := hide b1
  clear x0 x1 x2 x3 x4 HLt b1
  rcases he with rfl | ⟨rfl, hl⟩
  · have HW2 := hide (HWk.out w1 (HD.out.gb HGw.out B1.out))
    go_wp2_with fail
    refine HW2.out.mono ?_; rintro e w3 ⟨rfl, b3⟩
    have HE := hide (below_step B0.out (below_step B1.out b3))
    clear b3
    go_wp2_with fail
    go_ret
    exact ⟨rfl, HE.out⟩
  by_cases h60 : (60 : Int) < tu.length
  · have HW2 := hide (HWk.out w1 (HD.out.gb HGw.out B1.out))
    go_wp2_with fail
    refine HW2.out.mono ?_; rintro e w3 ⟨rfl, b3⟩
    have HE := hide (below_step B0.out (below_step B1.out b3))
    clear b3
    go_wp2_with fail
    go_ret
    exact ⟨rfl, HE.out⟩
  obtain ⟨hn0, hn1⟩ := HLl.out hl
  have HFl := hide (lgt_ful hl.1)
  have HTo := hide (lgt_tos hl.1)
  have HLg := hide hl
  have HO := hide (HOf.out w1 B1.out hl)
  clear hl HLl
  obtain ⟨x0, x1, x2, x3, x4⟩ : _ ∧ _ ∧ _ ∧ _ ∧ _ := ⟨(X0.out.below B1.out).2 0 _ rfl, (X0.out.below B1.out).2 1 _ rfl, (X0.out.below B1.out).2 2 _ rfl, (X0.out.below B1.out).2 3 _ rfl, (X0.out.below B1.out).2 4 _ rfl⟩
  go_wp2_with fail
  refine HO.out.mono ?_; rintro e w2 ⟨ta, rfl, hT, b2⟩
  have HT := hide hT
  have B2 := hide (below_step B1.out b2)
  clear x0 x1 x2 x3 x4 HO hT b2 HOf
  have HGr := hide HLg.out.gr
  have HL0 := hide (Grw.lit w2 0)
  have KA := hide (fun j k wq (h : Below w2.heap.size w2 wq) (rj : R64 j) (rk : R64 k) => HD.out.ahead f j k _ wq (HD.out.tb HT.out h) HLg.out rj rk)
  have KU := hide (fun k wq (h : Below w2.heap.size w2 wq) (rk : R64 k) => HD.out.up f k _ wq (HD.out.tb HT.out h) HLg.out rk)
  have HBy2 := hide ((HBy.out.below B0.out).below B2.out)
  have HV2 := hide (HV.out.below B2.out)
  have HK : Hid (∀ wq, Below w2.heap.size w2 wq → Calls Try.prog 7 #[] wq fun e w' => e = .returned (.bool true) ∧ Below wq.heap.size wq w') := hide (fun wq h => HWk.out wq (HD.out.gb HGw.out (below_step B2.out h)))
  clear HBy
  go_wp2_with fail
  go_loopw [6, 7, 8] (fun kv wv i wr => ∃ (I K : Nat) (way : List Int), I ≤ tu.length ∧ i = .int .i64 I ∧ kv = .int .i64 K ∧ K < lbs ∧ way.length ≤ I + 1 ∧ Hid (Grw w2 way wv wr) ∧ Hid (OnWay (succsF f) way K)) (fun _ _ i _ => tu.length - (intOf i).toNat)
  case atStart => exact ⟨0, 0, [0], Nat.zero_le _, rfl, rfl, hn0, by simp, HL0, hide (OnWay.start _)⟩
  case round =>
    clear HL0
    obtain ⟨I, K, way, hI, rfl, rfl, hK, hwl, HG, HO⟩ := hrel
    have HBq := hide (below_step B2.out HG.out.2)
    obtain ⟨wo, wc, rfl, _, _⟩ := HG.out.slice
    by_cases hit : I < tu.length
    · have hiI : (I : Int) < tu.length := by omega
      obtain ⟨x0, x1, x2, x3, x4⟩ : _ ∧ _ ∧ _ ∧ _ ∧ _ := ⟨(X0.out.below HBq.out).2 0 _ rfl, (X0.out.below HBq.out).2 1 _ rfl, (X0.out.below HBq.out).2 2 _ rfl, (X0.out.below HBq.out).2 3 _ rfl, (X0.out.below HBq.out).2 4 _ rfl⟩
      have HN := hide (HNx.out K wr hK (HV2.out.below HG.out.2) HFl.out)
      have HSk := hide (HSg.out K hK)
      have HNm := hide (HTs.out HTo.out K)
      generalize nextF f K = l at *
      go_wp2_with fail
      refine HN.out.mono ?_; rintro e w4 ⟨lv, rfl, hlo, b4⟩
      have HG4 : Hid (Grw w2 way _ w4) := hide (HG.out.below b4)
      have HLo := hide hlo
      obtain ⟨lo, lc, rfl⟩ := own_len hlo
      clear x0 x1 x2 x3 x4 HN hlo b4 HBq HG
      by_cases hl0 : l.length = 0
      · have hbe : ((l.length : Int) == 0) = true := beq_iff_eq.2 (by omega)
        have HW2 := hide (HK.out w4 HG4.out.2)
        replace hl0 := hide hl0
        go_wp2_with fail
        refine HW2.out.mono ?_; rintro e w5 ⟨rfl, b5⟩
        have HE := hide (below_step B0.out (below_step B2.out (below_step HG4.out.2 b5)))
        clear b5
        go_wp2_with fail
        go_ret
        exact ⟨rfl, HE.out⟩
      · have hbe : ((l.length : Int) == 0) = false := beq_eq_false_iff_ne.2 (by omega)
        have hnz : ¬ (l.length : Int) = 0 := by omega
        obtain ⟨x, hx⟩ : ∃ x, tu[I]? = some x := ⟨_, List.getElem?_eq_getElem hit⟩
        obtain ⟨hx0, hx1⟩ := HGb.out x (List.mem_of_getElem? hx)
        have hr0 : 0 ≤ x % (l.length : Int) := Int.emod_nonneg _ hnz
        have hr1 : x % (l.length : Int) < l.length := Int.emod_lt_of_pos _ (by omega)
        obtain ⟨R, hR⟩ : ∃ R : Nat, x % (l.length : Int) = (R : Int) := ⟨(x % (l.length : Int)).toNat, by omega⟩
        have hRl : R < l.length := by omega
        obtain ⟨m, hm⟩ : ∃ m, l[R]? = some m := ⟨_, List.getElem?_eq_getElem hRl⟩
        obtain ⟨hm0, hm1⟩ := HNm.out m (List.mem_of_getElem? hm)
        obtain ⟨M, rfl⟩ : ∃ M : Nat, m = (M : Int) := ⟨m.toNat, by omega⟩
        have hMl : M < lbs := by omega
        obtain ⟨ko2, kc2, ke, hkr, _⟩ := HBy2.out
        injection ke with ke1 ke2 ke3
        subst ke1 ke3
        rcases hkr with e0 | ⟨kb, kof, rfl, kl, kcell⟩
        · subst e0; simp at hit
        have c1 := (HG4.out.2.cell (p := ⟨kb, kof + I, none⟩) kl).trans (kcell I x hx)
        obtain ⟨gq, rfl, c5, _⟩ := own_cell HLo.out hm
        have HO2 : Hid (OnWay (succsF f) (way ++ [(M : Int)]) M) := hide (HO.out.step (by rw [Int.toNat_natCast, HSk.out]; exact List.mem_of_getElem? hm) hm0)
        have hWs := HG4.out.2.size
        have rM : Hid (R64 (M : Int)) := hide ⟨by omega, by omega⟩
        have hRI : (R : Int) < l.length := by omega
        have hiI2 : (I : Int) < tu.length := by omega
        clear kcell hx hm hr0 hr1 HO HLo
        go_wp2_with (at_builtin; refine wpList_append_own _ rfl (.tmp 49) (.tmp 51) 22 rfl w2.heap.size 3 i3 _ 1 8 Try.underlying22 hi3 hz3 hz4 hz5 rfl (by decide) _ _ _ rfl (HG4.out.1.alloc _) ⟨w4.heap.size, 0, none⟩ 1 1 [.int .i64 M] rfl rfl one_cell one_one (by unfold maxLen; omega) (by omega) (by simp; omega) ?_; intro v2 w5 own2 grow2 _; refine Hid.out ?_)
        have HE : Hid (Grw w2 (way ++ [(M : Int)]) v2 w5) := hide (HG4.out.step own2 grow2)
        clear own2 grow2 c1 c5 hR hRI hRl
        refine hide ?_
        obtain ⟨vo, vc, rfl, s1, s2⟩ := HE.out.slice
        have HS := hide s1
        have hwl2 : (way ++ [(M : Int)]).length ≤ I + 1 + 1 := by simp; omega
        clear s1 HG4
        generalize way ++ [(M : Int)] = way2 at *
        go_wp2_with fail
        go_loopw [10] (fun i wq => ∃ J : Nat, J ≤ lbs ∧ i = .int .i64 J ∧ Hid (Below w5.heap.size w5 wq)) (fun i _ => lbs - (intOf i).toNat)
        case atStart => exact ⟨0, Nat.zero_le _, rfl, hide (Below.refl _ _)⟩
        case round =>
          obtain ⟨J, hJ, rfl, HB⟩ := hrel
          have HBw := hide (below_step HE.out.2 HB.out)
          have x3 := (X0.out.below (below_step B2.out HBw.out)).2 3 _ rfl
          by_cases hjt : J < lbs
          · have hjI : (J : Int) < lbs := by omega
            have rJ : Hid (R64 (J : Int)) := hide ⟨by omega, by omega⟩
            have K1 := hide (KA.out J M wr HBw.out rJ.out rM.out)
            go_wp2_with fail
            refine K1.out.mono ?_; rintro e w6 ⟨rfl, b6⟩
            have B6 := hide (below_step HB.out b6)
            clear b6 K1 x3
            cases hp : aheadB (succsF f) J M with
            | false =>
              replace hp := hide hp
              go_wp2_with fail
              go_roundw
              case rel => exact ⟨J + 1, by omega, by go_num, B6⟩
              case measure => simp [intOf]; omega
            | true =>
              have hh : hasL way2 J = true := hasL_mem.2 (HO2.out.ahead ((ahead_iff HGr.out _ _).1 hp))
              have HH := hide (rhas_any way2 J vo vc w6 (HS.out.below B6.out) s2)
              rw [hh] at HH
              replace hh := hide hh
              replace hp := hide hp
              go_wp2_with fail
              refine HH.out.mono ?_; rintro e w7 ⟨rfl, rfl⟩
              go_wp2_with fail
              go_roundw
              case rel => exact ⟨J + 1, by omega, by go_num, B6⟩
              case measure => simp [intOf]; omega
          · obtain rfl : J = lbs := by omega
            have K1 := hide (KU.out M wr HBw.out rM.out)
            go_wp2_with fail
            refine K1.out.mono ?_; rintro e w6 ⟨rfl, b6⟩
            have B6 := hide (below_step HB.out b6)
            have HE6 := hide (HE.out.below B6.out)
            clear b6 K1 x3
            by_cases hM0 : (M : Int) = 0
            · have hne : ((M : Int) != 0) = false := by simpa using hM0
              replace hM0 := hide hM0
              go_wp2_with fail
              go_roundw
              case rel => exact ⟨I + 1, M, way2, by omega, by go_num, by first | trivial | rfl, hMl, hwl2, HE6, HO2⟩
              case measure => simp [intOf]; omega
            · have hne : ((M : Int) != 0) = true := by simpa using hM0
              have hh : hasL way2 (upB (succsF f) M) = true := by
                obtain ⟨u, hu⟩ := IsUp.ex HGr.out (b := (M : Int)) HO2.out.2.1 hM0
                rw [upB_eq HGr.out hu]
                exact hasL_mem.2 (HO2.out.ahead hu.2.1)
              have HH := hide (rhas_any way2 (upB (succsF f) M) vo vc w6 (HS.out.below B6.out) s2)
              rw [hh] at HH
              replace hh := hide hh
              replace hM0 := hide hM0
              go_wp2_with fail
              refine HH.out.mono ?_; rintro e w7 ⟨rfl, rfl⟩
              go_wp2_with fail
              go_roundw
              case rel => exact ⟨I + 1, M, way2, by omega, by go_num, by first | trivial | rfl, hMl, hwl2, HE6, HO2⟩
              case measure => simp [intOf]; omega
    · have HW2 := hide (HK.out wr HG.out.2)
      go_wp2_with fail
      refine HW2.out.mono ?_; rintro e w5 ⟨rfl, b5⟩
      have HE := hide (below_step B0.out (below_step B2.out (below_step HG.out.2 b5)))
      clear b5
      go_wp2_with fail
      go_ret
      exact ⟨rfl, HE.out⟩
end Go.Proofs.Ytnlcpfijfjbgjaa
