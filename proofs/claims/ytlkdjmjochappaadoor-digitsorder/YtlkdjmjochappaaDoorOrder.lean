/- Proved: for every two numbers of 64 bits, DigitsOrder returns true, and its arguments read as before; the tied card, where three tables of the library start as the program's text lays them. -/
import Derived.Test.YtlkdjmjochappaaDoorLaid
import Derived.Test.YtlkdjmjochappaaDoorTie
import Derived.Test.YtlkdjmjochappaaDoorCards
import Derived.SevenTiedAt
namespace Go.Proofs.YtlkdjmjochappaaDoor
open Go.ChangeShapes Go.WideShapes Go.ChangeAt Go.RowKit

/-- Of two texts of digits of one length the one that is less, byte by byte, is worth less. -/
theorem less_worth : ∀ (s t : List UInt8), s.length = t.length → s.all isDig = true → t.all isDig = true → Op.bytesLess s t = decide (worth s < worth t)
  | [], [], _, _, _ => by simp [Op.bytesLess, worth]
  | [], _ :: _, h, _, _ => by simp at h
  | _ :: _, [], h, _, _ => by simp at h
  | x :: s, y :: t, h, hs, ht => by
    have hl : s.length = t.length := by simpa using h
    have hs' := hs
    have ht' := ht
    simp only [List.all_cons, Bool.and_eq_true] at hs ht
    have ih := less_worth s t hl hs.2 ht.2
    have dx := (isDig_iff x).1 hs.1
    have dy := (isDig_iff y).1 ht.1
    by_cases e : x = y
    · subst e
      have ex : worth (x :: s) = (x.toNat - 48) * 10 ^ s.length + worth s := by
        have := worth_append [x] s
        rwa [worth_one] at this
      have ey : worth (x :: t) = (x.toNat - 48) * 10 ^ s.length + worth t := by
        have := worth_append [x] t
        rwa [worth_one, ← hl] at this
      have hiff : (worth (x :: s) < worth (x :: t)) ↔ (worth s < worth t) := by rw [ex, ey]; omega
      rw [decide_eq_decide.2 hiff, ← ih]
      simp [Op.bytesLess]
    · have hne : x.toNat ≠ y.toNat := fun k => e (UInt8.toNat_inj.1 k)
      by_cases hlt : x.toNat < y.toNat
      · have hw := worth_first hs' ht' h 0 (by simp) (by simp) rfl (by simpa using hlt)
        have : x < y := UInt8.lt_iff_toNat_lt.2 hlt
        simp only [hw, decide_true]
        simp [Op.bytesLess, this]
      · have hw := worth_first ht' hs' h.symm 0 (by simp) (by simp) rfl (by simp; omega)
        have h1 : ¬ x < y := fun k => hlt (UInt8.lt_iff_toNat_lt.1 k)
        have hw' : ¬ worth (x :: s) < worth (y :: t) := by omega
        simp only [hw', decide_false]
        simp [Op.bytesLess, h1, e]
set_option maxHeartbeats 400000 in
theorem lawOrder_eq (a b : Int) (c : Bool) (w : World) (a0 : 0 ≤ a) (a1 : a ≤ 9223372036854775807) (b0 : 0 ≤ b) (b1 : b ≤ 9223372036854775807) (ht : Tab w) (s t : List UInt8) (hs : Hid (s = Lib.itoa a)) (htt : Hid (t = Lib.itoa b)) (hl : s.length = t.length) (hc : Op.bytesLess s t = c) (hd : decide (a < b) = c) :
    Calls Tryd.prog 6 #[.int .i64 a, .int .i64 b] w fun e w' => e = .returned (.bool true) ∧ Below w.heap.size w w' := by
  have g1 : decide (a < 0) = false := by simp; omega
  have g2 : decide (b < 0) = false := by simp; omega
  go_enter Tryd.func6, Tryd.ntmps6
  go_wp2_with fail
  refine (print_any a _ (by omega) a1 ht).mono ?_; rintro e w1 ⟨rfl, k1⟩
  have t1 := ht.below k1
  rw [← unhide hs]
  go_wp2_with fail
  refine (print_any b _ (by omega) b1 t1).mono ?_; rintro e w2 ⟨rfl, k2⟩
  have t2 := t1.below k2
  rw [← unhide htt]
  go_wp2_with fail
  refine (works_any _ t2).mono ?_; rintro e w3 ⟨rfl, k3⟩
  go_wp2_with fail
  go_ret
  exact ⟨rfl, below_step (below_step k1 k2) k3⟩
set_option maxHeartbeats 400000 in
theorem lawOrder_lt (a b : Int) (w : World) (a0 : 0 ≤ a) (a1 : a ≤ 9223372036854775807) (b0 : 0 ≤ b) (b1 : b ≤ 9223372036854775807) (ht : Tab w) (s t : List UInt8) (hs : Hid (s = Lib.itoa a)) (htt : Hid (t = Lib.itoa b)) (hl : s.length < t.length) (hd : decide (a < b) = true) :
    Calls Tryd.prog 6 #[.int .i64 a, .int .i64 b] w fun e w' => e = .returned (.bool true) ∧ Below w.heap.size w w' := by
  have g1 : decide (a < 0) = false := by simp; omega
  have g2 : decide (b < 0) = false := by simp; omega
  go_enter Tryd.func6, Tryd.ntmps6
  go_wp2_with fail
  refine (print_any a _ (by omega) a1 ht).mono ?_; rintro e w1 ⟨rfl, k1⟩
  have t1 := ht.below k1
  rw [← unhide hs]
  go_wp2_with fail
  refine (print_any b _ (by omega) b1 t1).mono ?_; rintro e w2 ⟨rfl, k2⟩
  have t2 := t1.below k2
  rw [← unhide htt]
  go_wp2_with fail
  refine (works_any _ t2).mono ?_; rintro e w3 ⟨rfl, k3⟩
  go_wp2_with fail
  go_ret
  exact ⟨rfl, below_step (below_step k1 k2) k3⟩
set_option maxHeartbeats 400000 in
theorem lawOrder_gt (a b : Int) (w : World) (a0 : 0 ≤ a) (a1 : a ≤ 9223372036854775807) (b0 : 0 ≤ b) (b1 : b ≤ 9223372036854775807) (ht : Tab w) (s t : List UInt8) (hs : Hid (s = Lib.itoa a)) (htt : Hid (t = Lib.itoa b)) (hl : ¬ s.length < t.length) (hl2 : ((s.length : Int) == (t.length : Int)) = false) (hd : decide (a < b) = false) :
    Calls Tryd.prog 6 #[.int .i64 a, .int .i64 b] w fun e w' => e = .returned (.bool true) ∧ Below w.heap.size w w' := by
  have g1 : decide (a < 0) = false := by simp; omega
  have g2 : decide (b < 0) = false := by simp; omega
  go_enter Tryd.func6, Tryd.ntmps6
  go_wp2_with fail
  refine (print_any a _ (by omega) a1 ht).mono ?_; rintro e w1 ⟨rfl, k1⟩
  have t1 := ht.below k1
  rw [← unhide hs]
  go_wp2_with fail
  refine (print_any b _ (by omega) b1 t1).mono ?_; rintro e w2 ⟨rfl, k2⟩
  have t2 := t1.below k2
  rw [← unhide htt]
  go_wp2_with fail
  refine (works_any _ t2).mono ?_; rintro e w3 ⟨rfl, k3⟩
  go_wp2_with fail
  go_ret
  exact ⟨rfl, below_step (below_step k1 k2) k3⟩
set_option maxHeartbeats 400000 in
theorem lawOrder_neg (a b : Int) (w : World) (h : a < 0 ∨ b < 0) (ht : Tab w) :
    Calls Tryd.prog 6 #[.int .i64 a, .int .i64 b] w fun e w' => e = .returned (.bool true) ∧ Below w.heap.size w w' := by
  by_cases h1 : a < 0
  · go_enter Tryd.func6, Tryd.ntmps6
    go_wp2_with fail
    refine (works_any _ ht).mono ?_; rintro e w3 ⟨rfl, k3⟩
    go_wp2_with fail
    go_ret
    exact ⟨rfl, k3⟩
  · have h2 : b < 0 := by omega
    clear h
    go_enter Tryd.func6, Tryd.ntmps6
    go_wp2_with fail
    refine (works_any _ ht).mono ?_; rintro e w3 ⟨rfl, k3⟩
    go_wp2_with fail
    go_ret
    exact ⟨rfl, k3⟩
theorem lawOrder_all (a b : Int) (w : World) (a0 : -9223372036854775808 ≤ a) (a1 : a ≤ 9223372036854775807) (b0 : -9223372036854775808 ≤ b) (b1 : b ≤ 9223372036854775807) (ht : Tab w) :
    Calls Tryd.prog 6 #[.int .i64 a, .int .i64 b] w fun e w' => e = .returned (.bool true) ∧ Below w.heap.size w w' := by
  by_cases hn : a < 0 ∨ b < 0
  · exact lawOrder_neg a b w hn ht
  · have ea : Lib.itoa a = Lib.decDigits a.toNat := by unfold Lib.itoa; rw [if_neg (by omega)]
    have eb : Lib.itoa b = Lib.decDigits b.toNat := by unfold Lib.itoa; rw [if_neg (by omega)]
    have na : isNum (Lib.itoa a) = true := by rw [ea]; exact dec_isNum _
    have nb : isNum (Lib.itoa b) = true := by rw [eb]; exact dec_isNum _
    have wa : worth (Lib.itoa a) = a.toNat := by rw [ea, worth_dec]
    have wb : worth (Lib.itoa b) = b.toNat := by rw [eb, worth_dec]
    rcases Nat.lt_trichotomy (Lib.itoa a).length (Lib.itoa b).length with hl | hl | hl
    · have := num_short _ _ na nb hl
      exact lawOrder_lt a b w (by omega) a1 (by omega) b1 ht _ _ rfl rfl hl (by simp; omega)
    · have hc := less_worth _ _ hl ((isNum_iff _).1 na).2.1 ((isNum_iff _).1 nb).2.1
      rw [wa, wb] at hc
      exact lawOrder_eq a b _ w (by omega) a1 (by omega) b1 ht _ _ rfl rfl hl hc (decide_eq_decide.2 (by omega))
    · have := num_short _ _ nb na hl
      exact lawOrder_gt a b w (by omega) a1 (by omega) b1 ht _ _ rfl rfl (by omega) (by rw [beq_eq_false_iff_ne]; omega) (by simp; omega)

set_option maxRecDepth 100000 in
theorem digitsOrder_lifted (os : Os) (started : os.Started) (H : Type) (enc : TypeId × Value → H) :
    ReturnsInHanded {} Tryd.checked os 6 .any (fun w args => (Rows.digitsOrderSpec.pre enc Tryd.prog Tryd.f6 [] false w args ∧ laidMetH Tryd.prog laid3 w) ∧ sizedMet enc Tryd.prog Tryd.f6 (OpenSpec.ofChange Rows.digitsOrderSpec) false w args)
      (Rows.digitsOrderSpec.post enc Tryd.prog Tryd.f6 false true false false) := by
  refine returnsInHanded_of_change_and (C := Tryd.checked) (X := fun w _ => laidMetH Tryd.prog laid3 w) (fun _ _ _ hh h => h.of_heap hh) own started (by kernel_rfl) Tryd.func6
    (ChangeSpec.witness_shaped (enc := enc) (C := Tryd.checked) (os := os) (X := fun w _ => laidMetH Tryd.prog laid3 w) false (World.doorLaid Tryd.prog 400 os) #[.int .i64 0, .int .i64 0] 8 rfl (World.shaped_of_RefB (by kernel_rfl) (by kernel_rfl)) (by kernel_rfl) (by kernel_rfl) (by kernel_rfl) (door_met os _)) ?_
  intro W base args ds gs before hval0 hW _ _ hL _
  have hval : ∀ (j : Nat) t v, Tryd.f6.params[j]? = some t → args[j]? = some v → Value.okWide Tryd.prog W .any base t v := hval0
  have hW' := hW
  obtain ⟨p, q, hA0, hV, rfl, hfz, hnd⟩ := hW
  have hA : DataW.TrodAll enc Tryd.prog W 0 (fun _ => true) true Tryd.f6.params.toList args.toList ds p := hA0
  rw [Tryd.params6] at hA hval
  obtain ⟨v0, v1, d0, d1, p0, p1, rfl, rfl, rfl, h0, h1⟩ := trodAll_two hA
  obtain ⟨rfl, rfl⟩ := trodVars_none hV
  obtain ⟨a, rfl, rfl, rfl, wa⟩ := open_int Tryd.underlying2 (hval 0 2 v0 rfl rfl) h0
  have ra := bounds_i64 wa
  obtain ⟨b, rfl, rfl, rfl, wb⟩ := open_int Tryd.underlying2 (hval 1 2 v1 rfl rfl) h1
  have rb := bounds_i64 wb
  clear hA0 hval0
  refine (lawOrder_all a b W (by omega) (by omega) (by omega) (by omega) (tab_of_laid hL)).mono fun e W' ⟨he, bel⟩ => ?_
  subst he
  exact ⟨_, rfl, _, _, _, [], [], [], hW', trodAll_mk1 (shut_bool Tryd.underlying4 _), trodAll_mk2 (shut_int Tryd.underlying2 wa) (shut_int Tryd.underlying2 wb), rfl, bel.frame _, fun h => by cases h⟩

theorem digitsOrder_row : Rows.DigitsOrderSaid :=
  OpenClaim.holds_of_wide 6 Tryd.f6 rfl rfl rfl rfl rfl rfl rfl ⟨rfl, rfl, rfl, rfl, rfl⟩ rfl rfl rfl rfl rfl (by kernel_rfl) Tryd.func6 (by kernel_rfl)
    (of_decide_eq_true (by kernel_rfl)) (by unfold Func.isWrapper; first | (rw [if_pos (by decide +kernel)]; kernel_rfl) | (rw [if_neg (by decide +kernel)]; exact ⟨rfl, rfl⟩))
    (fun os started H enc _ => digitsOrder_lifted os started H enc)

theorem digitsOrder_holds : Rows.DigitsOrderCardSaid :=
  Claim7.holds_tied_plain_at .later [] [.data, .data, .data] true (true, "083fbbc694325a8a20b4ce08be17858d4161cb140db957ade0460bccc0cf9fb4") false
    digitsOrder_row (fun _ h => by cases h) (by kernel_rfl) (fun _ h => by cases h) digitsOrder_row_tie rfl ⟨rfl, rfl⟩ (by kernel_rfl) rfl
    (fun f fn hf hfn => by
      obtain rfl : f = 6 := Option.some.inj ((show Tryd.prog.funcNamed "turntable/turntablelaw01.DigitsOrder" = some 6 by kernel_rfl).symm.trans hf) |>.symm
      obtain rfl : fn = Tryd.f6 := (Option.some.inj (Tryd.func6.symm.trans hfn)).symm
      exact ⟨by kernel_rfl, fun j t ht => by
        rw [Tryd.params6] at ht
        have hm : t ∈ [2, 2] := by simpa using Array.mem_of_getElem? ht
        have hall : ([2, 2].all fun u => !Tryd.prog.wantsStandIn u) = true := by kernel_rfl
        exact (show Tryd.prog.wantsStandIn t = false by simpa using List.all_eq_true.1 hall t hm)⟩)
    (by kernel_rfl)
#print axioms digitsOrder_holds
end Go.Proofs.YtlkdjmjochappaaDoor
