/- Proved: for every number of 64 bits and every text, DigitsBack returns true, and its arguments read as before; the tied card, where three tables of the library start as the program's text lays them. -/
import Derived.Test.YtlkdjmjochappaaDoorLaid
import Derived.Test.YtlkdjmjochappaaDoorTie
import Derived.Test.YtlkdjmjochappaaDoorCards
import Derived.SevenTiedAt
namespace Go.Proofs.YtlkdjmjochappaaDoor
open Go.ChangeShapes Go.WideShapes Go.ChangeAt Go.RowKit
open Go.ChangeMaps (open_string shut_string)

theorem itoa_len (n : Int) (h0 : -9223372036854775808 ≤ n) (h1 : n ≤ 9223372036854775807) : (⟨(Lib.itoa n).toArray⟩ : ByteArray).size ≤ maxLen := by
  have e : (⟨(Lib.itoa n).toArray⟩ : ByteArray).size = (Lib.itoa n).length := by simp [ByteArray.size]
  have d1 := dec_len 19 n.natAbs (by omega)
  have d2 := dec_len 19 n.toNat (by omega)
  have : (Lib.itoa n).length ≤ 21 := by
    unfold Lib.itoa
    split
    · simp; omega
    · omega
  rw [e]
  unfold maxLen
  omega
theorem parse_print (n : Int) (w : World) (h0 : -9223372036854775808 ≤ n) (h1 : n ≤ 9223372036854775807) :
    Calls Tryd.prog 11 #[.string ⟨(Lib.itoa n).toArray⟩] w fun e w' => e = .returned (.tuple #[.int .i64 n, .int .i64 0]) ∧ w' = w := by
  refine (parse_any _ w (itoa_len n h0 h1)).mono ?_
  rintro e w' ⟨rfl, rfl⟩
  exact ⟨ret_two (congrArg Prod.fst (read_itoa n h0 h1)) (congrArg Prod.snd (read_itoa n h0 h1)), rfl⟩
set_option maxHeartbeats 400000 in
theorem lawBack_long (n : Int) (s : ByteArray) (w : World) (hs : s.size ≤ maxLen) (hl : 300 < s.size) (ht : Tab w) :
    Calls Tryd.prog 5 #[.int .i64 n, .string s] w fun e w' => e = .returned (.bool true) ∧ Below w.heap.size w w' := by
  unfold maxLen at hs
  go_enter Tryd.func5, Tryd.ntmps5
  go_wp2_with fail
  refine (works_any _ ht).mono ?_; rintro e w5 ⟨rfl, b5⟩
  go_wp2_with fail
  go_ret
  exact ⟨rfl, b5⟩
set_option maxHeartbeats 400000 in
theorem lawBack (n : Int) (s : ByteArray) (w : World) (h0 : -9223372036854775808 ≤ n) (h1 : n ≤ 9223372036854775807) (hs : s.size ≤ maxLen) (hl : ¬ 300 < s.size) (ht : Tab w) :
    Calls Tryd.prog 5 #[.int .i64 n, .string s] w fun e w' => e = .returned (.bool true) ∧ Below w.heap.size w w' := by
  have hs' := hs
  unfold maxLen at hs
  have hr := readNum_range s.data.toList
  have HB := hide (itoa_read s.data.toList)
  go_enter Tryd.func5, Tryd.ntmps5
  go_wp2_with fail
  refine (print_any n _ h0 h1 ht).mono ?_; rintro e w1 ⟨rfl, b1⟩
  have t1 := ht.below b1
  go_wp2_with fail
  refine (parse_print n _ h0 h1).mono ?_; rintro e w2 ⟨rfl, e2⟩; rw [e2]; clear e2
  go_wp2_with fail
  refine (parse_any s _ hs').mono ?_; rintro e w3 ⟨rfl, e3⟩; rw [e3]; clear e3
  generalize (readNum s.data.toList).1 = k at *
  generalize (readNum s.data.toList).2 = c at *
  by_cases hc : c = 0
  · have hc' : (c != 0) = false := by rw [hc]; rfl
    have HE := hide (unhide HB hc)
    clear hc
    go_wp2_with fail
    refine (print_any k _ hr.1 hr.2 t1).mono ?_; rintro e w4 ⟨rfl, b4⟩
    rw [show (⟨(Lib.itoa k).toArray⟩ : ByteArray) = s by rw [unhide HE]]
    go_wp2_with fail
    refine (works_any _ (t1.below b4)).mono ?_; rintro e w5 ⟨rfl, b5⟩
    go_wp2_with fail
    go_ret
    exact ⟨rfl, below_step (below_step b1 b4) b5⟩
  · have hc' : (c != 0) = true := by rw [bne_iff_ne]; exact hc
    go_wp2_with fail
    refine (works_any _ t1).mono ?_; rintro e w5 ⟨rfl, b5⟩
    go_wp2_with fail
    go_ret
    exact ⟨rfl, below_step b1 b5⟩
theorem lawBack_all (n : Int) (s : ByteArray) (w : World) (h0 : -9223372036854775808 ≤ n) (h1 : n ≤ 9223372036854775807) (hs : s.size ≤ maxLen) (ht : Tab w) :
    Calls Tryd.prog 5 #[.int .i64 n, .string s] w fun e w' => e = .returned (.bool true) ∧ Below w.heap.size w w' := by
  by_cases hl : 300 < s.size
  · exact lawBack_long n s w hs hl ht
  · exact lawBack n s w h0 h1 hs hl ht

set_option maxRecDepth 100000 in
theorem digitsBack_lifted (os : Os) (started : os.Started) (H : Type) (enc : TypeId × Value → H) :
    ReturnsInHanded {} Tryd.checked os 5 .any (fun w args => (Rows.digitsBackSpec.pre enc Tryd.prog Tryd.f5 [] false w args ∧ laidMetH Tryd.prog laid3 w) ∧ sizedMet enc Tryd.prog Tryd.f5 (OpenSpec.ofChange Rows.digitsBackSpec) false w args)
      (Rows.digitsBackSpec.post enc Tryd.prog Tryd.f5 false true false false) := by
  refine returnsInHanded_of_change_and (C := Tryd.checked) (X := fun w _ => laidMetH Tryd.prog laid3 w) (fun _ _ _ hh h => h.of_heap hh) own started (by kernel_rfl) Tryd.func5
    (ChangeSpec.witness_shaped (enc := enc) (C := Tryd.checked) (os := os) (X := fun w _ => laidMetH Tryd.prog laid3 w) false (World.doorLaid Tryd.prog 400 os) #[.int .i64 0, .string ⟨#[]⟩] 8 rfl (World.shaped_of_RefB (by kernel_rfl) (by kernel_rfl)) (by kernel_rfl) (by kernel_rfl) (by kernel_rfl) (door_met os _)) ?_
  intro W base args ds gs before hval0 hW _ _ hL _
  have hval : ∀ (j : Nat) t v, Tryd.f5.params[j]? = some t → args[j]? = some v → Value.okWide Tryd.prog W .any base t v := hval0
  have hW' := hW
  obtain ⟨p, q, hA0, hV, rfl, hfz, hnd⟩ := hW
  have hA : DataW.TrodAll enc Tryd.prog W 0 (fun _ => true) true Tryd.f5.params.toList args.toList ds p := hA0
  rw [Tryd.params5] at hA hval
  obtain ⟨v0, v1, d0, d1, p0, p1, rfl, rfl, rfl, h0, h1⟩ := trodAll_two hA
  obtain ⟨rfl, rfl⟩ := trodVars_none hV
  obtain ⟨a, rfl, rfl, rfl, wa⟩ := open_int Tryd.underlying2 (hval 0 2 v0 rfl rfl) h0
  have ra := bounds_i64 wa
  obtain ⟨b, rfl, rfl, rfl, wb⟩ := open_string Tryd.underlying9 (hval 1 9 v1 rfl rfl) h1
  clear hA0 hval0
  refine (lawBack_all a b W (by omega) (by omega) wb (tab_of_laid hL)).mono fun e W' ⟨he, bel⟩ => ?_
  subst he
  exact ⟨_, rfl, _, _, _, [], [], [], hW', trodAll_mk1 (shut_bool Tryd.underlying4 _), trodAll_mk2 (shut_int Tryd.underlying2 wa) (shut_string Tryd.underlying9 wb), rfl, bel.frame _, fun h => by cases h⟩

theorem digitsBack_row : Rows.DigitsBackSaid :=
  OpenClaim.holds_of_wide 5 Tryd.f5 rfl rfl rfl rfl rfl rfl rfl ⟨rfl, rfl, rfl, rfl, rfl⟩ rfl rfl rfl rfl rfl (by kernel_rfl) Tryd.func5 (by kernel_rfl)
    (of_decide_eq_true (by kernel_rfl)) (by unfold Func.isWrapper; first | (rw [if_pos (by decide +kernel)]; kernel_rfl) | (rw [if_neg (by decide +kernel)]; exact ⟨rfl, rfl⟩))
    (fun os started H enc _ => digitsBack_lifted os started H enc)

theorem digitsBack_holds : Rows.DigitsBackCardSaid :=
  Claim7.holds_tied_plain_at .later [] [.data, .data, .data] true (true, "083fbbc694325a8a20b4ce08be17858d4161cb140db957ade0460bccc0cf9fb4") false
    digitsBack_row (fun _ h => by cases h) (by kernel_rfl) (fun _ h => by cases h) digitsBack_row_tie rfl ⟨rfl, rfl⟩ (by kernel_rfl) rfl
    (fun f fn hf hfn => by
      obtain rfl : f = 5 := Option.some.inj ((show Tryd.prog.funcNamed "turntable/turntablelaw01.DigitsBack" = some 5 by kernel_rfl).symm.trans hf) |>.symm
      obtain rfl : fn = Tryd.f5 := (Option.some.inj (Tryd.func5.symm.trans hfn)).symm
      exact ⟨by kernel_rfl, fun j t ht => by
        rw [Tryd.params5] at ht
        have hm : t ∈ [2, 9] := by simpa using Array.mem_of_getElem? ht
        have hall : ([2, 9].all fun u => !Tryd.prog.wantsStandIn u) = true := by kernel_rfl
        exact (show Tryd.prog.wantsStandIn t = false by simpa using List.all_eq_true.1 hall t hm)⟩)
    (by kernel_rfl)
#print axioms digitsBack_holds
end Go.Proofs.YtlkdjmjochappaaDoor
