/- What the reference of layer 1 prints: for every number of 64 bits its decimal digits; nothing that was there is written. -/
import Derived.Test.YtlkdjmjochappaaDoorWalksA
import Derived.Laws.BytesArg
namespace Go.Proofs.YtlkdjmjochappaaDoor
open Go.RowKit
def ddn (u : Nat) : List UInt8 := if u = 0 then [] else Lib.decDigits u
theorem ddn_step (u : Nat) (h : u ≠ 0) : ddn u = ddn (u / 10) ++ [UInt8.ofNat (48 + u % 10)] := by
  unfold ddn
  rw [if_neg h]
  by_cases h1 : u < 10
  · rw [dec_small h1, if_pos (by omega), Nat.mod_eq_of_lt h1]; rfl
  · rw [dec_big h1, if_neg (by omega)]
theorem dec_len : ∀ (k u : Nat), u < 10 ^ (k + 1) → (Lib.decDigits u).length ≤ k + 1
  | 0, u, h => by rw [dec_small (by simpa using h)]; simp
  | k + 1, u, h => by
    by_cases h1 : u < 10
    · rw [dec_small h1]; simp
    · rw [dec_big h1, List.length_append]
      have := dec_len k (u / 10) (by rw [Nat.pow_succ] at h; omega)
      simpa using this
theorem conv_one (W : World) (x : Int) : (convert 35 9 (.slice (some ⟨W.heap.size, 0, none⟩) 1 1)).run Tryd.prog (W.alloc (.cells #[.int .u8 x] 5)) = .ok (.string ⟨#[UInt8.ofNat x.toNat]⟩) (W.alloc (.cells #[.int .u8 x] 5)) :=
  run_convert_bytes_arg _ 35 5 Tryd.underlying35 Tryd.underlying5 _ 0 1 1 [x] rfl (fun i hi => by
    obtain rfl : i = 0 := by omega
    simp) 9 Tryd.underlying9
theorem cat_one (x : UInt8) (l : List UInt8) : (⟨#[x]⟩ : ByteArray) ++ ⟨l.toArray⟩ = ⟨(x :: l).toArray⟩ := by
  apply ByteArray.ext
  simp
theorem tmod_neg (kk : Int) (h : kk < 0) : kk.tmod 10 = -((kk.natAbs % 10 : Nat) : Int) ∧ kk.tdiv 10 = -((kk.natAbs / 10 : Nat) : Int) := by
  obtain ⟨m, rfl⟩ : ∃ m : Nat, kk = -(m : Int) := ⟨kk.natAbs, by omega⟩
  rw [Int.neg_tmod, Int.neg_tdiv, Int.natAbs_neg, Int.natAbs_natCast]
  exact ⟨by rfl, by rfl⟩
/-- What holds at each round: the digits of what is left, and those that were laid. -/
def Left8 (n kk : Int) (l : List UInt8) : Prop := ddn kk.natAbs ++ l = Lib.decDigits n.natAbs ∧ (kk < 0 → n < 0) ∧ (0 < kk → 0 < n)
theorem Left8.len {n kk : Int} {l : List UInt8} (h : Left8 n kk l) (h0 : -9223372036854775808 ≤ n) (h1 : n ≤ 9223372036854775807) : l.length ≤ 20 := by
  have := congrArg List.length h.1
  rw [List.length_append] at this
  have := dec_len 19 n.natAbs (by omega)
  omega
theorem Left8.next {n kk : Int} {l : List UInt8} (h : Left8 n kk l) (hk : kk ≠ 0) (kk' : Int) (x : UInt8) (e1 : kk'.natAbs = kk.natAbs / 10) (e2 : x = UInt8.ofNat (48 + kk.natAbs % 10)) (s1 : kk' < 0 → kk < 0) (s2 : 0 < kk' → 0 < kk) : Left8 n kk' (x :: l) :=
  ⟨by rw [← h.1, ddn_step kk.natAbs (by omega), e1, e2]; simp, fun k => h.2.1 (s1 k), fun k => h.2.2 (s2 k)⟩
theorem Left8.start (n : Int) (hn : (n == 0) = false) : Left8 n n [] := by
  have : n ≠ 0 := by simpa using hn
  exact ⟨by unfold ddn; rw [if_neg (by omega), List.append_nil], id, id⟩
theorem Left8.done {n : Int} {l : List UInt8} (h : Left8 n 0 l) : l = Lib.decDigits n.natAbs := by
  have := h.1
  simpa [ddn] using this
set_option maxHeartbeats 400000 in
theorem refPrint_any (n : Int) (w : World) (h0 : -9223372036854775808 ≤ n) (h1 : n ≤ 9223372036854775807) (hn : (n == 0) = false) :
    Calls Tryd.prog 8 #[.int .i64 n] w fun e w' => e = .returned (.string ⟨(Lib.itoa n).toArray⟩) ∧ Below w.heap.size w w' := by
  have hcv := conv_one
  go_enter Tryd.func8, Tryd.ntmps8
  go_wp2
  go_loopw [3, 4] (fun o k wr => ∃ (kk : Int) (l : List UInt8), k = .int .i64 kk ∧ o = .string ⟨l.toArray⟩ ∧ -9223372036854775808 ≤ kk ∧ kk ≤ 9223372036854775807 ∧ Left8 n kk l ∧ Below w.heap.size w wr) (fun _ k _ => (intOf k).natAbs)
  case atStart => exact ⟨n, [], rfl, rfl, h0, h1, Left8.start n hn, Below.refl _ _⟩
  case round =>
    obtain ⟨kk, l, rfl, rfl, hk0, hk1, HI, hb⟩ := hrel
    have hlen := HI.len h0 h1
    rcases Int.lt_trichotomy kk 0 with hk | hk | hk
    · have hne : (kk != 0) = true := by rw [bne_iff_ne]; omega
      obtain ⟨tm, td⟩ := tmod_neg kk hk
      obtain ⟨d, HD, hd, hm⟩ : ∃ d : Nat, Hid (d = kk.natAbs % 10) ∧ d < 10 ∧ kk.tmod 10 = -(d : Int) := ⟨kk.natAbs % 10, rfl, by omega, tm⟩
      obtain ⟨q, HQ, hq, hdv⟩ : ∃ q : Nat, Hid (q = kk.natAbs / 10) ∧ (q : Int) ≤ 922337203685477580 ∧ kk.tdiv 10 = -(q : Int) := ⟨kk.natAbs / 10, rfl, by omega, td⟩
      clear tm td
      have hend : ∀ x : UInt8, x = UInt8.ofNat (48 + d) → Left8 n (-(q : Int)) (x :: l) := fun x hx => HI.next (by omega) _ _ (by have := HQ.out; omega) (by rw [hx, HD.out]) (fun _ => hk) (fun h => by omega)
      have hms : (-(q : Int)).natAbs < kk.natAbs := by have := HQ.out; omega
      by_cases hd0 : 0 < d
      · go_wp2
        exact ⟨⟨_, _, rfl, congrArg Value.string (cat_one _ _), by omega, by omega, hend _ (by simp), hb.alloc hb.size _⟩, hms⟩
      · go_wp2
        exact ⟨⟨_, _, rfl, congrArg Value.string (cat_one _ _), by omega, by omega, hend _ (by congr 1; omega), hb.alloc hb.size _⟩, hms⟩
    · subst hk
      have hne : ((0 : Int) != 0) = false := rfl
      by_cases hs : n < 0
      · go_wp2
        go_ret
        refine ⟨?_, hb⟩
        rw [cat_one, HI.done, Lib.itoa, if_pos hs]
        rfl
      · go_wp2
        go_ret
        refine ⟨?_, hb⟩
        rw [HI.done, Lib.itoa, if_neg (by omega), show n.natAbs = n.toNat by omega]
        rfl
    · have hne : (kk != 0) = true := by rw [bne_iff_ne]; omega
      have hnn : ¬ kk % 10 < 0 := by omega
      have hend : Left8 n (kk / 10) (UInt8.ofNat (48 + kk % 10).toNat :: l) := HI.next (by omega) _ _ (by omega) (by congr 1; omega) (fun h => by omega) (fun _ => hk)
      have hms : (kk / 10).natAbs < kk.natAbs := by omega
      go_wp2
      exact ⟨⟨_, _, rfl, congrArg Value.string (cat_one _ _), by omega, by omega, hend, hb.alloc hb.size _⟩, hms⟩

set_option maxHeartbeats 400000 in
theorem refPrint_zero (w : World) : Calls Tryd.prog 8 #[.int .i64 0] w fun e w' => e = .returned (.string ⟨(Lib.itoa 0).toArray⟩) ∧ Below w.heap.size w w' := by
  go_enter Tryd.func8, Tryd.ntmps8
  go_wp2
  go_ret
  refine ⟨?_, Below.refl _ _⟩
  rw [Lib.itoa, if_neg (by decide), show (0 : Int).toNat = 0 from rfl, dec_small (by decide)]
  rfl
theorem refPrint_all (n : Int) (w : World) (h0 : -9223372036854775808 ≤ n) (h1 : n ≤ 9223372036854775807) :
    Calls Tryd.prog 8 #[.int .i64 n] w fun e w' => e = .returned (.string ⟨(Lib.itoa n).toArray⟩) ∧ Below w.heap.size w w' := by
  by_cases hn : n = 0
  · subst hn; exact refPrint_zero w
  · exact refPrint_any n w h0 h1 (by simpa using hn)
end Go.Proofs.YtlkdjmjochappaaDoor
