/- What the statement TokenNames returns, for every text and every list of words: true. -/
import Derived.Test.YtkgibdmjkanimaaWalksW
namespace Go.Proofs.Ytkgibdmjkanimaa
open Go.RowKit

set_option maxHeartbeats 400000 in
theorem names_long (s : ByteArray) (ao : Option Addr) (n cap : Nat) (w : World) (hs : s.size ≤ maxLen) (hn : n ≤ maxLen) (hl : 500 < s.size ∨ 100 < n) :
    Calls Try.prog 4 #[.string s, .slice ao n cap] w fun e w' => e = .returned (.bool true) ∧ Below w.heap.size w w' := by
  unfold maxLen at hs hn
  by_cases h1 : 500 < s.size
  · clear hl
    go_enter Try.func4, Try.ntmps4
    go_wp2_with fail
    refine (works_any _).mono ?_
    rintro e w1 ⟨rfl, b1⟩
    go_wp2_with fail
    go_ret
    exact ⟨rfl, b1⟩
  · have h2 : 100 < n := by omega
    clear hl
    go_enter Try.func4, Try.ntmps4
    go_wp2_with fail
    refine (works_any _).mono ?_
    rintro e w1 ⟨rfl, b1⟩
    go_wp2_with fail
    go_ret
    exact ⟨rfl, b1⟩

set_option maxHeartbeats 1000000 in
theorem names_fit (s : ByteArray) (ts : List (ByteArray × Int)) (ao : Option Addr) (cap : Nat) (w : World) (hs : ¬ 500 < s.size) (hn : ¬ 100 < ts.length) (hS : SlT w ao ts) (hm : ∀ t ∈ ts, t.1.size ≤ maxLen) :
    Calls Try.prog 4 #[.string s, .slice ao ts.length cap] w fun e w' => e = .returned (.bool true) ∧ Below w.heap.size w w' := by
  have HS := hideS hS
  have HM := hideS hm
  clear hS hm
  go_enter Try.func4, Try.ntmps4
  go_wp2_with fail
  go_loop [5] (fun i => ∃ k : Nat, k ≤ ts.length ∧ i = .int .i64 k ∧ Hid (∀ j, j < k → (ts.getD j (⟨#[]⟩, 0)).1.size ≤ 100)) (fun i => ts.length - (intOf i).toNat)
  case atStart => exact ⟨0, Nat.zero_le _, rfl, hideS (fun j h => absurd h (by omega))⟩
  case round =>
    obtain ⟨k, hk, rfl, HK⟩ := hrel
    by_cases hlt : k < ts.length
    · rcases unhideS HS with hS3 | ⟨b, o, rfl, hb, hc⟩
      · rw [hS3] at hlt; simp at hlt
      · obtain ⟨c1, _⟩ := hc k hlt
        obtain ⟨x, hx⟩ : ∃ x, x = (ts.getD k (⟨#[]⟩, 0)).1 := ⟨_, rfl⟩
        rw [← hx] at c1
        have HX := hideS hx
        have hxm : x.size ≤ 9223372036854775807 := by
          have e : ts.getD k (⟨#[]⟩, 0) = ts[k] := by simp [hlt]
          have := unhideS HM _ (List.getElem_mem hlt)
          rw [← e, ← hx] at this
          unfold maxLen at this; omega
        clear hx hc
        by_cases h1 : 100 < x.size
        · go_wp2_with fail
          refine (works_any _).mono ?_
          rintro e w1 ⟨rfl, b1⟩
          go_wp2_with fail
          go_ret
          exact ⟨rfl, b1⟩
        · go_wp2_with fail
          go_round
          case rel => exact ⟨k + 1, by omega, by go_num, hideS (fun j hj => by
            by_cases e : j = k
            · subst e; rw [← unhideS HX]; omega
            · exact unhideS HK j (by omega))⟩
          case measure => simp [intOf]; omega
    · obtain rfl : k = ts.length := by omega
      have h1 : Hid (∀ t ∈ ts, t.1.size ≤ 65536) := hideS (fun t ht => by
        obtain ⟨j, hj, rfl⟩ := List.getElem_of_mem ht
        have := unhideS HK j hj
        simp only [List.getD_eq_getElem?_getD, List.getElem?_eq_getElem hj, Option.getD_some] at this
        omega)
      clear hk
      go_wp2_with fail
      refine (name_any s _ (by unfold maxLen; omega)).mono ?_
      rintro e w1 ⟨rfl, b1⟩
      go_wp2_with fail
      refine (rname_any s _ (by unfold maxLen; omega)).mono ?_
      rintro e w2 ⟨rfl, rfl⟩
      generalize nameB s.data.toList = nb
      have S1 := hideS ((unhideS HS).below b1)
      go_wp2_with fail
      refine (join_any ts ao cap _ (unhideS S1) (unhideS h1) (by omega)).mono ?_
      rintro e w3 ⟨rfl, b3⟩
      go_wp2_with fail
      refine (rjoin_any ts ao cap _ ((unhideS S1).below b3) (unhideS h1) (by omega)).mono ?_
      rintro e w4 ⟨rfl, rfl⟩
      generalize (⟨(joinT ts).toArray⟩ : ByteArray) = tj
      go_wp2_with fail
      refine (works_any _).mono ?_
      rintro e w5 ⟨rfl, b5⟩
      go_wp2_with fail
      go_ret
      exact ⟨rfl, below_two (below_two b1 b3) b5⟩
end Go.Proofs.Ytkgibdmjkanimaa
