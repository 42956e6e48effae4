/- What the statement TokenBack returns, for every text: true. -/
import Derived.Test.YtkgibdmjkanimaaWalksX
namespace Go.Proofs.Ytkgibdmjkanimaa
open Go.RowKit

set_option maxHeartbeats 400000 in
theorem back_long (s : ByteArray) (w : World) (hs : s.size ≤ maxLen) (hl : 2000 < s.size) :
    Calls Try.prog 5 #[.string s] w fun e w' => e = .returned (.bool true) ∧ Below w.heap.size w w' := by
  unfold maxLen at hs
  go_enter Try.func5, Try.ntmps5
  go_wp2_with fail
  refine (works_any _).mono ?_
  rintro e w1 ⟨rfl, b1⟩
  go_wp2_with fail
  go_ret
  exact ⟨rfl, b1⟩

set_option maxHeartbeats 400000 in
theorem back_no (s : ByteArray) (w : World) (hl : ¬ 2000 < s.size) {x : Nat} (h : words s = .inl x) :
    Calls Try.prog 5 #[.string s] w fun e w' => e = .returned (.bool true) ∧ Below w.heap.size w w' := by
  go_enter Try.func5, Try.ntmps5
  go_wp2_with fail
  refine (split_no s _ (by omega) h).mono ?_
  rintro e w1 ⟨rfl, b1⟩
  go_wp2_with fail
  refine (works_any _).mono ?_
  rintro e w2 ⟨rfl, b2⟩
  go_wp2_with fail
  go_ret
  exact ⟨rfl, below_two (below_new b1 _) b2⟩

theorem ext_list (s : ByteArray) (a e : Nat) : (s.extract a e).data.toList = cut s.data.toList (a, e) := by
  rw [ByteArray.data_extract, Array.toList_extract]; rfl
theorem toks_texts (s : ByteArray) (ws : List (Nat × Nat)) : (ws.map (tok s)).map (fun t => t.1.data.toList) = ws.map (cut s.data.toList) := by
  rw [List.map_map]
  apply List.map_congr_left
  intro x _
  exact ext_list s x.1 x.2
theorem toks_small (s : ByteArray) (ws : List (Nat × Nat)) (h : s.size ≤ 65536) : ∀ t ∈ ws.map (tok s), t.1.size ≤ 65536 := by
  intro t ht
  obtain ⟨x, _, rfl⟩ := List.mem_map.1 ht
  show (s.extract x.1 x.2).size ≤ _
  rw [ByteArray.size_extract]
  omega
/-- Of the words put together and split again: as many, each the same text. -/
theorem back_words {s : ByteArray} {ws : List (Nat × Nat)} (h : words s = .inr ws) (hs : s.size ≤ 2000) {t : ByteArray} (ht : t = ⟨(joinT (ws.map (tok s))).toArray⟩) :
    t.size ≤ 4000 ∧ ∃ ks, words t = .inr ks ∧ ks.length = ws.length ∧ joinT (ks.map (tok t)) = joinT (ws.map (tok s)) ∧ ∀ i, i < ws.length → ((ks.map (tok t)).getD i (⟨#[]⟩, 0)).1 = ((ws.map (tok s)).getD i (⟨#[]⟩, 0)).1 := by
  have e0 : t.data.toList = joinL (ws.map (cut s.data.toList)) := by rw [ht, ← toks_texts]; rfl
  obtain ⟨ks, hk, he⟩ := words_back h t e0
  have hlen : ks.length = ws.length := by have := congrArg List.length he; simpa using this
  have hj := join_len s.data.toList ws 0 s.size (words_ok h).1
  refine ⟨?_, ks, hk, hlen, ?_, fun i hi => ?_⟩
  · rw [← blen, e0]; omega
  · rw [joinT, joinT, toks_texts, toks_texts, he]
  · apply barr_eq
    have := congrArg (fun l => l[i]?) he
    simp only [← toks_texts, List.getElem?_map] at this
    have hi2 : i < ks.length := by omega
    simp only [List.getElem?_eq_getElem hi, List.getElem?_eq_getElem hi2, Option.map_some, Option.some.injEq] at this
    simp [hi, hi2, this]

/-- What a call of Split on a text returns: just these words. -/
def Gives (s : ByteArray) (ts : List (ByteArray × Int)) (n : Nat) : Prop := ∀ w, Calls Try.prog 8 #[.string s] w fun e w' => ∃ ao cap, e = .returned (.tuple #[.slice ao n cap, .agg #[.int .i64 0, .int .i64 0]]) ∧ n ≤ cap ∧ SlT w' ao ts ∧ Below w.heap.size w w'
/-- What a call of Join on these words returns: just this text. -/
def Joins (t : ByteArray) (ts : List (ByteArray × Int)) (n : Nat) : Prop := ∀ ao cap w, SlT w ao ts → Calls Try.prog 13 #[.slice ao n cap] w fun e w' => e = .returned (.string t) ∧ Below w.heap.size w w'
theorem gives_of {s : ByteArray} {ws : List (Nat × Nat)} (h : words s = .inr ws) (hs : s.size ≤ 65536) {n : Nat} (hn : ws.length = n) : Gives s (ws.map (tok s)) n := by
  intro w
  have hml : (ws.map (tok s)).length = n := by rw [List.length_map, hn]
  have := split_ok s w hs h
  rw [hml] at this
  exact this
theorem joins_of {t : ByteArray} {ts : List (ByteArray × Int)} {n : Nat} (hn : ts.length = n) (h1 : ∀ t ∈ ts, t.1.size ≤ 65536) (h2 : n ≤ 65536) (ht : t = ⟨(joinT ts).toArray⟩) : Joins t ts n := by
  intro ao cap w hS
  subst hn
  rw [ht]
  exact join_any ts ao cap w hS h1 h2

set_option maxHeartbeats 1000000 in
theorem back_walk (s t : ByteArray) (ts us : List (ByteArray × Int)) (n : Nat) (w : World) (hl : ¬ 2000 < s.size) (hn : n ≤ 2000) (ht1 : ts.length = n) (hu1 : us.length = n) (G1 : Hid (Gives s ts n)) (G2 : Hid (Gives t us n)) (J1 : Hid (Joins t ts n)) (J2 : Hid (Joins t us n))
    (HE : Hid (∀ i, i < n → (us.getD i (⟨#[]⟩, 0)).1 = (ts.getD i (⟨#[]⟩, 0)).1)) : Calls Try.prog 5 #[.string s] w fun e w' => e = .returned (.bool true) ∧ Below w.heap.size w w' := by
  have HT := hideS ht1
  have HU := hideS hu1
  clear ht1 hu1
  go_enter Try.func5, Try.ntmps5
  go_wp2_with fail
  refine (unhideS G1 _).mono ?_
  rintro e w1 ⟨ao, cap, rfl, hcap, hS, b1⟩
  have S1 := hideS (hS.below ((Below.refl _ w1).alloc (Nat.le_refl _) (Obj.cells #[Value.int IntKind.i64 0, Value.int IntKind.i64 0] 26)))
  have B1 := hideS (below_new b1 (Obj.cells #[Value.int IntKind.i64 0, Value.int IntKind.i64 0] 26))
  clear hS b1
  go_wp2_with fail
  refine (unhideS J1 ao cap _ (unhideS S1)).mono ?_
  rintro e w2 ⟨rfl, b2⟩
  have S2 := hideS ((unhideS S1).below b2)
  have B2 := hideS (below_two (unhideS B1) b2)
  clear b2 S1 B1
  go_wp2_with fail
  refine (unhideS G2 _).mono ?_
  rintro e w3 ⟨ao2, cap2, rfl, hcap2, hS3, b3⟩
  have K3 := hideS (hS3.below ((Below.refl _ w3).alloc (Nat.le_refl _) (Obj.cells #[Value.int IntKind.i64 0, Value.int IntKind.i64 0] 26)))
  have B3 := hideS (below_two (unhideS B2) (below_new b3 (Obj.cells #[Value.int IntKind.i64 0, Value.int IntKind.i64 0] 26)))
  have S3 := hideS ((unhideS S2).below (below_new b3 (Obj.cells #[Value.int IntKind.i64 0, Value.int IntKind.i64 0] 26)))
  clear hS3 b3 S2 B2
  go_wp2_with fail
  refine (unhideS J2 ao2 cap2 _ (unhideS K3)).mono ?_
  rintro e w4 ⟨rfl, b4⟩
  have K4 := hideS ((unhideS K3).below b4)
  have S4 := hideS ((unhideS S3).below b4)
  have B4 := hideS (below_two (unhideS B3) b4)
  clear b4 K3 S3 B3
  go_wp2_with fail
  go_loopw [8] (fun i wr => ∃ k : Nat, k ≤ n ∧ i = .int .i64 k ∧ Hid (Below w4.heap.size w4 wr)) (fun i _ => n - (intOf i).toNat)
  case atStart => exact ⟨0, Nat.zero_le _, rfl, hideS (Below.refl _ _)⟩
  case round =>
    obtain ⟨k, hk, rfl, HW⟩ := hrel
    by_cases hlt : k < n
    · have hs5 := (unhideS S4).below (unhideS HW)
      have hk5 := (unhideS K4).below (unhideS HW)
      rcases hs5 with e5 | ⟨b, o, rfl, hb, hc⟩
      · have := unhideS HT; rw [e5, List.length_nil] at this; omega
      · rcases hk5 with e6 | ⟨b2, o2, rfl, hb2, hc2⟩
        · have := unhideS HU; rw [e6, List.length_nil] at this; omega
        · obtain ⟨c1, _⟩ := hc k (by rw [unhideS HT]; exact hlt)
          obtain ⟨c2, _⟩ := hc2 k (by rw [unhideS HU]; exact hlt)
          rw [unhideS HE k hlt] at c2
          generalize (ts.getD k (⟨#[]⟩, 0)).1 = x at c1 c2
          clear hc hc2
          go_wp2_with fail
          go_quiet (fail)
          go_wp2_with fail
          go_roundw
          case rel => exact ⟨k + 1, by omega, by go_num, hideS (below_drew (unhideS HW) nq)⟩
          case measure => simp [intOf]; omega
    · go_wp2_with fail
      refine (works_any _).mono ?_
      rintro e w6 ⟨rfl, b6⟩
      go_wp2_with fail
      go_ret
      exact ⟨rfl, below_two (below_two (unhideS B4) (unhideS HW)) b6⟩

theorem back_ok (s : ByteArray) (w : World) (hl : ¬ 2000 < s.size) {ws : List (Nat × Nat)} (h : words s = .inr ws) :
    Calls Try.prog 5 #[.string s] w fun e w' => e = .returned (.bool true) ∧ Below w.heap.size w w' := by
  obtain ⟨t, ht⟩ : ∃ t : ByteArray, t = ⟨(joinT (ws.map (tok s))).toArray⟩ := ⟨_, rfl⟩
  obtain ⟨hts, ks, hk, hkl, hkj, hke⟩ := back_words h (by omega) ht
  have hlen := (join_len s.data.toList ws 0 s.size (words_ok h).1).2
  exact back_walk s t (ws.map (tok s)) (ks.map (tok t)) ws.length w hl (by omega) (List.length_map _) (by rw [List.length_map, hkl]) (gives_of h (by omega) rfl) (gives_of hk (by omega) hkl)
    (joins_of (List.length_map _) (toks_small s ws (by omega)) (by omega) ht) (joins_of (by rw [List.length_map, hkl]) (toks_small t ks (by omega)) (by omega) (by rw [hkj]; exact ht)) hke
theorem back_any (s : ByteArray) (w : World) (hs : s.size ≤ maxLen) :
    Calls Try.prog 5 #[.string s] w fun e w' => e = .returned (.bool true) ∧ Below w.heap.size w w' := by
  by_cases hl : 2000 < s.size
  · exact back_long s w hs hl
  · cases h : words s with
    | inl x => exact back_no s w hl h
    | inr ws => exact back_ok s w hl h
end Go.Proofs.Ytkgibdmjkanimaa
