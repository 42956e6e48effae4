/- What the functions fewest and distance of layer 1 return, for every text and every bound from 100 to 2 to the 63rd; the world is as it was. -/
import Derived.Test.YtlkdjmjochappaaDoorWalksA
namespace Go.Proofs.YtlkdjmjochappaaDoor
open Go.RowKit
theorem hide {p : Prop} (h : p) : Hid p := h
theorem unhide {p : Prop} (h : Hid p) : p := h
theorem toNat_eq_iff (c : UInt8) (k : Nat) (hk : k < 256) : c.toNat = k ↔ c = UInt8.ofNat k := by
  constructor
  · intro h; apply UInt8.toNat_inj.1; rw [h]; simp [UInt8.toNat_ofNat']; omega
  · rintro rfl; simp [UInt8.toNat_ofNat']; omega
theorem head_at (s : ByteArray) (h : 0 < s.size) : s.data.toList.head? = some s[0] := by
  rw [List.head?_eq_getElem?, List.getElem?_eq_getElem (by simpa using h)]; rfl
theorem size_len (s : ByteArray) : s.data.toList.length = s.size := by simp
theorem empty_true (s : ByteArray) (h : s.size = 0) : s.toList.isEmpty = true ∧ s.data.toList = [] := by
  have : s.data.toList = [] := List.length_eq_zero_iff.1 (by rw [size_len]; exact h)
  exact ⟨by rw [ByteArray.toList_eq, this]; rfl, this⟩
theorem empty_false (s : ByteArray) (h : 0 < s.size) : s.toList.isEmpty = false ∧ s.data.toList.isEmpty = false := by
  have : s.data.toList.isEmpty = false := by
    cases e : s.data.toList with
    | nil => have := size_len s; rw [e] at this; simp at this; omega
    | cons => rfl
  exact ⟨by rw [ByteArray.toList_eq, this], this⟩
def fewB (l : List UInt8) (b : Bool) : Bool := !l.isEmpty && (l.head? != some 48 || (l.length == 1 && !b))
theorem fewB_at (s : ByteArray) (b : Bool) (h : 0 < s.size) : fewB s.data.toList b = (s[0] != 48 || (s.size == 1 && !b)) := by
  unfold fewB
  rw [(empty_false s h).2, head_at s h, size_len]
  simp [bne]
set_option maxHeartbeats 400000 in
theorem few_any (s : ByteArray) (b : Bool) (w : World) (hmax : s.size ≤ maxLen) :
    Calls Tryd.prog 17 #[.string s, .bool b] w fun e w' => e = .returned (.bool (fewB s.data.toList b)) ∧ w' = w := by
  unfold maxLen at hmax
  by_cases hp : s.size = 0
  · have he := (empty_true s hp).1
    go_enter Tryd.func17, Tryd.ntmps17
    go_wp2
    go_ret
    exact ⟨by rw [(empty_true s hp).2]; rfl, rfl⟩
  · have hp : 0 < s.size := by omega
    have he := (empty_false s hp).1
    have HF : Hid (fewB s.data.toList b = _) := fewB_at s b hp
    by_cases hc : (s[0].toNat : Int) = 48
    · have HC : Hid (s[0] = 48) := (toNat_eq_iff s[0] 48 (by decide)).1 (by omega)
      go_enter Tryd.func17, Tryd.ntmps17
      go_wp2
      all_goals
        go_ret
        refine ⟨?_, rfl⟩
        rw [HF.out, HC.out]
      · have : s.size = 1 := by omega
        simp [this]
      · have : s.size ≠ 1 := by omega
        simp [this]
    · have HC : Hid (s[0] ≠ 48) := fun h => hc (by rw [h]; rfl)
      go_enter Tryd.func17, Tryd.ntmps17
      go_wp2
      go_ret
      refine ⟨?_, rfl⟩
      rw [HF.out]
      simp [HC.out]
/-- What digits without a sign are, if it is not beyond m: the number and the code. -/
def distR (m : Int) (l : List UInt8) : Int × Int := if l.all isDig = true then (if (worth l : Int) ≤ m then ((worth l : Int), 0) else (0, 18)) else (0, 3)
/-- What holds at each round. -/
def Dist (m : Int) (t : List UInt8) (n : Int) (b : Bool) : Prop := t.all isDig = true ∧ (b = false → n = (worth t : Int)) ∧ (b = true → m < (worth t : Int))
theorem take_one_more (s : ByteArray) (k : Nat) (h : k < s.size) : s.data.toList.take (k + 1) = s.data.toList.take k ++ [s[k]] := by
  rw [List.take_succ_eq_append_getElem (by simpa using h)]; rfl
theorem take_all (s : ByteArray) (k : Nat) (h : ¬ k < s.size) : s.data.toList.take k = s.data.toList := List.take_of_length_le (by rw [size_len]; omega)
theorem Dist.next {m : Int} {s : ByteArray} {k : Nat} {n : Int} {b : Bool} (h : Dist m (s.data.toList.take k) n b) (hk : k < s.size) (h1 : 48 ≤ (s[k].toNat : Int)) (h2 : (s[k].toNat : Int) ≤ 57) (n' : Int) (b' : Bool)
    (hf : b' = false → b = false ∧ n' = n * 10 + ((s[k].toNat : Int) - 48)) (ht : b' = true → b = true ∧ 0 ≤ m ∨ b = false ∧ m < n * 10 + ((s[k].toNat : Int) - 48)) : Dist m (s.data.toList.take (k + 1)) n' b' := by
  rw [take_one_more s k hk]
  have hd : isDig s[k] = true := (isDig_iff _).2 (by omega)
  refine ⟨by rw [List.all_append, h.1]; simp [hd], fun e => ?_, fun e => ?_⟩
  · obtain ⟨e1, e2⟩ := hf e
    rw [worth_snoc, e2, h.2.1 e1]
    omega
  · rw [worth_snoc]
    rcases ht e with ⟨e1, e2⟩ | ⟨e1, e2⟩
    · have := h.2.2 e1
      omega
    · rw [h.2.1 e1] at e2
      omega
theorem ret_two {k : IntKind} {j : IntKind} {a b c d : Int} (h : a = b) (h' : c = d) : Ending.returned (.tuple #[.int k a, .int j c]) = .returned (.tuple #[.int k b, .int j d]) := by rw [h, h']
theorem distR_bad {m : Int} (s : ByteArray) (k : Nat) (hk : k < s.size) (hd : ¬ (48 ≤ (s[k].toNat : Int) ∧ (s[k].toNat : Int) ≤ 57)) : distR m s.data.toList = (0, 3) := by
  unfold distR
  rw [if_neg]
  intro h
  have := (isDig_iff _).1 (List.all_eq_true.1 h s[k] (by
    have : s.data.toList[k]? = some s[k] := by rw [List.getElem?_eq_getElem (by simpa using hk)]; rfl
    exact List.mem_of_getElem? this))
  omega
set_option maxHeartbeats 400000 in
theorem dist_any (s : ByteArray) (m : Int) (w : World) (hmax : s.size ≤ maxLen) (hm0 : 100 ≤ m) (hm1 : m ≤ 9223372036854775808) :
    Calls Tryd.prog 18 #[.string s, .int .u64 m] w fun e w' => e = .returned (.tuple #[.int .u64 (distR m s.data.toList).1, .int .i64 (distR m s.data.toList).2]) ∧ w' = w := by
  unfold maxLen at hmax
  go_enter Tryd.func18, Tryd.ntmps18
  go_wp2
  go_step3
  go_wp2
  go_step3
  go_wp2
  go_loop [6, 7, 12] (fun n b i => ∃ (k : Nat) (nn : Int) (bb : Bool), k ≤ s.size ∧ i = .int .i64 k ∧ n = .int .u64 nn ∧ b = .bool bb ∧ 0 ≤ nn ∧ nn ≤ m ∧ Dist m (s.data.toList.take k) nn bb) (fun _ _ i => s.size - (intOf i).toNat)
  case atStart => exact ⟨0, 0, false, Nat.zero_le _, rfl, rfl, rfl, by omega, by omega, by simp [Dist, worth]⟩
  case round =>
    obtain ⟨k, nn, bb, hk, rfl, rfl, rfl, hn0, hn1, HI⟩ := hrel
    by_cases hlt : k < s.size
    · have hbyte := s[k].toNat_lt
      have hms : s.size - (k + 1) < s.size - k := by omega
      by_cases hd : 48 ≤ (s[k].toNat : Int) ∧ (s[k].toNat : Int) ≤ 57
      · obtain ⟨hd1, hd2⟩ := hd
        have HN := fun n' b' => HI.next (n' := n') (b' := b') hlt hd1 hd2
        have HNh := hide HN
        clear HN
        cases bb
        · go_wp2
          · exact ⟨⟨k + 1, nn, true, by omega, by go_num, rfl, rfl, hn0, hn1, (unhide HNh) _ _ (fun h => by cases h) (fun _ => .inr ⟨rfl, by omega⟩)⟩, by simp [intOf]; omega⟩
          · exact ⟨⟨k + 1, _, false, by omega, by go_num, rfl, rfl, by omega, by omega, (unhide HNh) _ _ (fun _ => ⟨rfl, rfl⟩) (fun h => by cases h)⟩, by simp [intOf]; omega⟩
        · go_wp2
          exact ⟨⟨k + 1, nn, true, by omega, by go_num, rfl, rfl, hn0, hn1, (unhide HNh) _ _ (fun h => by cases h) (fun _ => .inl ⟨rfl, by omega⟩)⟩, by simp [intOf]; omega⟩
      · have HB := hide (distR_bad (m := m) s k hlt hd)
        go_wp2
        go_ret2
        refine ⟨?_, rfl⟩
        rw [unhide HB]
        rfl
    · rw [take_all s k hlt] at HI
      cases bb
      · go_wp2
        go_ret2
        refine ⟨ret_two ?_ ?_, rfl⟩
        all_goals
          unfold distR
          rw [if_pos HI.1, if_pos (by rw [← HI.2.1 rfl]; exact hn1)]
        exact HI.2.1 rfl
      · go_wp2
        go_ret2
        refine ⟨ret_two ?_ ?_, rfl⟩
        all_goals
          unfold distR
          rw [if_pos HI.1, if_neg (by have := HI.2.2 rfl; omega)]
end Go.Proofs.YtlkdjmjochappaaDoor
