/- What the document's own Join returns, for every list of words, each of at most 65536 bytes, at most 65536 of them. -/
import Derived.Test.YtkgibdmjkanimaaWalksS
namespace Go.Proofs.Ytkgibdmjkanimaa
open Go.RowKit

/-- A slice of words: its cells hold each one's text and where it begins. -/
def SlT (w : World) (ao : Option Addr) (ts : List (ByteArray × Int)) : Prop :=
  ts = [] ∨ ∃ b o, ao = some ⟨b, o, none⟩ ∧ b < w.heap.size ∧ ∀ i, i < ts.length → w.cell? ⟨b, o + i * 2, none⟩ = some (.string (ts.getD i (⟨#[]⟩, 0)).1) ∧ w.cell? ⟨b, o + i * 2 + 1, none⟩ = some (.int .i64 (ts.getD i (⟨#[]⟩, 0)).2)
/-- Words put together. -/
def joinT (ts : List (ByteArray × Int)) : List UInt8 := joinL (ts.map fun t => t.1.data.toList)
theorem joinT_len (ts : List (ByteArray × Int)) (h : ∀ t ∈ ts, t.1.size ≤ 65536) : (joinT ts).length ≤ ts.length * 65537 := by
  have tail : ∀ r : List (ByteArray × Int), (∀ t ∈ r, t.1.size ≤ 65536) → ((r.map fun t => t.1.data.toList).flatMap fun y => 32 :: y).length ≤ r.length * 65537 := by
    intro r
    induction r with
    | nil => intro _; simp
    | cons t r ih =>
      intro h
      have h1 := h t (by simp)
      have h2 := ih (fun x hx => h x (by simp [hx]))
      simp only [List.map_cons, List.flatMap_cons, List.length_append, List.length_cons, blen]
      omega
  cases ts with
  | nil => simp [joinT, joinL]
  | cons t r =>
    have h1 := h t (by simp)
    have h2 := tail r (fun x hx => h x (by simp [hx]))
    simp only [joinT, List.map_cons, joinL, List.length_append, List.length_cons, blen]
    omega
theorem take_snocT (ts : List (ByteArray × Int)) (k : Nat) (h : k < ts.length) : ts.take (k + 1) = ts.take k ++ [ts.getD k (⟨#[]⟩, 0)] := by
  rw [List.take_succ_eq_append_getElem h]; simp [h]
theorem joinT_zero (ts : List (ByteArray × Int)) (h : 0 < ts.length) : joinT (ts.take 1) = (ts.getD 0 (⟨#[]⟩, 0)).1.data.toList := by
  rw [show (1 : Nat) = 0 + 1 from rfl, take_snocT ts 0 h]; simp [joinT, joinL]
theorem joinT_succ (ts : List (ByteArray × Int)) (k : Nat) (h : k < ts.length) (h0 : 0 < k) : joinT (ts.take (k + 1)) = joinT (ts.take k) ++ 32 :: (ts.getD k (⟨#[]⟩, 0)).1.data.toList := by
  rw [take_snocT ts k h, joinT, List.map_append, List.map_singleton, joinL_snoc _ _ ?_]
  · rfl
  · intro e
    have := congrArg List.length e
    rw [List.length_map, List.length_take, List.length_nil] at this
    omega
theorem ret_str {a b : ByteArray} (h : a = b) : Ending.returned (.string a) = .returned (.string b) := by rw [h]

theorem joinT_size (ts : List (ByteArray × Int)) (h1 : ∀ t ∈ ts, t.1.size ≤ 65536) (h2 : ts.length ≤ 65536) (k : Nat) (a : ByteArray) (ha : a = ⟨(joinT (ts.take k)).toArray⟩) : a.size ≤ 4295032832 := by
  have := joinT_len (ts.take k) (fun t ht => h1 t (List.mem_of_mem_take ht))
  subst ha
  show (joinT (ts.take k)).toArray.size ≤ _
  rw [List.length_take] at this
  rw [List.size_toArray]
  omega
theorem getD_size (ts : List (ByteArray × Int)) (h1 : ∀ t ∈ ts, t.1.size ≤ 65536) (k : Nat) (h : k < ts.length) : (ts.getD k (⟨#[]⟩, 0)).1.size ≤ 65536 := by
  have : ts.getD k (⟨#[]⟩, 0) = ts[k] := by simp [h]
  rw [this]; exact h1 _ (List.getElem_mem h)
theorem barr_eq {a b : ByteArray} (h : a.data.toList = b.data.toList) : a = b := by
  cases a with | mk x => cases b with | mk y => congr 1; exact Array.toList_inj.1 h
theorem joinT_add (ts : List (ByteArray × Int)) (k : Nat) (h : k < ts.length) (h0 : 0 < k) (a : ByteArray) (t : ByteArray × Int) (ha : a = ⟨(joinT (ts.take k)).toArray⟩) (ht : t = ts.getD k (⟨#[]⟩, 0)) : a ++ ⟨#[32]⟩ ++ t.1 = ⟨(joinT (ts.take (k + 1))).toArray⟩ := by
  rw [joinT_succ ts k h h0, ha, ht]
  apply barr_eq
  simp [ByteArray.data_append]
theorem joinT_first (ts : List (ByteArray × Int)) (k : Nat) (h : k < ts.length) (h0 : k = 0) (a : ByteArray) (t : ByteArray × Int) (ha : a = ⟨(joinT (ts.take k)).toArray⟩) (ht : t = ts.getD k (⟨#[]⟩, 0)) : a ++ t.1 = ⟨(joinT (ts.take (k + 1))).toArray⟩ := by
  subst h0
  rw [joinT_zero ts h, ha, ht]
  apply barr_eq
  simp [ByteArray.data_append, joinT, joinL]

set_option maxHeartbeats 1000000 in
theorem rjoin_any (ts : List (ByteArray × Int)) (ao : Option Addr) (cap : Nat) (w : World) (hS : SlT w ao ts) (h1 : ∀ t ∈ ts, t.1.size ≤ 65536) (h2 : ts.length ≤ 65536) :
    Calls Try.prog 14 #[.slice ao ts.length cap] w fun e w' => e = .returned (.string ⟨(joinT ts).toArray⟩) ∧ w' = w := by
  go_enter Try.func14, Try.ntmps14
  go_wp2
  go_loop [3, 4] (fun v i => ∃ (k : Nat) (a : ByteArray), k ≤ ts.length ∧ i = .int .i64 k ∧ v = .string a ∧ Hid (a = ⟨(joinT (ts.take k)).toArray⟩)) (fun _ i => ts.length - (intOf i).toNat)
  case atStart => exact ⟨0, ⟨#[]⟩, Nat.zero_le _, rfl, rfl, hideS (by simp [joinT, joinL])⟩
  case round =>
    obtain ⟨k, a, hk, rfl, rfl, HA⟩ := hrel
    by_cases hlt : k < ts.length
    · rcases hS with rfl | ⟨b, o, rfl, hb, hc⟩
      · simp at hlt
      · obtain ⟨c1, c2⟩ := hc k hlt
        have hsz := joinT_size ts h1 h2 k a (unhideS HA)
        obtain ⟨t, ht⟩ : ∃ t, t = ts.getD k (⟨#[]⟩, 0) := ⟨_, rfl⟩
        have hts : t.1.size ≤ 65536 := by rw [ht]; exact getD_size ts h1 k hlt
        rw [← ht] at c1 c2
        have HT := hideS ht
        clear ht hc
        by_cases h0 : 0 < k
        · have HE := hideS (joinT_add ts k hlt h0 a t (unhideS HA) (unhideS HT))
          go_wp2
          go_round
          case rel => exact ⟨k + 1, _, by omega, by go_num, rfl, HE⟩
          case measure => simp [intOf]; omega
        · have HE := hideS (joinT_first ts k hlt (by omega) a t (unhideS HA) (unhideS HT))
          go_wp2
          go_round
          case rel => exact ⟨k + 1, _, by omega, by go_num, rfl, HE⟩
          case measure => simp [intOf]; omega
    · go_wp2
      go_ret
      obtain rfl : k = ts.length := by omega
      exact ⟨ret_str (by rw [unhideS HA, List.take_length]), rfl⟩
end Go.Proofs.Ytkgibdmjkanimaa
