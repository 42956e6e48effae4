/- What Join of layer 2 returns, for every list of words, each of at most 65536 bytes, at most 65536 of them. -/
import Derived.Test.YtkgibdmjkanimaaWalksB
import Derived.Test.YtkgibdmjkanimaaWalksR
import Derived.Test.YtkgibdmjkanimaaShelf
namespace Go.Proofs.Ytkgibdmjkanimaa
open Go.RowKit

theorem bytes_str (l : List UInt8) (s : ByteArray) : Lib.byteCells l ++ Lib.strCells s = Lib.byteCells (l ++ s.data.toList) := by
  rw [Lib.byteCells_append]; rfl

theorem join_bytes1 (a t : ByteArray) : Lib.byteCells (a ++ t).data.toList = Lib.byteCells a.data.toList ++ Lib.strCells t := by
  rw [bytes_str, ByteArray.data_append, Array.toList_append]
theorem join_bytes (a t : ByteArray) : Lib.byteCells (a ++ ⟨#[32]⟩ ++ t).data.toList = Lib.byteCells a.data.toList ++ [.int .u8 32] ++ Lib.strCells t := by
  rw [join_bytes1, join_bytes1]; rfl
theorem builder_alloc {B b : Nat} {bs : List Value} {w : World} (h : Lib.IsBuilder 42 5 B b bs w) (o : Obj) : Lib.IsBuilder 42 5 B b bs (w.alloc o) := by
  have one : ∀ {p : Value}, Lib.BuilderAt 42 5 B b p bs w → Lib.BuilderAt 42 5 B b p bs (w.alloc o) := by
    intro p k
    have hl := k.lt
    obtain ⟨hB, v, hb, hown, hne⟩ := k
    exact ⟨hB, v, (Lib.alloc_old w o b hl).trans hb, hown.alloc o, hne⟩
  rcases h with h | h
  · exact .inl (one h)
  · exact .inr (one h)
theorem kept_cell {b : Nat} {w w' : World} (h : Lib.OthersKept 5 (some b) w w') {k : Nat} {x y : Value} (hk : w.heap[k]? = some (.cells #[x, y] 32 (0, 0))) (hne : k ≠ b) : w'.cell? ⟨k, 0, none⟩ = some x := by
  have := h k _ hk (fun e => hne (Option.some.inj e)) (fun c fz e => by injection e with _ e2 _; exact absurd e2 (by decide))
  rw [Lib.cell_of_heap this]; rfl

set_option maxHeartbeats 1000000 in
theorem join_any (ts : List (ByteArray × Int)) (ao : Option Addr) (cap : Nat) (w : World) (hS : SlT w ao ts) (h1 : ∀ t ∈ ts, t.1.size ≤ 65536) (h2 : ts.length ≤ 65536) :
    Calls Try.prog 13 #[.slice ao ts.length cap] w fun e w' => e = .returned (.string ⟨(joinT ts).toArray⟩) ∧ Below w.heap.size w w' := by
  go_enter Try.func13, Try.ntmps13
  go_wp2
  go_loopw [8] (fun i wr => ∃ (k : Nat) (a : ByteArray), k ≤ ts.length ∧ i = .int .i64 k ∧ Hid (a = ⟨(joinT (ts.take k)).toArray⟩) ∧ Hid (Lib.IsBuilder 42 5 w.heap.size w.heap.size (Lib.byteCells a.data.toList) wr ∧ Below w.heap.size w wr)) (fun i _ => ts.length - (intOf i).toNat)
  case atStart => exact ⟨0, ⟨#[]⟩, Nat.zero_le _, rfl, hideS (by simp [joinT, joinL]), hideS ⟨Lib.fresh_isBuilder 42 5 w, (Below.refl _ w).alloc (Nat.le_refl _) _⟩⟩
  case round =>
    obtain ⟨k, a, hk, rfl, HA, HW⟩ := hrel
    have hbs := (unhideS HW).2.size
    by_cases hlt : k < ts.length
    · rcases hS with rfl | ⟨b, o, rfl, hb, hc⟩
      · simp at hlt
      · obtain ⟨c1, c2⟩ := hc k hlt
        have hsz := joinT_size ts h1 h2 k a (unhideS HA)
        obtain ⟨t, ht⟩ : ∃ t, t = ts.getD k (⟨#[]⟩, 0) := ⟨_, rfl⟩
        have hts : t.1.size ≤ 65536 := by rw [ht]; exact getD_size ts h1 k hlt
        rw [← ht] at c1 c2
        have HT := hideS ht
        have g1 : wr.cell? ⟨b, o + k * 2, none⟩ = some (.string t.1) := ((unhideS HW).2.cell (by exact hb)).trans c1
        have g2 : wr.cell? ⟨b, o + k * 2 + 1, none⟩ = some (.int .i64 t.2) := ((unhideS HW).2.cell (by exact hb)).trans c2
        clear ht hc c1 c2
        by_cases h0 : 0 < k
        · have HE := hideS (joinT_add ts k hlt h0 a t (unhideS HA) (unhideS HT))
          go_wp2_with fail
          refine (byte_any w.heap.size w.heap.size _ 32 _ (builder_alloc (unhideS HW).1 _) (by rw [Lib.byteCells_length, blen]; omega) (by simp; omega)).mono ?_
          rintro e w1 ⟨rfl, i1, b1, k1⟩
          have hc := kept_cell k1 (heap_alloc_new wr _) (by have := (unhideS HW).1; rcases this with q | q <;> (have := q.lt; omega))
          have hs1 := b1.size
          have HB := hideS b1
          have HI := hideS i1
          clear b1 i1 k1
          go_wp2_with fail
          refine (string_any w.heap.size w.heap.size _ t.1 _ (unhideS HI) (by rw [List.length_append, Lib.byteCells_length, blen]; simp; omega) (by simp at hs1; omega)).mono ?_
          rintro e w2 ⟨rfl, i2, b2, k2⟩
          have HF : Hid (Lib.IsBuilder 42 5 w.heap.size w.heap.size (Lib.byteCells (a ++ ⟨#[32]⟩ ++ t.1).data.toList) w2 ∧ Below w.heap.size w w2) := hideS ⟨by rw [join_bytes]; exact i2, ((unhideS HW).2.alloc hbs _).trans ((unhideS HB).trans b2)⟩
          clear i2 b2 k2
          go_wp2
          go_roundw
          case rel => exact ⟨k + 1, _, by omega, by go_num, HE, HF⟩
          case measure => simp [intOf]; omega
        · have HE := hideS (joinT_first ts k hlt (by omega) a t (unhideS HA) (unhideS HT))
          go_wp2_with fail
          refine (string_any w.heap.size w.heap.size _ t.1 _ (builder_alloc (unhideS HW).1 _) (by rw [Lib.byteCells_length, blen]; omega) (by simp; omega)).mono ?_
          rintro e w2 ⟨rfl, i2, b2, k2⟩
          have HF : Hid (Lib.IsBuilder 42 5 w.heap.size w.heap.size (Lib.byteCells (a ++ t.1).data.toList) w2 ∧ Below w.heap.size w w2) := hideS ⟨by rw [join_bytes1]; exact i2, ((unhideS HW).2.alloc hbs _).trans b2⟩
          clear i2 b2 k2
          go_wp2
          go_roundw
          case rel => exact ⟨k + 1, _, by omega, by go_num, HE, HF⟩
          case measure => simp [intOf]; omega
    · go_wp2_with fail
      refine (Try.Builder_String_any w.heap.size w.heap.size _ _ (unhideS HW).1 hbs).mono ?_
      rintro e w1 ⟨rfl, b1⟩
      go_wp2
      go_ret
      obtain rfl : k = ts.length := by omega
      exact ⟨ret_str (by rw [unhideS HA, List.take_length]), (unhideS HW).2.trans b1⟩
end Go.Proofs.Ytkgibdmjkanimaa
