/- What the methods copyCheck, WriteByte and WriteString of a strings.Builder that the call itself has made do: its bytes, then these; every block but its own and rows of bytes stands. Where the bytes together are at most 2^47. -/
import Derived.Test.YtkgibdmjkanimaaWalksS
namespace Go.Proofs.Ytkgibdmjkanimaa
open Go.RowKit

theorem size42 : (Try.prog.info? 42).map (fun i => i.size) = some 2 := by kernel_rfl
theorem lies42 : liesAt Try.prog Try.prog.depth 42 (2 / Try.prog.cellsOf 42) 0 42 1 = true := by kernel_rfl
theorem Try.info5 : (Try.prog.info? 5).map (fun i => (i.zero, i.size, i.bytes)) = some (some (.int .u8 0), 1, 1) := by kernel_rfl

set_option maxHeartbeats 400000 in
theorem check_used (b : Nat) (w : World) (h0 : w.cell? ⟨b, 0, none⟩ = some (.pointer (some ⟨b, 0, none⟩))) :
    Calls Try.prog 27 #[.pointer (some ⟨b, 0, none⟩)] w fun e w' => e = .returned (.tuple #[]) ∧ w' = w := by
  obtain ⟨j, hj, _⟩ := Option.map_eq_some_iff.1 size42
  have hne := fun w => Lib.run_neq_ptr_same (P := Try.prog) w ⟨b, 0, none⟩ Try.underlying39 hj
  go_enter Try.func27, Try.ntmps27
  go_wp2
  go_end0
  exact ⟨rfl, rfl⟩

set_option maxHeartbeats 400000 in
theorem check_fresh (b : Nat) (w : World) (h0 : w.cell? ⟨b, 0, none⟩ = some (.pointer none)) (hsh : w.shape? b = some (42, 2)) (hfz : w.frozen? ⟨b, 0, none⟩ = false) :
    Calls Try.prog 27 #[.pointer (some ⟨b, 0, none⟩)] w fun e w' => e = .returned (.tuple #[]) ∧ w' = w.setCell ⟨b, 0, none⟩ (.pointer (some ⟨b, 0, none⟩)) := by
  obtain ⟨j, hj, hjs⟩ := Option.map_eq_some_iff.1 size42
  have hto := Lib.run_to_unsafe (P := Try.prog) w ⟨b, 0, none⟩ Try.underlying39 Try.underlying50 hj (by rw [hjs]; decide) hsh (Nat.zero_lt_succ 1)
  have hfrom := Lib.run_from_unsafe (P := Try.prog) w ⟨b, 0, none⟩ Try.underlying50 Try.underlying39 hj hsh lies42
  go_enter Try.func27, Try.ntmps27
  go_wp2
  rw [run_callFunc_extern Try.func28 (by kernel_rfl) (by kernel_rfl) (by kernel_rfl) (e := Extern.AbiNoEscape.same) (by kernel_rfl), Lib.run_noEscape]
  simp only [Result.andThen]
  rw [Oper.upon_value]
  go_wp2
  go_end0
  exact ⟨rfl, rfl⟩

theorem check_any (B b : Nat) (bs : List Value) (w : World) (h : Lib.IsBuilder 42 5 B b bs w) :
    Calls Try.prog 27 #[.pointer (some ⟨b, 0, none⟩)] w fun e w' => e = .returned (.tuple #[]) ∧ Lib.BuilderAt 42 5 B b (.pointer (some ⟨b, 0, none⟩)) bs w' ∧ Below B w w' ∧ Lib.OthersKept 5 (some b) w w' := by
  rcases h with h | h
  · refine (check_fresh b w h.cell0 h.shape h.frozen0).mono ?_
    rintro e w' ⟨rfl, rfl⟩
    exact ⟨rfl, h.used _, (Below.refl B w).setCell (p := ⟨b, 0, none⟩) h.1 _, (Lib.OthersKept.refl _ _ w).setCell ⟨b, 0, none⟩ rfl _⟩
  · refine (check_used b w h.cell0).mono ?_
    rintro e w' ⟨rfl, rfl⟩
    exact ⟨rfl, h, Below.refl B _, Lib.OthersKept.refl _ _ _⟩
/-- What the builder's block tells a walk. -/
theorem built_cells {B b : Nat} {p : Value} {bs : List Value} {w : World} (h : Lib.BuilderAt 42 5 B b p bs w) : ∃ v, w.heap[b]? = some (.cells #[p, v] 42 (0, 0)) ∧ w.cell? ⟨b, 0, none⟩ = some p ∧ w.cell? ⟨b, 1, none⟩ = some v ∧ w.frozen? ⟨b, 1, none⟩ = false ∧ w.ownsRow B 5 1 v bs.length bs ∧ v.ownBlock ≠ some b ∧ b < w.heap.size ∧ B ≤ b := by
  have hl := h.lt
  obtain ⟨hB, v, hb, hown, hne⟩ := h
  exact ⟨v, hb, by rw [Lib.cell_of_heap hb]; rfl, by rw [Lib.cell_of_heap hb]; rfl, Lib.frozen_of_heap hb 1, hown, hne, hl, hB⟩
theorem row_kind {w : World} {B : Nat} {v : Value} {n : Nat} {xs : List Value} (h : w.ownsRow B 5 1 v n xs) : ∀ g, v.ownBlock = some g → ∃ c fz, w.heap[g]? = some (.cells c 5 fz) := Lib.ownsRowF_kind (World.ownsRowF_of h)
theorem own_shape {w : World} {B : Nat} {v : Value} {n : Nat} {xs : List Value} (h : w.ownsRow B 5 1 v n xs) : ∃ ao nn cc, v = .slice ao nn cc := by
  rcases h.2 with ⟨rfl, _⟩ | ⟨g, cap, cur, rfl, _⟩
  · exact ⟨_, _, _, rfl⟩
  · exact ⟨_, _, _, rfl⟩
/-- The builder behind an append: its block, and what it holds then. -/
theorem built_put {B b : Nat} {p v v' : Value} {bs bs' : List Value} {w1 wa w2 : World} (hb : wa.heap[b]? = some (.cells #[p, v] 42 (0, 0))) (hne : v.ownBlock ≠ some b) (hB : B ≤ b) (hown : wa.ownsRow B 5 1 v bs.length bs) (hbw : Below B w1 wa) (hk : Lib.OthersKept 5 (some b) w1 wa) (hBw : B ≤ wa.heap.size)
    (hown' : w2.ownsRow B 5 1 v' bs'.length bs') (hg : wa.grownBy w2 v.ownBlock) : w2.cell? ⟨b, 0, none⟩ = some p ∧ w2.cell? ⟨b, 1, none⟩ = some v ∧ w2.frozen? ⟨b, 1, none⟩ = false ∧
      Hid (Lib.BuilderAt 42 5 B b p bs' (w2.setCell ⟨b, 1, none⟩ v') ∧ Below B w1 (w2.setCell ⟨b, 1, none⟩ v') ∧ Lib.OthersKept 5 (some b) w1 (w2.setCell ⟨b, 1, none⟩ v')) := by
  have hl := (Array.getElem?_eq_some_iff.1 hb).1
  have hb2 : w2.heap[b]? = some (.cells #[p, v] 42 (0, 0)) := (hg.block b hl (fun e => hne e.symm)).trans hb
  exact ⟨by rw [Lib.cell_of_heap hb2]; rfl, by rw [Lib.cell_of_heap hb2]; rfl, Lib.frozen_of_heap hb2 1, hideS ⟨Lib.BuilderAt.put hB hb2 hown' (by decide), (hbw.grown hg hBw (fun k hk => (hown.lt k hk).1)).setCell (p := ⟨b, 1, none⟩) hB _, (hk.grown hg (row_kind hown)).setCell ⟨b, 1, none⟩ rfl _⟩⟩

set_option maxHeartbeats 1000000 in
theorem byte_any (B b : Nat) (bs : List Value) (c : Int) (w : World) (h : Lib.IsBuilder 42 5 B b bs w) (hlen : bs.length + 1 ≤ 140737488355328) (hBw : B ≤ w.heap.size) :
    Calls Try.prog 24 #[.pointer (some ⟨b, 0, none⟩), .int .u8 c] w fun e w' => e = .returned .nilIface ∧ Lib.IsBuilder 42 5 B b (bs ++ [.int .u8 c]) w' ∧ Below B w w' ∧ Lib.OthersKept 5 (some b) w w' := by
  obtain ⟨i0, hi, hz0, hz1, hz2⟩ := info_parts Try.info5
  go_enter Try.func24, Try.ntmps24
  go_wp2_with fail
  refine (check_any B b bs _ h).mono ?_
  rintro e w1 ⟨rfl, h1, b1, k1⟩
  obtain ⟨v, hb, c0, c1, f1, hown, hne, hl, hB⟩ := built_cells h1
  have hs1 := b1.size
  have HO := hideS hown
  clear hown h1
  go_wp2_with (at_builtin; refine wpList_append_own _ rfl (.tmp 11) (.tmp 13) 40 rfl B 5 i0 (.int .u8 0) 1 1 Try.underlying40 hi hz0 hz1 hz2 rfl (by decide) _ _ _ rfl ((unhideS HO).alloc _) ⟨w1.heap.size, 0, none⟩ 1 1 [.int .u8 c] rfl rfl (fun j u hj => by match j, hj with | 0, hj => simp at hj; subst hj; simp [Addr.add]) (fun u hu => by simp at hu; subst hu; rfl) (by unfold maxLen; omega) (by omega) (by simp; omega) ?_; intro v2 w2 own2 grow2 _; obtain ⟨ao, nn, cc, rfl⟩ := own_shape own2; obtain ⟨d0, d1, d2, HD⟩ := built_put (bs' := bs ++ [.int .u8 c]) ((Lib.alloc_old w1 _ b hl).trans hb) hne hB ((unhideS HO).alloc _) (b1.alloc (by omega) _) (k1.alloc _) (by simp; omega) (by simpa using own2) grow2; clear own2 grow2)
  go_ret
  exact ⟨rfl, .inr (unhideS HD).1, (unhideS HD).2⟩

set_option maxHeartbeats 1000000 in
theorem string_any (B b : Nat) (bs : List Value) (s : ByteArray) (w : World) (h : Lib.IsBuilder 42 5 B b bs w) (hlen : bs.length + s.size ≤ 140737488355328) (hBw : B ≤ w.heap.size) :
    Calls Try.prog 25 #[.pointer (some ⟨b, 0, none⟩), .string s] w fun e w' => e = .returned (.tuple #[.int .i64 s.size, .nilIface]) ∧ Lib.IsBuilder 42 5 B b (bs ++ Lib.strCells s) w' ∧ Below B w w' ∧ Lib.OthersKept 5 (some b) w w' := by
  obtain ⟨i0, hi, hz0, hz1, hz2⟩ := info_parts Try.info5
  go_enter Try.func25, Try.ntmps25
  go_wp2_with fail
  refine (check_any B b bs _ h).mono ?_
  rintro e w1 ⟨rfl, h1, b1, k1⟩
  obtain ⟨v, hb, c0, c1, f1, hown, hne, hl, hB⟩ := built_cells h1
  have hs1 := b1.size
  have HO := hideS hown
  clear hown h1
  go_wp2_with (at_builtin; refine Lib.wpList_append_own_string _ rfl (.tmp 12) (.tmp 13) 40 9 rfl B 5 i0 Try.underlying40 Try.underlying9 hi hz0 hz1 hz2 _ _ _ rfl (unhideS HO) s rfl (by unfold maxLen; omega) (by omega) (by omega) ?_; intro v2 w2 own2 grow2 _; obtain ⟨ao, nn, cc, rfl⟩ := own_shape own2; obtain ⟨d0, d1, d2, HD⟩ := built_put (bs' := bs ++ Lib.strCells s) hb hne hB (unhideS HO) b1 k1 (by omega) (by simpa [Lib.strCells_length] using own2) grow2; clear own2 grow2)
  go_ret2
  exact ⟨rfl, .inr (unhideS HD).1, (unhideS HD).2⟩
end Go.Proofs.Ytkgibdmjkanimaa
