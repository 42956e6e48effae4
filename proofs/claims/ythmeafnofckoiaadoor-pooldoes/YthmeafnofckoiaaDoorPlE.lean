/- Layer 12, the reference over memory: what is reached. -/
import Derived.Test.YthmeafnofckoiaaDoorPlD
import Derived.Laws.AppendOwnNone
namespace Go.Proofs.YthmeafnofckoiaaDoor
open Go Go.RowKit
open Layertwelve (Ob trapF objN loadF storeF slotF wordsF shapeF makeF firstF slotsF goF reachF)

theorem Tryd.info3 : (Tryd.prog.info? 3).map (fun i => (i.zero, i.size, i.bytes)) = some (some (.int .i64 0), 1, 8) := by kernel_rfl
abbrev ints12 (l : List Int) : List Value := l.map (Value.int .i64)
theorem own12_len {w : World} {b e s n : Nat} {v : Value} {xs : List Value} (h : w.ownsRow b e s v n xs) : ∃ (ao : Option Addr) (cap : Nat), v = .slice ao n cap := by
  rcases h.2 with ⟨hv, hn⟩ | ⟨g, cap, cur, hv, _⟩
  · exact ⟨none, 0, by rw [hv, hn]⟩
  · exact ⟨_, _, hv⟩
theorem one12_cell {w1 : World} {a : Value} {t : TypeId} : ∀ j u, [a][j]? = some u → (w1.alloc (.cells #[a] t)).cell? ((⟨w1.heap.size, 0, none⟩ : Addr).add j) = some u := by
  intro j u hj
  match j, hj with
  | 0, hj => simp at hj; subst hj; simp [Addr.add]
theorem one12_one {a : Int} : ∀ u ∈ [Value.int .i64 a], u.oneCell' = true := by
  intro u hu
  simp only [List.mem_singleton] at hu
  subst hu; rfl
/-- Numbers in memory as a value. -/
def IntsR (w : World) (l : List Int) (ao : Option Addr) : Prop := l = [] ∨ ∃ b o, ao = some ⟨b, o, none⟩ ∧ b < w.heap.size ∧ ∀ i n, l[i]? = some n → w.cell? ⟨b, o + i, none⟩ = some (.int .i64 n)
theorem ints_row {w : World} {B n : Nat} {l : List Int} {ao : Option Addr} {c : Nat} (h : w.ownsRow B 3 1 (.slice ao n c) l.length (ints12 l)) : IntsR w l ao := by
  rcases h.2 with ⟨hv, hn⟩ | ⟨g, cap, cur, hv, hb, hg, _⟩
  · exact .inl (List.length_eq_zero_iff.1 hn)
  · right
    cases hv
    refine ⟨g, 0, rfl, (Array.getElem?_eq_some_iff.1 hg).1, fun i n hi => ?_⟩
    have := h.cells (g := g) rfl i (.int .i64 n) (by simp [hi])
    rw [Addr.add_lit] at this
    simpa using this
set_option maxHeartbeats 1000000 in
set_option maxRecDepth 20000 in
theorem rhas_any (l : List Int) (x : Int) (ao : Option Addr) (c : Nat) (w : World) (h : IntsR w l ao) (hl : l.length ≤ 1000000) :
    Calls Tryd.prog 33 #[.slice ao l.length c, .int .i64 x] w fun e w' => e = .returned (.bool (decide (x ∈ l))) ∧ w' = w := by
  have HA : Hid (∀ i, i < l.length → ∃ b o, ao = some ⟨b, o, none⟩ ∧ w.cell? ⟨b, o + i, none⟩ = some (.int .i64 (l.getD i 0))) := hide (fun i hi => by
    rcases h with h | ⟨b, o, e, _, h⟩
    · subst h; simp at hi
    · exact ⟨b, o, e, h i _ (by rw [List.getD_eq_getElem?_getD, List.getElem?_eq_getElem hi]; rfl)⟩)
  have HM : Hid (x ∈ l ↔ ∃ i, i < l.length ∧ l.getD i 0 = x) := hide (by
    rw [List.mem_iff_getElem?]
    constructor
    · rintro ⟨i, hi⟩
      have := (List.getElem?_eq_some_iff.1 hi).1
      exact ⟨i, this, by rw [List.getD_eq_getElem?_getD, hi]; rfl⟩
    · rintro ⟨i, h1, h2⟩
      exact ⟨i, by rw [← h2, List.getD_eq_getElem?_getD, List.getElem?_eq_getElem h1]; rfl⟩)
  clear h
  obtain ⟨r, hr⟩ : ∃ r, decide (x ∈ l) = r := ⟨_, rfl⟩
  have HR := hide hr
  rw [hr]
  clear hr
  obtain ⟨ln, hln⟩ : ∃ n, n = l.length := ⟨_, rfl⟩
  rw [← hln] at HA HM hl ⊢
  clear hln
  go_enter Tryd.func33, Tryd.ntmps33
  go_wp2_with fail
  go_loopw [5] (fun iv wr => ∃ i : Nat, i ≤ ln ∧ iv = .int .i64 i ∧ Hid (∀ j, j < i → l.getD j 0 ≠ x) ∧ wr = w) (fun iv _ => ln - (intOf iv).toNat)
  case atStart => exact ⟨0, Nat.zero_le _, rfl, hide (fun j h => absurd h (Nat.not_lt_zero _)), rfl⟩
  case round =>
    obtain ⟨i, hi, rfl, HF, rfl⟩ := hrel
    by_cases hit : i < ln
    · have hiI : (i : Int) < ln := by omega
      obtain ⟨b, o, rfl, d⟩ := HA.out i hit
      by_cases he : l.getD i 0 = x
      · have HT : Hid (true = r) := hide (by rw [← HR.out]; exact (decide_eq_true (HM.out.2 ⟨i, hit, he⟩)).symm)
        have k : (l.getD i 0 == x) = true := by simpa using he
        clear he
        generalize l.getD i 0 = y at *
        go_wp2_with fail
        go_ret
        exact ⟨congrArg (fun z => Ending.returned (.bool z)) HT.out, rfl⟩
      · have HF2 : Hid (∀ j, j < i + 1 → l.getD j 0 ≠ x) := hide (fun j hj => by
          by_cases e : j = i
          · rw [e]; exact he
          · exact HF.out j (by omega))
        have k : (l.getD i 0 == x) = false := by simpa using he
        clear he
        generalize l.getD i 0 = y at *
        go_wp2_with fail
        go_roundw
        case rel => exact ⟨i + 1, by omega, by go_num, HF2, by simp⟩
        case measure => simp [intOf]; omega
    · obtain rfl : i = ln := by omega
      have HT : Hid (false = r) := hide (by
        rw [← HR.out]
        refine (decide_eq_false fun h => ?_).symm
        obtain ⟨j, j1, j2⟩ := HM.out.1 h
        exact HF.out j j1 j2)
      go_wp2_with fail
      go_ret
      exact ⟨congrArg (fun z => Ending.returned (.bool z)) HT.out, rfl⟩
end Go.Proofs.YthmeafnofckoiaaDoor
