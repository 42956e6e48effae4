/- What the statement ParseJoins returns, for every input: true. -/
import Derived.Test.YtkkkgennkhdfhaaDoorJn
import Derived.Test.YtkkkgennkhdfhaaDoorSmC
import Derived.Laws.AppendOwnNone
namespace Go.Proofs.YtkkkgennkhdfhaaDoor
open Go Go.RowKit
open G (Tok Er Ins Fun shI shF)

theorem FRow.append {B : Nat} {w : World} : ∀ (l m : List Fun) (cs ds : List Value), FRow B w l cs → FRow B w m ds → FRow B w (l ++ m) (cs ++ ds) := by
  intro l
  induction l with
  | nil => intro m cs ds h k; cases h; exact k
  | cons x r ih =>
    rintro m cs ds ⟨vp, vb, rest, rfl, h1, h2, h3⟩ k
    exact ⟨vp, vb, rest ++ ds, by simp, h1, h2, ih m rest ds h3 k⟩
theorem FRow.one {B : Nat} {w : World} : ∀ (l : List Fun) (cs : List Value), FRow B w l cs → ∀ u ∈ cs, u.oneCell' = true := by
  intro l
  induction l with
  | nil => intro cs h u hu; cases h; cases hu
  | cons x r ih =>
    rintro cs ⟨vp, vb, rest, rfl, h1, h2, h3⟩ u hu
    rcases List.mem_append.1 hu with hu | hu
    · obtain ⟨ao, cp, rfl⟩ := own_len h1
      obtain ⟨bo, cb, rfl⟩ := h2.len
      simp only [funCells, List.mem_cons, List.not_mem_nil, or_false] at hu
      rcases hu with rfl | rfl | rfl | rfl | rfl <;> rfl
    · exact ih rest h3 u hu
/-- What an append of a program's functions reads. -/
theorem ProgVal.news {B : Nat} {xs : List Fun} {ao : Option Addr} {n cap : Nat} {w : World} (h : ProgVal B xs (.slice ao n cap) w) : (ao = none ∧ n = 0 ∧ cap = 0 ∧ xs = []) ∨ ∃ g cs, ao = some ⟨g, 0, none⟩ ∧ n = xs.length ∧ cs.length = xs.length * 5 ∧ (∀ j u, cs[j]? = some u → w.cell? ((⟨g, 0, none⟩ : Addr).add j) = some u) ∧ (∀ u ∈ cs, u.oneCell' = true) ∧ FRow B w xs cs := by
  obtain ⟨cs, h1, h2⟩ := h
  rcases own_view h1 with ⟨hv, hn⟩ | ⟨g, cap', hv, a1, a2, a3, a4, a5, a6⟩
  · injection hv with e1 e2 e3
    exact .inl ⟨e1, e2, e3, List.length_eq_zero_iff.1 hn⟩
  · have hv0 := hv
    injection hv with e1 e2 e3
    exact .inr ⟨g, cs, e1, e2, h1.1, h1.cells (by rw [hv0]; rfl), FRow.one _ _ h2, h2⟩
theorem ProgVal.base {B C : Nat} {xs : List Fun} {v : Value} {w : World} (h : ProgVal B xs v w) (hB : C ≤ B) : ProgVal C xs v w := by
  obtain ⟨cs, h1, h2⟩ := h
  exact ⟨cs, own_base h1 hB, FRow.stay (stay_base hB) _ _ h2⟩
theorem like_join (xs ys : List Fun) (d : Int) (i : Nat) (y : Fun) (h : (xs ++ ys)[i]? = some y) : ∃ d', (xs ++ ys.map (shF d))[i]? = some (shF d' y) := by
  by_cases hi : i < xs.length
  · rw [List.getElem?_append_left hi] at h
    exact ⟨0, by rw [List.getElem?_append_left hi, h, shF_zero]⟩
  · rw [List.getElem?_append_right (by omega)] at h
    exact ⟨d, by rw [List.getElem?_append_right (by omega)]; exact map_at h⟩

theorem joins_long (s t : ByteArray) (w : World) (hs : 1500 < s.size) (ht : Tabs w) (hw : 2 ≤ w.heap.size) : Calls Tryd.prog 5 #[.string s, .string t] w fun e w' => e = .returned (.bool true) ∧ Below w.heap.size w w' := by
  have T0 := hide ht
  clear ht
  go_enter Tryd.func5, Tryd.ntmps5
  go_wp2_with fail
  refine (works_any _ T0.out hw).mono ?_; rintro e w1 ⟨rfl, b1⟩
  go_wp2_with fail
  go_ret
  exact ⟨rfl, b1⟩
theorem joins_long2 (s t : ByteArray) (w : World) (hs : ¬ 1500 < s.size) (hs2 : 1500 < t.size) (ht : Tabs w) (hw : 2 ≤ w.heap.size) : Calls Tryd.prog 5 #[.string s, .string t] w fun e w' => e = .returned (.bool true) ∧ Below w.heap.size w w' := by
  have T0 := hide ht
  clear ht
  go_enter Tryd.func5, Tryd.ntmps5
  go_wp2_with fail
  refine (works_any _ T0.out hw).mono ?_; rintro e w1 ⟨rfl, b1⟩
  go_wp2_with fail
  go_ret
  exact ⟨rfl, b1⟩
theorem joins_bad (s t : ByteArray) (er : Er) (hx1 : textG s = .error er) (w : World) (hs : ¬ 1500 < s.size) (hs2 : ¬ 1500 < t.size) (ht : Tabs w) (hw : 2 ≤ w.heap.size) : Calls Tryd.prog 5 #[.string s, .string t] w fun e w' => e = .returned (.bool true) ∧ Below w.heap.size w w' := by
  have T0 := hide ht
  clear ht
  obtain ⟨c, p⟩ := er
  replace hx1 := hide hx1
  have e1 : c ≠ 0 := (text_err hx1.out).1
  have e4 : (c == 0) = false := by simpa using e1
  have e5 : (c != 0) = true := by simpa using e1
  go_enter Tryd.func5, Tryd.ntmps5
  go_wp2_with fail
  refine (text_any s _ (by omega) T0.out (by omega)).mono ?_; rintro e w1 ⟨b1, ⟨zs, v, hy, _⟩ | ⟨er, hy, rfl⟩⟩
  · rw [hx1.out] at hy; cases hy
  rw [hx1.out] at hy; cases hy
  obtain ⟨b2, c1, d1⟩ := boxes_ok w1 (.slice none 0 0) (.int .i64 c) (.int .i64 p)
  have h2 : w1.heap.size + 1 < (boxes w1 (.slice none 0 0) (.int .i64 c) (.int .i64 p)).heap.size := (Array.getElem?_eq_some_iff.1 d1).1
  have hw1 := b1.size
  replace b2 := below_step b1 b2
  have T2 := hide (T0.out.below b2)
  have q0 := hide d1
  clear c1 d1
  go_upto_region 4 with fail
  show Code.wp _ _ _ _ (boxes w1 (.slice none 0 0) (.int .i64 c) (.int .i64 p))
  generalize boxes w1 (.slice none 0 0) (.int .i64 c) (.int .i64 p) = W2 at *
  go_wp2_with fail
  refine (text_any t _ (by omega) T2.out (by omega)).mono ?_; rintro e w3 ⟨b3, hres⟩
  obtain ⟨v, c', p', rfl, ao, n, cap, rfl⟩ : ∃ (v : Value) (c' p' : Int), e = .returned (.tuple #[.agg #[v], .agg #[.int .i64 c', .int .i64 p']]) ∧ ∃ (ao : Option Addr) (n cap : Nat), v = .slice ao n cap := by
    rcases hres with ⟨zs, v, _, rfl, hV⟩ | ⟨er, _, rfl⟩
    · obtain ⟨ao, cap, rfl⟩ := hV.len
      exact ⟨_, 0, 0, rfl, ao, _, cap, rfl⟩
    · exact ⟨_, er.1, er.2, rfl, none, 0, 0, rfl⟩
  obtain ⟨b4, c2, d2⟩ := boxes_ok w3 (.slice ao n cap) (.int .i64 c') (.int .i64 p')
  have h4 : w3.heap.size + 1 < (boxes w3 (.slice ao n cap) (.int .i64 c') (.int .i64 p')).heap.size := (Array.getElem?_eq_some_iff.1 d2).1
  have hw3 := b3.size
  replace b4 := below_step b3 b4
  have T4 := hide (T2.out.below b4)
  have B4 := hide (below_step b2 b4)
  have y0 : (boxes w3 (.slice ao n cap) (.int .i64 c') (.int .i64 p')).cell? ⟨w1.heap.size + 1, 0, none⟩ = some (.int .i64 c) := by
    have := (b4.block (w1.heap.size + 1) (by omega)).trans q0.out
    simp [World.cell?, this]
  clear c2 d2 b4 b3 b2 b1 hres
  go_upto_region 5 with fail
  show Code.wp _ _ _ _ (boxes w3 (.slice ao n cap) (.int .i64 c') (.int .i64 p'))
  generalize boxes w3 (.slice ao n cap) (.int .i64 c') (.int .i64 p') = W4 at *
  go_wp2_with fail
  refine (works_any _ T4.out (by omega)).mono ?_; rintro e w5 ⟨rfl, b5⟩
  go_wp2_with fail
  go_ret
  exact ⟨rfl, below_step B4.out b5⟩
theorem joins_bad2 (s t : ByteArray) (xs : List Fun) (er : Er) (hx1 : textG s = .ok xs) (hx2 : textG t = .error er) (w : World) (hs : ¬ 1500 < s.size) (hs2 : ¬ 1500 < t.size) (ht : Tabs w) (hw : 2 ≤ w.heap.size) : Calls Tryd.prog 5 #[.string s, .string t] w fun e w' => e = .returned (.bool true) ∧ Below w.heap.size w w' := by
  have T0 := hide ht
  clear ht
  obtain ⟨c, p⟩ := er
  replace hx1 := hide hx1
  replace hx2 := hide hx2
  have e1 : c ≠ 0 := (text_err hx2.out).1
  have e4 : (c == 0) = false := by simpa using e1
  have e5 : (c != 0) = true := by simpa using e1
  go_enter Tryd.func5, Tryd.ntmps5
  go_wp2_with fail
  refine (text_any s _ (by omega) T0.out (by omega)).mono ?_; rintro e w1 ⟨b1, ⟨zs, v, hy, rfl, hV⟩ | ⟨er, hy, _⟩⟩
  rotate_left
  · rw [hx1.out] at hy; cases hy
  rw [hx1.out] at hy; cases hy
  obtain ⟨ao1, cap1, rfl⟩ := hV.len
  obtain ⟨b2, c1, d1⟩ := boxes_ok w1 (.slice ao1 xs.length cap1) (.int .i64 0) (.int .i64 0)
  have V1 := hide (hV.below b2)
  have h2 : w1.heap.size + 1 < (boxes w1 (.slice ao1 xs.length cap1) (.int .i64 0) (.int .i64 0)).heap.size := (Array.getElem?_eq_some_iff.1 d1).1
  have hw1 := b1.size
  replace b2 := below_step b1 b2
  have T2 := hide (T0.out.below b2)
  have q0 := hide d1
  clear c1 d1
  go_upto_region 4 with fail
  show Code.wp _ _ _ _ (boxes w1 (.slice ao1 xs.length cap1) (.int .i64 0) (.int .i64 0))
  generalize boxes w1 (.slice ao1 xs.length cap1) (.int .i64 0) (.int .i64 0) = W2 at *
  go_wp2_with fail
  refine (text_any t _ (by omega) T2.out (by omega)).mono ?_; rintro e w3 ⟨b3, ⟨zs, v, hy, _⟩ | ⟨er, hy, rfl⟩⟩
  · rw [hx2.out] at hy; cases hy
  rw [hx2.out] at hy; cases hy
  obtain ⟨b4, c2, d2⟩ := boxes_ok w3 (.slice none 0 0) (.int .i64 c) (.int .i64 p)
  have h4 : w3.heap.size + 1 < (boxes w3 (.slice none 0 0) (.int .i64 c) (.int .i64 p)).heap.size := (Array.getElem?_eq_some_iff.1 d2).1
  have hw3 := b3.size
  replace b4 := below_step b3 b4
  have T4 := hide (T2.out.below b4)
  have B4 := hide (below_step b2 b4)
  have y0 : (boxes w3 (.slice none 0 0) (.int .i64 c) (.int .i64 p)).cell? ⟨w1.heap.size + 1, 0, none⟩ = some (.int .i64 0) := by
    have := (b4.block (w1.heap.size + 1) (by omega)).trans q0.out
    simp [World.cell?, this]
  have y1 : (boxes w3 (.slice none 0 0) (.int .i64 c) (.int .i64 p)).cell? ⟨w3.heap.size + 1, 0, none⟩ = some (.int .i64 c) := by simp [World.cell?, d2]
  clear c2 d2 b4 b3 b2 b1 hV
  go_upto_region 5 with fail
  show Code.wp _ _ _ _ (boxes w3 (.slice none 0 0) (.int .i64 c) (.int .i64 p))
  generalize boxes w3 (.slice none 0 0) (.int .i64 c) (.int .i64 p) = W4 at *
  go_wp2_with fail
  refine (works_any _ T4.out (by omega)).mono ?_; rintro e w5 ⟨rfl, b5⟩
  go_wp2_with fail
  go_ret
  exact ⟨rfl, below_step B4.out b5⟩
theorem joins_many (s t : ByteArray) (xs ys : List Fun) (hx1 : textG s = .ok xs) (hx2 : textG t = .ok ys) (hm : 32 < xs.length + ys.length) (w : World) (hs : ¬ 1500 < s.size) (hs2 : ¬ 1500 < t.size) (ht : Tabs w) (hw : 2 ≤ w.heap.size) : Calls Tryd.prog 5 #[.string s, .string t] w fun e w' => e = .returned (.bool true) ∧ Below w.heap.size w w' := by
  have T0 := hide ht
  clear ht
  replace hx1 := hide hx1
  replace hx2 := hide hx2
  have m1 := (text_fine hx1.out).1
  have m2 := (text_fine hx2.out).1
  go_enter Tryd.func5, Tryd.ntmps5
  go_wp2_with fail
  refine (text_any s _ (by omega) T0.out (by omega)).mono ?_; rintro e w1 ⟨b1, ⟨zs, v, hy, rfl, hV⟩ | ⟨er, hy, _⟩⟩
  rotate_left
  · rw [hx1.out] at hy; cases hy
  rw [hx1.out] at hy; cases hy
  obtain ⟨ao1, cap1, rfl⟩ := hV.len
  obtain ⟨b2, c1, d1⟩ := boxes_ok w1 (.slice ao1 xs.length cap1) (.int .i64 0) (.int .i64 0)
  have V1 := hide (hV.below b2)
  have h2 : w1.heap.size + 1 < (boxes w1 (.slice ao1 xs.length cap1) (.int .i64 0) (.int .i64 0)).heap.size := (Array.getElem?_eq_some_iff.1 d1).1
  have hw1 := b1.size
  replace b2 := below_step b1 b2
  have T2 := hide (T0.out.below b2)
  have q0 := hide d1
  have q1 := hide c1
  clear c1 d1 hV
  go_upto_region 4 with fail
  show Code.wp _ _ _ _ (boxes w1 (.slice ao1 xs.length cap1) (.int .i64 0) (.int .i64 0))
  generalize boxes w1 (.slice ao1 xs.length cap1) (.int .i64 0) (.int .i64 0) = W2 at *
  go_wp2_with fail
  refine (text_any t _ (by omega) T2.out (by omega)).mono ?_; rintro e w3 ⟨b3, ⟨zs, v, hy, rfl, hV⟩ | ⟨er, hy, _⟩⟩
  rotate_left
  · rw [hx2.out] at hy; cases hy
  rw [hx2.out] at hy; cases hy
  obtain ⟨ao2, cap2, rfl⟩ := hV.len
  obtain ⟨b4, c2, d2⟩ := boxes_ok w3 (.slice ao2 ys.length cap2) (.int .i64 0) (.int .i64 0)
  have V2 := hide (hV.below b4)
  have h4 : w3.heap.size + 1 < (boxes w3 (.slice ao2 ys.length cap2) (.int .i64 0) (.int .i64 0)).heap.size := (Array.getElem?_eq_some_iff.1 d2).1
  have hw3 := b3.size
  replace b4 := below_step b3 b4
  have T4 := hide (T2.out.below b4)
  have B4 := hide (below_step b2 b4)
  have U1 := hide (V1.out.below b4)
  have r0 := hide ((b4.block (w1.heap.size + 1) (by omega)).trans q0.out)
  have r1 := hide ((b4.block w1.heap.size (by omega)).trans q1.out)
  have r2 := hide c2
  have r3 := hide d2
  clear c2 d2 b4 b3 b2 b1 hV q0 q1 V1
  go_upto_region 5 with fail
  show Code.wp _ _ _ _ (boxes w3 (.slice ao2 ys.length cap2) (.int .i64 0) (.int .i64 0))
  generalize boxes w3 (.slice ao2 ys.length cap2) (.int .i64 0) (.int .i64 0) = W4 at *
  have y0 : W4.cell? ⟨w1.heap.size + 1, 0, none⟩ = some (.int .i64 0) := by simp [World.cell?, r0.out]
  have y1 : W4.cell? ⟨w3.heap.size + 1, 0, none⟩ = some (.int .i64 0) := by simp [World.cell?, r3.out]
  have y2 : W4.cell? ⟨w1.heap.size, 0, none⟩ = some (.slice ao1 xs.length cap1) := by simp [World.cell?, r1.out]
  have y3 : W4.cell? ⟨w3.heap.size, 0, none⟩ = some (.slice ao2 ys.length cap2) := by simp [World.cell?, r2.out]
  go_wp2_with fail
  refine (works_any _ T4.out (by omega)).mono ?_; rintro e w5 ⟨rfl, b5⟩
  go_wp2_with fail
  go_ret
  exact ⟨rfl, below_step B4.out b5⟩
end Go.Proofs.YtkkkgennkhdfhaaDoor
