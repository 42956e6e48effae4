/- What Split returns, said by the words alone; what the statements' own example (works) returns: true. -/
import Derived.Test.YtkgibdmjkanimaaWalksT
import Derived.Test.YtkgibdmjkanimaaWalksJ
import Derived.Test.YtkgibdmjkanimaaWalksN
namespace Go.Proofs.Ytkgibdmjkanimaa
open Go.RowKit

theorem cellsT_length (ts : List (ByteArray × Int)) : (cellsT ts).length = ts.length * 2 := by
  induction ts with
  | nil => rfl
  | cons t r ih => simp only [cellsT, List.length_cons, ih]; omega
theorem cellsT_at (ts : List (ByteArray × Int)) : ∀ i, i < ts.length → (cellsT ts)[i * 2]? = some (.string (ts.getD i (⟨#[]⟩, 0)).1) ∧ (cellsT ts)[i * 2 + 1]? = some (.int .i64 (ts.getD i (⟨#[]⟩, 0)).2) := by
  induction ts with
  | nil => intro i h; simp at h
  | cons t r ih =>
    intro i h
    cases i with
    | zero => exact ⟨rfl, rfl⟩
    | succ j =>
      obtain ⟨a, b⟩ := ih j (by simpa using h)
      have e1 : (j + 1) * 2 = j * 2 + 1 + 1 := by omega
      rw [e1]
      simp only [cellsT, List.getElem?_cons_succ, List.getD_cons_succ]
      exact ⟨a, b⟩
/-- What an owned row of words tells a walk. -/
theorem sl_of_own {w : World} {B : Nat} {v : Value} {ts : List (ByteArray × Int)} (h : w.ownsRow B 32 2 v ts.length (cellsT ts)) : ∃ ao cap, v = .slice ao ts.length cap ∧ ts.length ≤ cap ∧ SlT w ao ts := by
  rcases h.2 with ⟨rfl, h0⟩ | ⟨g, cap, cur, rfl, hb, hg, hc, _⟩
  · have : ts = [] := List.length_eq_zero_iff.1 h0
    subst this
    exact ⟨none, 0, rfl, Nat.le_refl _, .inl rfl⟩
  · refine ⟨some ⟨g, 0, none⟩, cap, rfl, hc, .inr ⟨g, 0, rfl, (Array.getElem?_eq_some_iff.1 hg).1, fun i hi => ?_⟩⟩
    obtain ⟨a, b⟩ := cellsT_at ts i hi
    have ha := h.cells (g := g) rfl _ _ a
    have hb := h.cells (g := g) rfl _ _ b
    rw [Addr.add_lit] at ha hb
    exact ⟨ha, by rw [Nat.add_assoc]; exact hb⟩
theorem SlT.below {w w' : World} {ao : Option Addr} {ts : List (ByteArray × Int)} (h : SlT w ao ts) (hb : Below w.heap.size w w') : SlT w' ao ts := by
  rcases h with h | ⟨b, o, e, hl, hc⟩
  · exact .inl h
  · refine .inr ⟨b, o, e, Nat.lt_of_lt_of_le hl hb.size, fun i hi => ?_⟩
    obtain ⟨c1, c2⟩ := hc i hi
    exact ⟨(hb.cell (p := ⟨b, _, none⟩) hl).trans c1, (hb.cell (p := ⟨b, _, none⟩) hl).trans c2⟩
theorem split_ok (s : ByteArray) (w : World) (hs : s.size ≤ 65536) {ws : List (Nat × Nat)} (h : words s = .inr ws) :
    Calls Try.prog 8 #[.string s] w fun e w' => ∃ ao cap, e = .returned (.tuple #[.slice ao (ws.map (tok s)).length cap, .agg #[.int .i64 0, .int .i64 0]]) ∧ (ws.map (tok s)).length ≤ cap ∧ SlT w' ao (ws.map (tok s)) ∧ Below w.heap.size w w' := by
  refine (split_try s w hs).mono ?_
  rintro e w' ⟨hb, ⟨x, hx, _⟩ | ⟨v, ks, hk, rfl, hown⟩⟩
  · rw [h] at hx; cases hx
  · obtain rfl : ws = ks := Sum.inr.inj (h.symm.trans hk)
    obtain ⟨ao, cap, rfl, hc, hS⟩ := sl_of_own (ts := ws.map (tok s)) (by rw [List.length_map]; exact hown)
    exact ⟨ao, cap, rfl, hc, hS, hb⟩
theorem split_no (s : ByteArray) (w : World) (hs : s.size ≤ 65536) {x : Nat} (h : words s = .inl x) :
    Calls Try.prog 8 #[.string s] w fun e w' => e = .returned (.tuple #[.slice none 0 0, .agg #[.int .i64 1, .int .i64 x]]) ∧ Below w.heap.size w w' := by
  refine (split_try s w hs).mono ?_
  rintro e w' ⟨hb, ⟨y, hy, rfl⟩ | ⟨v, ks, hk, _⟩⟩
  · obtain rfl : x = y := Sum.inl.inj (h.symm.trans hy)
    exact ⟨rfl, hb⟩
  · rw [h] at hk; cases hk
def exS : ByteArray := ⟨#[37, 49, 32, 61, 32, 97, 100, 100, 46, 105, 40, 120, 41, 32, 35, 32, 121, 10, 32, 122, 58]⟩
def exT : List (ByteArray × Int) := [(⟨#[37, 49]⟩, 0), (⟨#[61]⟩, 3), (⟨#[97, 100, 100, 46, 105]⟩, 5), (⟨#[40]⟩, 10), (⟨#[120]⟩, 11), (⟨#[41]⟩, 12), (⟨#[122]⟩, 19), (⟨#[58]⟩, 20)]
theorem ex_words : words exS = .inr [(0, 2), (3, 4), (5, 10), (10, 11), (11, 12), (12, 13), (19, 20), (20, 21)] := by decide
theorem ex_toks : [(0, 2), (3, 4), (5, 10), (10, 11), (11, 12), (12, 13), (19, 20), (20, 21)].map (tok exS) = exT := by rfl
theorem ex_wrong : words ⟨#[97, 32, 63, 32, 98]⟩ = .inl 2 := by decide
theorem ex_split (w : World) : Calls Try.prog 8 #[.string exS] w fun e w' => ∃ b o cap, e = .returned (.tuple #[.slice (some ⟨b, o, none⟩) 8 cap, .agg #[.int .i64 0, .int .i64 0]]) ∧ 8 ≤ cap ∧ b < w'.heap.size ∧ SlT w' (some ⟨b, o, none⟩) exT ∧ Below w.heap.size w w' := by
  refine (split_ok exS w (by decide) ex_words).mono ?_
  rintro e w' ⟨ao, cap, rfl, hc, hS, hb⟩
  rw [ex_toks] at hS hc
  rcases hS with hS | ⟨b, o, rfl, hl, hc2⟩
  · cases hS
  · exact ⟨b, o, cap, rfl, hc, hl, .inr ⟨b, o, rfl, hl, hc2⟩, hb⟩
theorem bcell {W w1 : World} (hb : Below W.heap.size W w1) : (∀ b o, b < W.heap.size → w1.cell? ⟨b, o, none⟩ = W.cell? ⟨b, o, none⟩) ∧ (∀ b o, b < W.heap.size → w1.frozen? ⟨b, o, none⟩ = W.frozen? ⟨b, o, none⟩) :=
  ⟨fun b o h => hb.cell (p := ⟨b, o, none⟩) h, fun b o h => hb.frozen (p := ⟨b, o, none⟩) h⟩
theorem ex_cells {w : World} {b o : Nat} (h : SlT w (some ⟨b, o, none⟩) exT) : w.cell? ⟨b, o + 4, none⟩ = some (.string ⟨#[97, 100, 100, 46, 105]⟩) ∧ w.cell? ⟨b, o + 5, none⟩ = some (.int .i64 5) ∧ w.cell? ⟨b, o + 12, none⟩ = some (.string ⟨#[122]⟩) ∧ SlT w (some ⟨b, o, none⟩) (exT.take 3) := by
  rcases h with h | ⟨b', o', e, hl, hc⟩
  · cases h
  · injection e with e; injection e with e1 e2 _
    subst e1; subst e2
    exact ⟨(hc 2 (by decide)).1, (hc 2 (by decide)).2, (hc 6 (by decide)).1, .inr ⟨b, o, rfl, hl, fun i hi => by
      have h3 : i < 3 := hi
      have : (exT.take 3).getD i (⟨#[]⟩, 0) = exT.getD i (⟨#[]⟩, 0) := by
        rcases (show i = 0 ∨ i = 1 ∨ i = 2 by omega) with rfl | rfl | rfl <;> rfl
      rw [this]
      exact hc i (by show i < 8; omega)⟩⟩
theorem ex_join (b o cap : Nat) (w : World) (h : SlT w (some ⟨b, o, none⟩) exT) : Calls Try.prog 13 #[.slice (some ⟨b, o, none⟩) 3 cap] w fun e w' => e = .returned (.string ⟨#[37, 49, 32, 61, 32, 97, 100, 100, 46, 105]⟩) ∧ Below w.heap.size w w' :=
  join_any (exT.take 3) _ cap w (ex_cells h).2.2.2 (by decide) (by decide)
theorem name_is (s : ByteArray) (w : World) {r : Bool} (hs : s.size ≤ 24) (h : nameB s.data.toList = r) : Calls Try.prog 11 #[.string s] w fun e w' => e = .returned (.bool r) ∧ Below w.heap.size w w' := by
  subst h
  exact name_any s w (by unfold maxLen; omega)
theorem below_two {a b c : World} (h : Below a.heap.size a b) (k : Below b.heap.size b c) : Below a.heap.size a c := h.trans (k.mono h.size)
theorem below_new {a b : World} (h : Below a.heap.size a b) (o : Obj) : Below a.heap.size a (b.alloc o) := h.alloc h.size o
set_option maxHeartbeats 1000000 in
theorem works_any (w : World) : Calls Try.prog 7 #[] w fun e w' => e = .returned (.bool true) ∧ Below w.heap.size w w' := by
  go_enter Try.func7, Try.ntmps7
  go_wp2_with fail
  refine (ex_split _).mono ?_
  rintro e w1 ⟨b, o, cap, rfl, hcap, hbl, hS, b1⟩
  have HS := hideS hS
  clear hS
  go_wp2_with fail
  refine (split_no ⟨#[97, 32, 63, 32, 98]⟩ _ (by decide) ex_wrong).mono ?_
  rintro e w2 ⟨rfl, b2⟩
  have b3 := below_new b2 (Obj.cells #[Value.int IntKind.i64 1, Value.int IntKind.i64 2] 26)
  have S2 := hideS (((unhideS HS).below ((Below.refl _ w1).alloc (Nat.le_refl _) (Obj.cells #[Value.int IntKind.i64 0, Value.int IntKind.i64 0] 26))).below b3)
  have d0 : (w2.alloc (Obj.cells #[Value.int IntKind.i64 1, Value.int IntKind.i64 2] 26)).cell? ⟨w1.heap.size, 0, none⟩ = some (.int .i64 0) := (b3.cell (p := ⟨w1.heap.size, 0, none⟩) (by simp)).trans (by simp)
  have d1 : (w2.alloc (Obj.cells #[Value.int IntKind.i64 1, Value.int IntKind.i64 2] 26)).cell? ⟨w1.heap.size, 1, none⟩ = some (.int .i64 0) := (b3.cell (p := ⟨w1.heap.size, 1, none⟩) (by simp)).trans (by simp)
  have B3 := hideS (below_two (below_new b1 _) b3)
  obtain ⟨g1, g2, g3, _⟩ := ex_cells (unhideS S2)
  clear b1 b2 b3
  go_wp2_with fail
  refine (name_is ⟨#[97, 95, 49]⟩ _ (by decide) (r := true) (by decide)).mono ?_
  rintro e w4 ⟨rfl, b4⟩
  go_wp2_with fail
  refine (name_is ⟨#[49, 97]⟩ _ (by decide) (r := false) (by decide)).mono ?_
  rintro e w5 ⟨rfl, b5⟩
  go_wp2_with fail
  refine (name_is ⟨#[]⟩ _ (by decide) (r := false) (by decide)).mono ?_
  rintro e w6 ⟨rfl, b6⟩
  go_wp2_with fail
  refine (ex_join b o cap _ ((((unhideS S2).below b4).below b5).below b6)).mono ?_
  rintro e w7 ⟨rfl, b7⟩
  go_wp2_with fail
  go_ret
  exact ⟨rfl, below_two (below_two (below_two (below_two (unhideS B3) b4) b5) b6) b7⟩
end Go.Proofs.Ytkgibdmjkanimaa
