/- What Split of layer 2 returns, for every text of at most 65536 bytes: the walk. -/
import Derived.Test.YtkgibdmjkanimaaWalksS
namespace Go.Proofs.Ytkgibdmjkanimaa
open Go.RowKit

theorem word_one (s : ByteArray) (a : Nat) (w : World) (hs : s.size ≤ 65536) (h2 : a < s.size) :
    Calls Try.prog 17 #[.string s, .int .i64 a, .int .i64 (a + 1)] w fun e w' => e = .returned (.agg #[.string (s.extract a (a + 1)), .int .i64 a]) ∧ Below w.heap.size w w' :=
  word_any s a (a + 1) w hs (by omega) (by omega)
theorem going_err {w wr : World} {s : ByteArray} {v : Value} {ws : List (Nat × Nat)} {pos : Nat} (h : Going w s v ws pos wr) :
    wr.cell? ⟨w.heap.size, 0, none⟩ = some (.int .i64 0) ∧ wr.cell? ⟨w.heap.size, 1, none⟩ = some (.int .i64 0) ∧ wr.frozen? ⟨w.heap.size, 0, none⟩ = false ∧ wr.frozen? ⟨w.heap.size, 1, none⟩ = false := by
  have := h.2.2.1
  simp [World.cell?, World.frozen?, this]

theorem scan_end {s : ByteArray} {ws : List (Nat × Nat)} {b : Option Nat} {n : Bool} {R : Nat ⊕ List (Nat × Nat)} (h : scan (s.data.toList.drop s.size) s.size ws b n = R) : R = .inr (shutW ws b s.size) := by
  rw [List.drop_of_length_le (by rw [blen]; omega), scan] at h
  exact h.symm
theorem going_set {w wr : World} {s : ByteArray} {v : Value} {ws : List (Nat × Nat)} {pos : Nat} (h : Going w s v ws pos wr) (a b : Value) :
    Below w.heap.size w ((wr.setCell ⟨w.heap.size, 0, none⟩ a).setCell ⟨w.heap.size, 1, none⟩ b) ∧ ((wr.setCell ⟨w.heap.size, 0, none⟩ a).setCell ⟨w.heap.size, 1, none⟩ b).ownsRow (w.heap.size + 2) 32 2 v ws.length (cellsT (ws.map (tok s))) :=
  ⟨(h.2.2.2.setCell (Nat.le_refl _) _).setCell (Nat.le_refl _) _, ownsRow_setCell_below (ownsRow_setCell_below h.1 (by simp) _) (by simp) _⟩
set_option maxHeartbeats 1000000 in
theorem split_try (s : ByteArray) (w : World) (hs : s.size ≤ 65536) :
    Calls Try.prog 8 #[.string s] w fun e w' => Below w.heap.size w w' ∧
      ((∃ x, words s = .inl x ∧ e = .returned (.tuple #[.slice none 0 0, .agg #[.int .i64 1, .int .i64 x]])) ∨
       (∃ v ws, words s = .inr ws ∧ e = .returned (.tuple #[v, .agg #[.int .i64 0, .int .i64 0]]) ∧ w'.ownsRow (w.heap.size + 2) 32 2 v ws.length (cellsT (ws.map (tok s))))) := by
  obtain ⟨i0, hi, hz0, hz1, hz2⟩ := info_parts Try.info32
  go_enter Try.func8, Try.ntmps8
  go_wp2
  go_loopw [4, 5, 6] (fun v b n wr => ∃ (pos : Nat) (ws : List (Nat × Nat)) (bo : Option Nat) (nb : Bool), b = .int .i64 (bg bo) ∧ n = .bool nb ∧ Going w s v ws pos wr ∧ pos ≤ s.size ∧ ws.length ≤ 2 * pos ∧ (∀ q, bo = some q → q < pos) ∧ (nb = true → bo = none) ∧ Hid (scan (s.data.toList.drop pos) pos ws bo nb = words s)) (fun _ _ _ wr => s.size - wr.iterPos (w.heap.size + 1))
  case atStart => exact ⟨0, [], none, false, rfl, rfl, going_start w s, Nat.zero_le _, Nat.le_refl _, (fun _ h => by cases h), (fun h => by cases h), rfl⟩
  case round =>
    obtain ⟨pos, ws, bo, nb, rfl, rfl, hG, hp, hwl, hbq, hnb, HN⟩ := hrel
    have HG := hideS hG
    have hit := hG.2.1
    clear hG
    by_cases hlt : pos < s.size
    · have hnx := fun ty => Lib.run_next_any_at (P := Try.prog) wr (w.heap.size + 1) s pos ty hit hlt
      have G2 := hideS (going_iter (unhideS HG) (pos + (Utf8.decode s pos).2))
      obtain ⟨hk1, hk2⟩ := rune_size hlt
      cases nb with
      | true =>
        have hb0 := hnb rfl
        subst hb0
        go_wp2_with (go_at_call 15; refine (eol_any _ _).mono ?_; rintro e w' ⟨rfl, rfl⟩)
        go_roundw
        case rel => exact ⟨pos + (Utf8.decode s pos).2, ws, none, !eolB (Utf8.decode s pos).1, rfl, rfl, unhideS G2, by omega, by omega, (fun _ h => by cases h), (fun _ => rfl), hideS ((rune_note hlt ws none).symm.trans (unhideS HN))⟩
        case measure => simp only [World.iterPos, (unhideS G2).2.1, hit]; omega
      | false =>
        cases htg : togB (Utf8.decode s pos).1 with
        | true =>
          cases bo with
          | none =>
            have hbg : bg none = -1 := rfl
            go_wp2_with (go_at_call 16; refine (together_any _ _).mono ?_; rintro e w' ⟨rfl, rfl⟩)
            go_roundw
            case rel => exact ⟨pos + (Utf8.decode s pos).2, ws, some pos, false, rfl, rfl, unhideS G2, by omega, by omega, (fun q h => by cases h; omega), (fun h => by cases h), hideS ((rune_tog hlt ws none htg).symm.trans (unhideS HN))⟩
            case measure => simp only [World.iterPos, (unhideS G2).2.1, hit]; omega
          | some q =>
            have hbg : bg (some q) = (q : Int) := rfl
            have hq := hbq q rfl
            go_wp2_with (go_at_call 16; refine (together_any _ _).mono ?_; rintro e w' ⟨rfl, rfl⟩)
            go_roundw
            case rel => exact ⟨pos + (Utf8.decode s pos).2, ws, some q, false, rfl, rfl, unhideS G2, by omega, by omega, (fun q h => by cases h; omega), (fun h => by cases h), hideS ((rune_tog hlt ws (some q) htg).symm.trans (unhideS HN))⟩
            case measure => simp only [World.iterPos, (unhideS G2).2.1, hit]; omega
        | false =>
          cases bo with
          | none =>
            have hbg : bg none = -1 := rfl
            cases hal : aloB (Utf8.decode s pos).1 with
            | true =>
              go_wp2_with (first | (go_at_call 16; refine (together_any _ _).mono ?_; rintro e w' ⟨rfl, rfl⟩) | (go_at_call 18; refine (alone_any _ _).mono ?_; rintro e w' ⟨rfl, rfl⟩))
              refine (word_one s pos _ hs hlt).mono ?_
              rintro e w1 ⟨rfl, b1⟩
              have hsz : w.heap.size + 2 ≤ w1.heap.size := Nat.le_trans (going_lt (unhideS G2)) b1.size
              go_wp2_with (at_builtin; refine wpList_append_own _ rfl (.tmp 46) (.tmp 52) 23 rfl (w.heap.size + 2) 32 i0 _ 2 24 Try.underlying23 hi hz0 hz1 hz2 rfl (by decide) _ _ _ rfl (going_own (unhideS G2) b1 _) ⟨w1.heap.size, 0, none⟩ 1 1 [.string (s.extract pos (pos + 1)), .int .i64 pos] rfl rfl cells_two one_two (by unfold maxLen; omega) (by omega) (by simp; omega) ?_; intro v2 w2 own2 grow2 _)
              have G3 := hideS (going_step (unhideS G2) b1 own2 grow2)
              clear own2 grow2
              go_wp2
              go_roundw
              case rel => exact ⟨pos + (Utf8.decode s pos).2, ws ++ [(pos, pos + 1)], none, false, rfl, rfl, unhideS G3, by omega, by simp; omega, (fun _ h => by cases h), (fun h => by cases h), hideS ((rune_alo hlt ws none htg hal).symm.trans (unhideS HN))⟩
              case measure => simp only [World.iterPos, (unhideS G3).2.1, hit]; omega
            | false =>
              by_cases h35 : ((Utf8.decode s pos).1 : Int) = 35
              · have h35b : (((Utf8.decode s pos).1 : Int) == 35) = true := by rw [h35]; rfl
                have H35 := hideS h35
                clear h35
                go_wp2_with (first | (go_at_call 16; refine (together_any _ _).mono ?_; rintro e w' ⟨rfl, rfl⟩) | (go_at_call 18; refine (alone_any _ _).mono ?_; rintro e w' ⟨rfl, rfl⟩))
                go_roundw
                case rel => exact ⟨pos + (Utf8.decode s pos).2, ws, none, true, rfl, rfl, unhideS G2, by omega, by omega, (fun _ h => by cases h), (fun _ => rfl), hideS ((rune_hash hlt ws none htg hal (unhideS H35)).symm.trans (unhideS HN))⟩
                case measure => simp only [World.iterPos, (unhideS G2).2.1, hit]; omega
              · have h35b : (((Utf8.decode s pos).1 : Int) == 35) = false := by simpa using h35
                cases hbl : blaB (Utf8.decode s pos).1 with
                | true =>
                  go_wp2_with (first | (go_at_call 16; refine (together_any _ _).mono ?_; rintro e w' ⟨rfl, rfl⟩) | (go_at_call 18; refine (alone_any _ _).mono ?_; rintro e w' ⟨rfl, rfl⟩) | (go_at_call 19; refine (blank_any _ _).mono ?_; rintro e w' ⟨rfl, rfl⟩))
                  go_roundw
                  case rel => exact ⟨pos + (Utf8.decode s pos).2, ws, none, false, rfl, rfl, unhideS G2, by omega, by omega, (fun _ h => by cases h), (fun h => by cases h), hideS ((rune_bla hlt ws none htg hal h35 hbl).symm.trans (unhideS HN))⟩
                  case measure => simp only [World.iterPos, (unhideS G2).2.1, hit]; omega
                | false =>
                  obtain ⟨e0, e1, e2, e3⟩ := going_err (unhideS G2)
                  go_wp2_with (first | (go_at_call 16; refine (together_any _ _).mono ?_; rintro e w' ⟨rfl, rfl⟩) | (go_at_call 18; refine (alone_any _ _).mono ?_; rintro e w' ⟨rfl, rfl⟩) | (go_at_call 19; refine (blank_any _ _).mono ?_; rintro e w' ⟨rfl, rfl⟩))
                  exact bodyPost_ret (v := .tuple #[.slice none 0 0, .agg #[.int .i64 1, .int .i64 pos]]) (by simp [results, Try.results8, go_sem, e0, e1]) rfl ⟨(going_set (unhideS G2) _ _).1, .inl ⟨pos, (unhideS HN).symm.trans (rune_err hlt ws none htg hal h35 hbl), rfl⟩⟩
          | some q =>
            have hbg : bg (some q) = (q : Int) := rfl
            have hq := hbq q rfl
            go_wp2_with (go_at_call 16; refine (together_any _ _).mono ?_; rintro e w' ⟨rfl, rfl⟩)
            refine (word_any s q pos _ hs (by omega) (by omega)).mono ?_
            rintro e w1 ⟨rfl, b1⟩
            have hsz : w.heap.size + 2 ≤ w1.heap.size := Nat.le_trans (going_lt (unhideS G2)) b1.size
            go_wp2_with (at_builtin; refine wpList_append_own _ rfl (.tmp 30) (.tmp 35) 23 rfl (w.heap.size + 2) 32 i0 _ 2 24 Try.underlying23 hi hz0 hz1 hz2 rfl (by decide) _ _ _ rfl (going_own (unhideS G2) b1 _) ⟨w1.heap.size, 0, none⟩ 1 1 [.string (s.extract q pos), .int .i64 q] rfl rfl cells_two one_two (by unfold maxLen; omega) (by omega) (by simp; omega) ?_; intro v2 w2 own2 grow2 _)
            have G3 := hideS (going_step (unhideS G2) b1 own2 grow2)
            clear own2 grow2 b1
            cases hal : aloB (Utf8.decode s pos).1 with
            | true =>
              go_wp2_with (first | (go_at_call 16; refine (together_any _ _).mono ?_; rintro e w' ⟨rfl, rfl⟩) | (go_at_call 18; refine (alone_any _ _).mono ?_; rintro e w' ⟨rfl, rfl⟩))
              refine (word_one s pos _ hs hlt).mono ?_
              rintro e w3 ⟨rfl, b3⟩
              have hsz3 : w.heap.size + 2 ≤ w3.heap.size := Nat.le_trans (going_lt (unhideS G3)) b3.size
              go_wp2_with (at_builtin; refine wpList_append_own _ rfl (.tmp 46) (.tmp 52) 23 rfl (w.heap.size + 2) 32 i0 _ 2 24 Try.underlying23 hi hz0 hz1 hz2 rfl (by decide) _ _ _ rfl (going_own (unhideS G3) b3 _) ⟨w3.heap.size, 0, none⟩ 1 1 [.string (s.extract pos (pos + 1)), .int .i64 pos] rfl rfl cells_two one_two (by unfold maxLen; simp; omega) (by simp; omega) (by simp; omega) ?_; intro v4 w4 own4 grow4 _)
              have G5 := hideS (going_step (unhideS G3) b3 own4 grow4)
              clear own4 grow4
              go_wp2
              go_roundw
              case rel => exact ⟨pos + (Utf8.decode s pos).2, ws ++ [(q, pos)] ++ [(pos, pos + 1)], none, false, rfl, rfl, unhideS G5, by omega, by simp; omega, (fun _ h => by cases h), (fun h => by cases h), hideS ((rune_alo hlt ws (some q) htg hal).symm.trans (unhideS HN))⟩
              case measure => simp only [World.iterPos, (unhideS G5).2.1, hit]; omega
            | false =>
              by_cases h35 : ((Utf8.decode s pos).1 : Int) = 35
              · have h35b : (((Utf8.decode s pos).1 : Int) == 35) = true := by rw [h35]; rfl
                have H35 := hideS h35
                clear h35
                go_wp2_with (first | (go_at_call 16; refine (together_any _ _).mono ?_; rintro e w' ⟨rfl, rfl⟩) | (go_at_call 18; refine (alone_any _ _).mono ?_; rintro e w' ⟨rfl, rfl⟩))
                go_roundw
                case rel => exact ⟨pos + (Utf8.decode s pos).2, ws ++ [(q, pos)], none, true, rfl, rfl, unhideS G3, by omega, by simp; omega, (fun _ h => by cases h), (fun _ => rfl), hideS ((rune_hash hlt ws (some q) htg hal (unhideS H35)).symm.trans (unhideS HN))⟩
                case measure => simp only [World.iterPos, (unhideS G3).2.1, hit]; omega
              · have h35b : (((Utf8.decode s pos).1 : Int) == 35) = false := by simpa using h35
                cases hbl : blaB (Utf8.decode s pos).1 with
                | true =>
                  go_wp2_with (first | (go_at_call 16; refine (together_any _ _).mono ?_; rintro e w' ⟨rfl, rfl⟩) | (go_at_call 18; refine (alone_any _ _).mono ?_; rintro e w' ⟨rfl, rfl⟩) | (go_at_call 19; refine (blank_any _ _).mono ?_; rintro e w' ⟨rfl, rfl⟩))
                  go_roundw
                  case rel => exact ⟨pos + (Utf8.decode s pos).2, ws ++ [(q, pos)], none, false, rfl, rfl, unhideS G3, by omega, by simp; omega, (fun _ h => by cases h), (fun h => by cases h), hideS ((rune_bla hlt ws (some q) htg hal h35 hbl).symm.trans (unhideS HN))⟩
                  case measure => simp only [World.iterPos, (unhideS G3).2.1, hit]; omega
                | false =>
                  obtain ⟨e0, e1, e2, e3⟩ := going_err (unhideS G3)
                  go_wp2_with (first | (go_at_call 16; refine (together_any _ _).mono ?_; rintro e w' ⟨rfl, rfl⟩) | (go_at_call 18; refine (alone_any _ _).mono ?_; rintro e w' ⟨rfl, rfl⟩) | (go_at_call 19; refine (blank_any _ _).mono ?_; rintro e w' ⟨rfl, rfl⟩))
                  exact bodyPost_ret (v := .tuple #[.slice none 0 0, .agg #[.int .i64 1, .int .i64 pos]]) (by simp [results, Try.results8, go_sem, e0, e1]) rfl ⟨(going_set (unhideS G3) _ _).1, .inl ⟨pos, (unhideS HN).symm.trans (rune_err hlt ws (some q) htg hal h35 hbl), rfl⟩⟩
    · obtain rfl : pos = s.size := by omega
      have hnx := fun ty => Lib.run_next_end_at (P := Try.prog) wr (w.heap.size + 1) s s.size ty hit hlt
      cases bo with
      | none =>
        obtain ⟨e0, e1, e2, e3⟩ := going_err (unhideS HG)
        have hbg : bg none = -1 := rfl
        go_wp2
        exact bodyPost_ret (v := .tuple #[u4, .agg #[.int .i64 0, .int .i64 0]]) (by simp [results, Try.results8, go_sem, e0, e1]) rfl ⟨(going_set (unhideS HG) _ _).1, .inr ⟨_, ws, scan_end (unhideS HN), rfl, (going_set (unhideS HG) _ _).2⟩⟩
      | some q =>
        have hbg : bg (some q) = (q : Int) := rfl
        have hq := hbq q rfl
        go_wp2_with fail
        refine (word_any s q s.size _ hs (by omega) (by omega)).mono ?_
        rintro e w1 ⟨rfl, b1⟩
        have hsz : w.heap.size + 2 ≤ w1.heap.size := Nat.le_trans (going_lt (unhideS HG)) b1.size
        go_wp2_with (at_builtin; refine wpList_append_own _ rfl (.tmp 65) (.tmp 71) 23 rfl (w.heap.size + 2) 32 i0 _ 2 24 Try.underlying23 hi hz0 hz1 hz2 rfl (by decide) _ _ _ rfl (going_own (unhideS HG) b1 _) ⟨w1.heap.size, 0, none⟩ 1 1 [.string (s.extract q s.size), .int .i64 q] rfl rfl cells_two one_two (by unfold maxLen; omega) (by omega) (by simp; omega) ?_; intro v2 w2 own2 grow2 _; have G3 := hideS (going_step (unhideS HG) b1 own2 grow2); clear own2 grow2; obtain ⟨e0, e1, e2, e3⟩ := going_err (unhideS G3))
        exact bodyPost_ret (v := .tuple #[v2, .agg #[.int .i64 0, .int .i64 0]]) (by simp [results, Try.results8, go_sem, e0, e1]) rfl ⟨(going_set (unhideS G3) _ _).1, .inr ⟨_, _, scan_end (unhideS HN), rfl, (going_set (unhideS G3) _ _).2⟩⟩
end Go.Proofs.Ytkgibdmjkanimaa
