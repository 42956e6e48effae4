/- What Text answers, for every text of at most 65536 bytes. -/
import Derived.Test.YtkkkgennkhdfhaaDoorRdX
import Derived.Test.YtkkkgennkhdfhaaDoorLw
namespace Go.Proofs.YtkkkgennkhdfhaaDoor
open Go Go.RowKit
open G (Tok Er Ins Fun peek0 peek1 atOf)

/-- The words of a text. -/
def toks (s : ByteArray) (ws : List (Nat × Nat)) : List Tok := ws.map fun q => ((s.extract q.1 q.2).data.toList, (q.1 : Int))
theorem toks_cells (s : ByteArray) (ws : List (Nat × Nat)) : L2.cellsT (ws.map (L2.tok s)) = cellsK (toks s ws) := by
  induction ws with
  | nil => rfl
  | cons q r ih =>
    show Value.string (s.extract q.1 q.2) :: Value.int .i64 (q.1 : Int) :: L2.cellsT (r.map (L2.tok s)) = Value.string (bs (s.extract q.1 q.2).data.toList) :: Value.int .i64 (q.1 : Int) :: cellsK (toks s r)
    rw [bs_of, ih]
/-- The program that a text is, or what is wrong first, and where. -/
def textG (s : ByteArray) : Except Er (List Fun) :=
  match L2.words s with
  | .inl x => .error (1, (x : Int))
  | .inr ws => match progG (s.size : Int) (toks s ws) with
    | .ok ((xs, _), _) => .ok xs
    | .error er => .error er
/-- What Text answers. -/
def OutT (r : Except Er (List Fun)) (w : World) (e : Ending) (w' : World) : Prop :=
  Below w.heap.size w w' ∧ ((∃ xs v, r = .ok xs ∧ e = .returned (.tuple #[.agg #[v], .agg #[.int .i64 0, .int .i64 0]]) ∧ ProgVal w.heap.size xs v w') ∨ ∃ er : Er, r = .error er ∧ e = .returned (.tuple #[.agg #[.slice none 0 0], .agg #[.int .i64 er.1, .int .i64 er.2]]))
theorem toks_short {s : ByteArray} {ws : List (Nat × Nat)} (h : L2.words s = .inr ws) (hs : s.size ≤ 65536) : (toks s ws).length ≤ 131072 ∧ ∀ t ∈ toks s ws, t.1.length ≤ 65536 := by
  have hok := (L2.words_ok h).1
  have hl := (L2.join_len s.data.toList ws 0 s.size hok).2
  refine ⟨by simp [toks]; omega, fun t ht => ?_⟩
  simp only [toks, List.mem_map] at ht
  obtain ⟨q, _, rfl⟩ := ht
  show (s.extract q.1 q.2).data.toList.length ≤ 65536
  rw [ext_list]
  have : s.data.toList.length = s.size := by simp
  simp
  omega
theorem text_any (s : ByteArray) (w : World) (hs : s.size ≤ 65536) (ht : Tabs w) (hw : 2 ≤ w.heap.size) : Calls Tryd.prog 7 #[.string s] w (OutT (textG s) w) := by
  have b0 := below_step (below_box w (.cells #[.slice none 0 0] 25)) (below_box (w.alloc (.cells #[.slice none 0 0] 25)) (.cells #[.int .i64 0, .int .i64 0] 28))
  have T0 := hide (ht.below b0)
  have c0 : ((w.alloc (.cells #[.slice none 0 0] 25)).alloc (.cells #[.int .i64 0, .int .i64 0] 28)).heap[w.heap.size]? = some (.cells #[.slice none 0 0] 25 (0, 0)) := (heap_alloc_old _ _ (by simp)).trans (heap_alloc_new w _)
  have P0 : Hid (Pair ((w.alloc (.cells #[.slice none 0 0] 25)).alloc (.cells #[.int .i64 0, .int .i64 0] 28)) (w.heap.size + 1) (.int .i64 0) (.int .i64 0)) := hide (by
    have := Pair.new (w.alloc (.cells #[.slice none 0 0] 25)) 28 (a := .int .i64 0) (b := .int .i64 0)
    rwa [show (w.alloc (.cells #[.slice none 0 0] 25)).heap.size = w.heap.size + 1 from by simp] at this)
  have B0 := hide b0
  have C0 := hide c0
  clear ht b0 c0
  go_enter Tryd.func7, Tryd.ntmps7
  go_wp2_with fail
  show Calls _ _ _ ((w.alloc (.cells #[.slice none 0 0] 25)).alloc (.cells #[.int .i64 0, .int .i64 0] 28)) _
  generalize (w.alloc (.cells #[.slice none 0 0] 25)).alloc (.cells #[.int .i64 0, .int .i64 0] 28) = W0 at *
  refine (L2.split_try s _ hs).mono ?_; rintro e w1 ⟨b1, ⟨x, hx, rfl⟩ | ⟨v, ws, hx, rfl, own⟩⟩
  · have HT : Hid (textG s = .error (1, (x : Int))) := hide (by unfold textG; rw [hx])
    obtain ⟨p0, p1, p2, p3, p4⟩ := P0.out.below b1
    have C1 := hide ((b1.block _ (Array.getElem?_eq_some_iff.1 C0.out).1).trans C0.out)
    have B1 := hide (below_step B0.out b1)
    have F2 := ((Far.refl (w.heap.size + 1) w1).set 0 (.int .i64 1)).set 1 (.int .i64 (x : Int))
    have C2 := hide ((F2.2.2.2.2 w.heap.size (by omega)).trans C1.out)
    have B2 := hide ((B1.out.setCell (p := ⟨w.heap.size + 1, 0, none⟩) (Nat.le_succ _) (.int .i64 1)).setCell (p := ⟨w.heap.size + 1, 1, none⟩) (Nat.le_succ _) (.int .i64 (x : Int)))
    have Q2 : Hid (Pair ((w1.setCell ⟨w.heap.size + 1, 0, none⟩ (.int .i64 1)).setCell ⟨w.heap.size + 1, 1, none⟩ (.int .i64 (x : Int))) (w.heap.size + 1) (.int .i64 1) (.int .i64 (x : Int))) := hide ⟨(World.cell?_setCell_other _ _ _ _ (by simp)).trans (World.cell?_setCell_same _ _ _ p0), World.cell?_setCell_same _ _ _ ((World.cell?_setCell_other _ _ _ _ (by simp)).trans p1), by rw [World.frozen?_setCell, World.frozen?_setCell]; exact p2, by rw [World.frozen?_setCell, World.frozen?_setCell]; exact p3, by rw [F2.2.2.2.1]; exact p4⟩
    clear hx F2 B1
    go_upto_region 2 with fail
    show Code.wp _ _ _ _ ((w1.setCell ⟨w.heap.size + 1, 0, none⟩ (.int .i64 1)).setCell ⟨w.heap.size + 1, 1, none⟩ (.int .i64 (x : Int)))
    generalize (w1.setCell ⟨w.heap.size + 1, 0, none⟩ (.int .i64 1)).setCell ⟨w.heap.size + 1, 1, none⟩ (.int .i64 (x : Int)) = W2 at *
    clear p0 p1 p2 p3 p4 C1 b1
    obtain ⟨p0, p1, p2, p3, p4⟩ := Q2.out
    have d0 : W2.cell? ⟨w.heap.size, 0, none⟩ = some (.slice none 0 0) := by simp [World.cell?, C2.out]
    have f0 : W2.frozen? ⟨w.heap.size, 0, none⟩ = false := by simp [World.frozen?, C2.out]
    have hne : w.heap.size ≠ w.heap.size + 1 := by omega
    have hne' : w.heap.size + 1 ≠ w.heap.size := by omega
    go_wp2_with fail
    go_region
    all_goals
      go_wp2_with fail
      exact bodyPost_ret (v := .tuple #[.agg #[.slice none 0 0], .agg #[.int .i64 1, .int .i64 x]]) (by simp [results, Tryd.results7, go_sem, d0, p0, p1]) rfl ⟨(((B2.out.setCell (p := ⟨w.heap.size, 0, none⟩) (Nat.le_refl _) _).setCell (p := ⟨w.heap.size + 1, 0, none⟩) (Nat.le_succ _) _).setCell (p := ⟨w.heap.size + 1, 1, none⟩) (Nat.le_succ _) _).drew, .inr ⟨(1, (x : Int)), HT.out, rfl⟩⟩
  · have hx := hide hx
    obtain ⟨hl1, hl2⟩ := toks_short hx.out hs
    rw [toks_cells] at own
    obtain ⟨aoW, cW, rfl⟩ := own_len own
    have hlen : (toks s ws).length = ws.length := by simp [toks]
    obtain ⟨p0, p1, p2, p3, p4⟩ := P0.out.below b1
    have C1 := hide ((b1.block _ (Array.getElem?_eq_some_iff.1 C0.out).1).trans C0.out)
    have B1 := hide (below_step B0.out b1)
    have F2 := ((Far.refl (w.heap.size + 1) w1).set 0 (.int .i64 0)).set 1 (.int .i64 0)
    have hsz0 : w.heap.size + 1 < W0.heap.size := P0.out.2.2.2.2
    have P2 := hide (P0.out.below b1)
    have own2 := hide (F2.own own (fun e => by have := (own.lt _ e).1; omega))
    have T2 := hide ((T0.out.below b1).of (by rw [F2.2.2.2.1]; exact Nat.le_refl _) (F2.2.2.2.2 0 (by omega)) (F2.2.2.2.2 1 (by omega)))
    have B2 := hide ((B1.out.setCell (p := ⟨w.heap.size + 1, 0, none⟩) (Nat.le_succ _) (.int .i64 0)).setCell (p := ⟨w.heap.size + 1, 1, none⟩) (Nat.le_succ _) (.int .i64 0))
    have C2 := hide ((F2.2.2.2.2 w.heap.size (by omega)).trans C1.out)
    have Q2 : Hid (Pair ((w1.setCell ⟨w.heap.size + 1, 0, none⟩ (.int .i64 0)).setCell ⟨w.heap.size + 1, 1, none⟩ (.int .i64 0)) (w.heap.size + 1) (.int .i64 0) (.int .i64 0)) := hide ⟨(World.cell?_setCell_other _ _ _ _ (by simp)).trans (World.cell?_setCell_same _ _ _ p0), World.cell?_setCell_same _ _ _ ((World.cell?_setCell_other _ _ _ _ (by simp)).trans p1), by rw [World.frozen?_setCell, World.frozen?_setCell]; exact p2, by rw [World.frozen?_setCell, World.frozen?_setCell]; exact p3, by rw [F2.2.2.2.1]; exact p4⟩
    have hsz2 : w.heap.size + 1 < ((w1.setCell ⟨w.heap.size + 1, 0, none⟩ (.int .i64 0)).setCell ⟨w.heap.size + 1, 1, none⟩ (.int .i64 0)).heap.size := Q2.out.2.2.2.2
    clear own F2 P0 T0
    go_upto_region 2 with fail
    show Code.wp _ _ _ _ ((w1.setCell ⟨w.heap.size + 1, 0, none⟩ (.int .i64 0)).setCell ⟨w.heap.size + 1, 1, none⟩ (.int .i64 0))
    generalize (w1.setCell ⟨w.heap.size + 1, 0, none⟩ (.int .i64 0)).setCell ⟨w.heap.size + 1, 1, none⟩ (.int .i64 0) = W2 at *
    clear p0 p1 p2 p3 p4 P2 B1 C1 b1
    obtain ⟨p0, p1, p2, p3, p4⟩ := Q2.out
    have R3 : Hid (Rdr (W2.heap.size + 1) W2.heap.size (toks s ws) (s.size : Int) 0 (toks s ws) (W2.alloc (.cells #[.slice aoW ws.length cW, .int .i64 0, .int .i64 s.size, .int .i64 0] 48))) := hide (by
      refine ⟨.slice aoW ws.length cW, ?_, ?_, by omega, fun g hg => ?_, List.suffix_refl _, ⟨hl1, hl2⟩, by omega, by simp⟩
      · rw [heap_alloc_new]; simp
      · rw [hlen]; exact own_base (own2.out.alloc _) (Nat.zero_le _)
      · have := (own2.out.lt g hg).2; omega)
    have T3 := hide (T2.out.below (below_box W2 (.cells #[.slice aoW ws.length cW, .int .i64 0, .int .i64 s.size, .int .i64 0] 48)))
    have B3 := hide (below_box W2 (.cells #[.slice aoW ws.length cW, .int .i64 0, .int .i64 s.size, .int .i64 0] 48))
    go_wp2_with fail
    show Calls _ _ _ (W2.alloc (.cells #[.slice aoW ws.length cW, .int .i64 0, .int .i64 s.size, .int .i64 0] 48)) _
    generalize hW3 : W2.alloc (.cells #[.slice aoW ws.length cW, .int .i64 0, .int .i64 s.size, .int .i64 0] 48) = W3 at *
    have hsz3 : W3.heap.size = W2.heap.size + 1 := by rw [← hW3]; simp
    clear hW3 p0 p1 p2 p3 p4
    refine (read_any _ R3.out T3.out (by omega)).mono ?_; rintro e w4 ⟨k4, ⟨xs, n, l', v, hr, rfl, hV⟩ | ⟨er, hr, rfl⟩⟩
    all_goals
      have P4 := hide ((Q2.out.below B3.out).kept k4 (by omega) (by omega))
      have C4 := hide ((k4.2.2.2.2 w.heap.size (by omega) (by omega)).trans ((B3.out.block _ (by omega)).trans C2.out))
      have B4 : Below w.heap.size w w4 := by
        have b := (B2.out.trans (B3.out.mono (by omega)))
        exact b.trans ((k4.mono (show W2.heap.size ≤ W3.heap.size by omega)).below (Nat.le_refl _) |>.mono (by omega))
      have B4 := hide B4
      obtain ⟨p0, p1, p2, p3, p4⟩ := P4.out
      have d0 : w4.cell? ⟨w.heap.size, 0, none⟩ = some (.slice none 0 0) := by simp [World.cell?, C4.out]
      have f0 : w4.frozen? ⟨w.heap.size, 0, none⟩ = false := by simp [World.frozen?, C4.out]
      have hne : w.heap.size ≠ w.heap.size + 1 := by omega
      have hne' : w.heap.size + 1 ≠ w.heap.size := by omega
    · have HT : Hid (textG s = .ok xs) := hide (by unfold textG; rw [hx.out]; show (match progG _ _ with | .ok ((xs, _), _) => _ | .error er => _) = _; rw [hr])
      obtain ⟨aoV, cV, rfl⟩ := own_len hV.choose_spec.1
      have V5 : Hid (ProgVal w.heap.size xs (.slice aoV xs.length cV) (((w4.setCell ⟨w.heap.size, 0, none⟩ (.slice aoV xs.length cV)).setCell ⟨w.heap.size + 1, 0, none⟩ (.int .i64 0)).setCell ⟨w.heap.size + 1, 1, none⟩ (.int .i64 0))) := hide (by
        obtain ⟨cs, o1, o2⟩ := hV
        have F1 := (Far.refl w.heap.size w4).set 0 (.slice aoV xs.length cV)
        have F2 := ((Far.refl (w.heap.size + 1) (w4.setCell ⟨w.heap.size, 0, none⟩ (.slice aoV xs.length cV))).set 0 (.int .i64 0)).set 1 (.int .i64 0)
        have key : ∀ (e s : Nat) (v : Value) (n : Nat) (xs : List Value), w4.ownsRow W3.heap.size e s v n xs → _ := fun e s v n xs h => F2.own (F1.own h (fun e => by have := (h.lt _ e).1; omega)) (fun e => by have := (h.lt _ e).1; omega)
        have St : Stay W3.heap.size w.heap.size w4 _ := fun e s v n xs _ h => own_base (key e s v n xs h) (by omega)
        exact ⟨cs, own_base (key _ _ _ _ _ o1) (by omega), FRow.stay St _ _ o2⟩)
      clear hV hr k4
      go_wp2_with fail
      exact bodyPost_ret (v := .tuple #[.agg #[.slice aoV xs.length cV], .agg #[.int .i64 0, .int .i64 0]]) (by simp [results, Tryd.results7, go_sem, d0, p0, p1]) rfl ⟨((B4.out.setCell (p := ⟨w.heap.size, 0, none⟩) (Nat.le_refl _) _).setCell (p := ⟨w.heap.size + 1, 0, none⟩) (Nat.le_succ _) _).setCell (p := ⟨w.heap.size + 1, 1, none⟩) (Nat.le_succ _) _, .inl ⟨xs, _, HT.out, rfl, V5.out⟩⟩
    · have HT : Hid (textG s = .error er) := hide (by unfold textG; rw [hx.out]; show (match progG _ _ with | .ok ((xs, _), _) => _ | .error er => _) = _; rw [hr])
      clear hr k4
      go_wp2_with fail
      exact bodyPost_ret (v := .tuple #[.agg #[.slice none 0 0], .agg #[.int .i64 er.1, .int .i64 er.2]]) (by simp [results, Tryd.results7, go_sem, d0, p0, p1]) rfl ⟨((B4.out.setCell (p := ⟨w.heap.size, 0, none⟩) (Nat.le_refl _) _).setCell (p := ⟨w.heap.size + 1, 0, none⟩) (Nat.le_succ _) _).setCell (p := ⟨w.heap.size + 1, 1, none⟩) (Nat.le_succ _) _, .inr ⟨er, HT.out, rfl⟩⟩
end Go.Proofs.YtkkkgennkhdfhaaDoor
