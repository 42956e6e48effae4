/- What Print of layer 3, and the document's, return for every shape that may be. -/
import Derived.Test.YtaeimaljegegoaaDoorWalksD
import Derived.Laws.MakeOwn
import Derived.Laws.BytesArg
import Derived.Lib.LazyBuf
namespace Go.Proofs.YtaeimaljegegoaaDoor
open Go Go.RowKit

theorem make_row (n : Nat) (hn : n ≤ 16) (W : World) : (Instr.makeSlice 38 (.int .i64 n) (.int .i64 n)).run Tryd.prog W = .ok (.slice (some ⟨W.heap.size, 0, none⟩) n n) (W.alloc (.cells (madeCells #[.int .u8 0] n) 5)) := by
  have h1 : (Tryd.prog.info? 5).map (·.bytes) = some 1 := by kernel_rfl
  have h2 : (Tryd.prog.info? 5).map (·.size) = some 1 := by kernel_rfl
  have h3 : (Tryd.prog.info? 5).map (·.zero) = some (some (.int .u8 0)) := by kernel_rfl
  cases hi : Tryd.prog.info? 5 with
  | none => rw [hi] at h1; cases h1
  | some i =>
    rw [hi] at h1 h2 h3
    have e1 : i.bytes = 1 := Option.some.inj h1
    have e2 : i.size = 1 := Option.some.inj h2
    have e3 : i.zero = some (.int .u8 0) := Option.some.inj h3
    have := run_make (P := Tryd.prog) W 38 5 i (.int .u8 0) Tryd.underlying38 hi e3 .i64 .i64 n n (by omega) (Int.le_refl _) (by rw [e1]; omega) (by omega)
    rw [this, e2, Int.toNat_natCast, Nat.mul_one]
    rfl

/-- A row of bytes, which may be written, and which ones. -/
def Row (w : World) (g n : Nat) (f : Nat → Int) : Prop :=
  g < w.heap.size ∧ ∀ j, j < n → w.cell? ⟨g, j, none⟩ = some (.int .u8 (f j)) ∧ w.frozen? ⟨g, j, none⟩ = false
theorem Row.new (w : World) (n : Nat) : Row (w.alloc (.cells (madeCells #[.int .u8 0] n) 5)) w.heap.size n (fun _ => 0) := by
  refine ⟨by simp, fun j hj => ⟨?_, by simp⟩⟩
  rw [World.cell?_alloc_new]
  simp [madeCells, hj, Nat.mod_one]
theorem Row.below {w w1 : World} {g n : Nat} {f : Nat → Int} (h : Row w g n f) (b : Below w.heap.size w w1) : Row w1 g n f :=
  ⟨Nat.lt_of_lt_of_le h.1 b.size, fun j hj => ⟨(b.cell h.1).trans (h.2 j hj).1, (b.frozen h.1).trans (h.2 j hj).2⟩⟩
theorem Row.put {w : World} {g n : Nat} {f : Nat → Int} (h : Row w g n f) {k : Nat} (hk : k < n) (c : Int) : Row (w.setCell ⟨g, k, none⟩ (.int .u8 c)) g n (fun j => if j = k then c else f j) := by
  refine ⟨by simpa using h.1, fun j hj => ⟨?_, by rw [World.frozen?_setCell]; exact (h.2 j hj).2⟩⟩
  by_cases e : j = k
  · subst e
    rw [World.cell?_setCell_same _ _ _ (h.2 j hj).1]; simp
  · rw [World.cell?_setCell_other _ _ _ _ (fun x => e (congrArg Addr.off x).symm), (h.2 j hj).1]; simp [e]
theorem Pair.far {w : World} {g h : Nat} {a b : Value} (p : Pair w g a b) (hg : g ≠ h) (j : Nat) (u : Value) : Pair (w.setCell ⟨h, j, none⟩ u) g a b := by
  obtain ⟨c0, c1, f0, f1, z⟩ := p
  refine ⟨?_, ?_, ?_, ?_, by simpa using z⟩
  · rw [World.cell?_setCell_other _ _ _ _ (fun e => hg (congrArg Addr.block e).symm)]; exact c0
  · rw [World.cell?_setCell_other _ _ _ _ (fun e => hg (congrArg Addr.block e).symm)]; exact c1
  · rw [World.frozen?_setCell]; exact f0
  · rw [World.frozen?_setCell]; exact f1
theorem Tab.far {w : World} (h : Tab w) {g : Nat} (hg : 0 < g) (j : Nat) (u : Value) : Tab (w.setCell ⟨g, j, none⟩ u) :=
  ⟨by simpa using h.1, fun k hk => by rw [World.cell?_setCell_other _ _ _ _ (fun e => by have := congrArg Addr.block e; simp at this; omega)]; exact h.2 k hk⟩

theorem conv_row {w : World} {g n m : Nat} {f : Nat → Int} (h : Row w g n f) (hf : ∀ j, j < n → f j = (letter m j).toNat) :
    (convert 38 9 (.slice (some ⟨g, 0, none⟩) n n)).run Tryd.prog w = .ok (.string ⟨(letters m n).toArray⟩) w := by
  have := run_convert_bytes_arg (P := Tryd.prog) w 38 5 Tryd.underlying38 Tryd.underlying5 g 0 n n ((letters m n).map fun b => (b.toNat : Int)) (by simp [letters_length]) (fun i hi => by
    rw [Nat.zero_add, (h.2 i hi).1, hf i hi, List.getD_eq_getElem?_getD, List.getElem?_map, letters_get hi]; rfl) 9 Tryd.underlying9
  rw [this]
  rw [Lib.Lz.strOfNums_map]

theorem print_zero (w : World) :
    Calls Tryd.prog 17 #[.agg #[.int .i64 0, .int .i64 0]] w fun e w' => e = .returned (.string ⟨#[46]⟩) ∧ Below w.heap.size w w' := by
  go_enter Tryd.func17, Tryd.ntmps17
  go_wp2_with fail
  refine (check_yes 0 0 _ (by omega) (by decide)).mono ?_; rintro e w1 ⟨rfl, b1⟩
  obtain ⟨c0, c1, f0, f1, z0⟩ := (Pair.new w 23).below b1
  go_wp2_with fail
  go_ret
  exact ⟨rfl, below_new b1⟩

theorem print_pos (n m : Nat) (w : World) (h0 : 0 < n) (hn : n ≤ 16) (hm : m < 2 ^ n) (ht : Tab w) :
    Calls Tryd.prog 17 #[.agg #[.int .i64 n, .int .i64 m]] w fun e w' => e = .returned (.string ⟨(letters m n).toArray⟩) ∧ Below w.heap.size w w' := by
  have HT := hide ht
  have hmk := make_row n hn
  have hne : ((n : Int) == 0) = false := by simp; omega
  clear ht
  go_enter Tryd.func17, Tryd.ntmps17
  go_wp2_with fail
  refine (check_yes n m _ hn hm).mono ?_; rintro e w1 ⟨rfl, b1⟩
  have HP := hide ((Pair.new w 23).below b1)
  obtain ⟨c0, c1, f0, f1, z0⟩ := HP.out
  go_wp2_with fail
  go_loopw [16] (fun i wr => ∃ k : Nat, k ≤ n ∧ i = .int .i64 k ∧ Pair wr w.heap.size (.int .i64 n) (.int .i64 m) ∧ (∃ f, Row wr w1.heap.size n f ∧ ∀ j, j < k → f j = (letter m j).toNat) ∧ Tab wr ∧ Below w.heap.size w wr) (fun i _ => n - (intOf i).toNat)
  case atStart => exact ⟨0, Nat.zero_le _, rfl, HP.out.alloc _, ⟨_, Row.new w1 n, fun j hj => by omega⟩, (HT.out.below (below_new b1)).below (below_box _ _), below_step (below_new b1) (below_box _ _)⟩
  case round =>
    clear c0 c1 f0 f1
    obtain ⟨k, hk, rfl, HQ, ⟨f, HR, HF⟩, HTr, HB⟩ := hrel
    replace HQ := hide HQ
    replace HR := hide HR
    replace HF := hide HF
    replace HTr := hide HTr
    replace HB := hide HB
    by_cases hlt : k < n
    · have hlt' : (k : Int) < n := by omega
      obtain ⟨rk, fk⟩ := HR.out.2 k hlt
      obtain ⟨c0, c1, f0, f1, z1⟩ := HQ.out.far (h := w1.heap.size) (by omega) k (.int .u8 105)
      have HR2 := hide (HR.out.put hlt 105)
      have HT2 := hide (HTr.out.far (g := w1.heap.size) (by omega) k (.int .u8 105))
      have HQ2 := hide (HQ.out.far (h := w1.heap.size) (by omega) k (.int .u8 105))
      have HB2 := hide (HB.out.setCell (p := ⟨w1.heap.size, k, none⟩) (Nat.le_of_lt z0) (.int .u8 105))
      have HH := hide (has_in (m := m) hlt)
      cases hb : bit m k with
      | true =>
        have HL : Hid (letter m k = 112) := hide ((letter_112 m k).2 hb)
        rw [hb] at HH
        go_wp2_with fail
        refine (pointer_any n m k _ hn hm HT2.out).mono ?_; rintro e w2 ⟨rfl, b2⟩
        rw [HH.out]
        have HR3 := hide (HR2.out.below b2)
        obtain ⟨rk2, fk2⟩ := HR3.out.2 k hlt
        go_wp2_with fail
        go_roundw
        case rel =>
          exact ⟨k + 1, by omega, by go_num, (HQ2.out.below b2).far (by omega) _ _, ⟨_, HR3.out.put hlt 112, fun j hj => by
            by_cases e : j = k
            · subst e; simp [HL.out]
            · simp only [e, if_false]; exact HF.out j (by omega)⟩, (HT2.out.below b2).far (by omega) _ _, (below_on HB2.out b2).setCell (Nat.le_of_lt z0) _⟩
        case measure => simp [intOf]; omega
      | false =>
        have HL : Hid (letter m k = 105) := hide (by unfold letter; rw [hb]; rfl)
        rw [hb] at HH
        go_wp2_with fail
        refine (pointer_any n m k _ hn hm HT2.out).mono ?_; rintro e w2 ⟨rfl, b2⟩
        rw [HH.out]
        go_wp2_with fail
        go_roundw
        case rel =>
          exact ⟨k + 1, by omega, by go_num, HQ2.out.below b2, ⟨_, HR2.out.below b2, fun j hj => by
            by_cases e : j = k
            · subst e; simp [HL.out]
            · simp only [e, if_false]; exact HF.out j (by omega)⟩, HT2.out.below b2, below_on HB2.out b2⟩
        case measure => simp [intOf]; omega
    · have : k = n := by omega
      subst this
      have hcv := conv_row HR.out HF.out
      go_wp2_with fail
      go_ret
      exact ⟨rfl, HB.out⟩

/-- The letters of a shape. -/
def printed (n m : Nat) : ByteArray := if n = 0 then ⟨#[46]⟩ else ⟨(letters m n).toArray⟩
theorem printed_zero (m : Nat) : printed 0 m = ⟨#[46]⟩ := rfl
theorem printed_pos {n : Nat} (m : Nat) (h : n ≠ 0) : printed n m = ⟨(letters m n).toArray⟩ := by unfold printed; rw [if_neg h]
theorem ret_str {a b : ByteArray} (h : a = b) : Ending.returned (.string a) = .returned (.string b) := by rw [h]
theorem cat_one (l : List UInt8) (x : UInt8) : (⟨l.toArray⟩ : ByteArray) ++ ⟨#[x]⟩ = ⟨(l ++ [x]).toArray⟩ := by
  apply ByteArray.ext
  simp
theorem list_size (l : List UInt8) : (ByteArray.mk l.toArray).size = l.length := by show l.toArray.size = _; simp
theorem cat_size {t : ByteArray} {k : Nat} {x : UInt8} (h : t.size = k) : (t ++ ⟨#[x]⟩).size = k + 1 := by
  rw [ByteArray.size_append, h]; rfl
theorem cat_letter {t : ByteArray} {m k : Nat} {x : UInt8} (h : t = ⟨(letters m k).toArray⟩) (hx : letter m k = x) : Hid (t ++ ⟨#[x]⟩ = ⟨(letters m (k + 1)).toArray⟩) :=
  hide (by rw [h, cat_one, letters_succ, hx])
set_option maxHeartbeats 400000 in
theorem refPrint_any (n m : Nat) (w : World) (hn : n ≤ 16) (hm : m < 2 ^ n) :
    Calls Tryd.prog 18 #[.agg #[.int .i64 n, .int .i64 m]] w fun e w' => e = .returned (.string (printed n m)) ∧ Below w.heap.size w w' := by
  go_enter Tryd.func18, Tryd.ntmps18
  go_wp2_with fail
  go_loopw [3, 4] (fun o i wr => ∃ (k : Nat) (t : ByteArray), k ≤ n ∧ i = .int .i64 k ∧ o = .string t ∧ t.size = k ∧ Hid (t = ⟨(letters m k).toArray⟩) ∧ Pair wr w.heap.size (.int .i64 n) (.int .i64 m) ∧ Below w.heap.size w wr) (fun _ i _ => n - (intOf i).toNat)
  case atStart => exact ⟨0, ⟨#[]⟩, Nat.zero_le _, rfl, rfl, rfl, rfl, Pair.new w 23, below_box _ _⟩
  case round =>
    obtain ⟨k, t, hk, rfl, rfl, hts, HE, HP, HB⟩ := hrel
    replace HB := hide HB
    have HQ := hide HP
    obtain ⟨c0, c1, f0, f1, z0⟩ := HP
    by_cases hlt : k < n
    · have HH := hide (has_in (m := m) hlt)
      have hts' : t.size ≤ 16 := by omega
      replace hts := hide hts
      cases hb : bit m k with
      | true =>
        have HL : Hid (letter m k = 112) := hide ((letter_112 m k).2 hb)
        rw [hb] at HH
        go_wp2_with fail
        refine (refPointer_any n m k _ hn hm).mono ?_; rintro e w1 ⟨rfl, b1⟩
        rw [HH.out]
        go_wp2_with fail
        go_roundw
        case rel => exact ⟨k + 1, _, by omega, by go_num, rfl, cat_size hts.out, cat_letter HE.out HL.out, HQ.out.below b1, below_on HB.out b1⟩
        case measure => simp [intOf]; omega
      | false =>
        have HL : Hid (letter m k = 105) := hide (by unfold letter; rw [hb]; rfl)
        rw [hb] at HH
        go_wp2_with fail
        refine (refPointer_any n m k _ hn hm).mono ?_; rintro e w1 ⟨rfl, b1⟩
        rw [HH.out]
        go_wp2_with fail
        go_roundw
        case rel => exact ⟨k + 1, _, by omega, by go_num, rfl, cat_size hts.out, cat_letter HE.out HL.out, HQ.out.below b1, below_on HB.out b1⟩
        case measure => simp [intOf]; omega
    · have : k = n := by omega
      subst this
      by_cases h0 : k = 0
      · have he := empty_true t (by omega)
        go_wp2_with fail
        go_ret
        exact ⟨ret_str (by rw [h0]; rfl), HB.out⟩
      · have he := empty_false t (by omega)
        go_wp2_with fail
        go_ret
        exact ⟨ret_str (by rw [printed_pos m h0, ← HE.out]), HB.out⟩

theorem print_any (n m : Nat) (w : World) (hn : n ≤ 16) (hm : m < 2 ^ n) (ht : Tab w) :
    Calls Tryd.prog 17 #[.agg #[.int .i64 n, .int .i64 m]] w fun e w' => e = .returned (.string (printed n m)) ∧ Below w.heap.size w w' := by
  by_cases h : n = 0
  · subst h
    obtain rfl : m = 0 := by simpa using hm
    exact print_zero w
  · rw [printed_pos m h]; exact print_pos n m w (by omega) hn hm ht
/-- A shape's letters are read as it. -/
theorem read_printed {n m : Nat} (hn : n ≤ 16) (hm : m < 2 ^ n) : readS (printed n m) = .tuple #[.agg #[.int .i64 n, .int .i64 m], .int .i64 0] := by
  by_cases h : n = 0
  · subst h
    obtain rfl : m = 0 := by simpa using hm
    unfold readS printed
    rw [if_pos rfl, if_pos (by simp)]
    rfl
  · rw [printed_pos m h]; exact readS_letters (by omega) hn hm
/-- What is read as a shape has just its letters. -/
theorem read_back (s : ByteArray) : (∃ n m : Nat, readS s = .tuple #[.agg #[.int .i64 n, .int .i64 m], .int .i64 0] ∧ n ≤ 16 ∧ m < 2 ^ n ∧ printed n m = s) ∨ readS s = .tuple #[.agg #[.int .i64 0, .int .i64 0], .int .i64 16] := by
  rcases readS_cases s with ⟨n, m, h1, h2, h3, h4⟩ | h
  · refine .inl ⟨n, m, h1, h2, h3, ?_⟩
    rcases h4 with ⟨rfl, h4⟩ | ⟨h4, h5⟩
    · rw [printed_zero]; apply ByteArray.ext; apply Array.ext'; exact h4.symm
    · rw [printed_pos m (by omega), h5]
  · exact .inr h
end Go.Proofs.YtaeimaljegegoaaDoor
