/- Contracts of elder functions that layer 6 calls, carried over to this dump. -/
import Derived.Laws.BitsLemmas
import Derived.Laws.BitsAllLaws
import Derived.RowKit
import Derived.Test.YtahhbckccdigoaaGreatDoorProg
import Derived.WalkKit
import Derived.WalkSpells
import Derived.WalkSmall
import Derived.WalkLawsBesides
import Derived.KernelRfl
import Derived.Below
import Derived.Deep.QuietTactic
import Derived.BigQuiet
import Derived.RegionTactic
import Derived.BigRegion
set_option maxHeartbeats 8000000
set_option maxRecDepth 20000
namespace Go.Proofs.YtahhbckccdigoaaGreatDoor.L3
open Go
open Go Go.RowKit
def pw (k : Nat) : Int := ((2 ^ k : Nat) : Int)
def bit (m k : Nat) : Bool := m.testBit k
def letter (m k : Nat) : UInt8 := if bit m k then 112 else 105
def letters (m n : Nat) : List UInt8 := (List.range n).map (letter m)
def isL (c : UInt8) : Bool := c == 105 || c == 112
def allL (l : List UInt8) : Bool := l.all isL
def mask (l : List UInt8) : Nat -> Nat
  | 0 => 0
  | k + 1 => mask l k + if l[k]? = some 112 then 2 ^ k else 0
def may (s m : Int) : Bool := decide (0 <= s /\ s <= 16 /\ 0 <= m /\ m < pw s.toNat)
theorem pw_nat (k : Nat) : pw k = ((2 ^ k : Nat) : Int) := rfl
theorem mask_lt (l : List UInt8) : ∀ k, mask l k < 2 ^ k
  | 0 => by simp [mask]
  | k + 1 => by
    have := mask_lt l k
    rw [mask, Nat.pow_succ]; split <;> omega
theorem or_pow {m k : Nat} (h : m < 2 ^ k) : m ||| 2 ^ k = m + 2 ^ k := by
  rw [Nat.or_comm, nat_join k (2 ^ k) m (Nat.mod_self _) h, Nat.add_comm]
theorem wraps_i64 : ∀ n : Int, 0 <= n -> n < 2 ^ 17 -> IntKind.i64.wrap n = n := by
  intro n h0 h1
  have : (2 : Int) ^ 17 = 131072 := by decide
  simp [IntKind.wrap, IntKind.bits, IntKind.signed]
  omega
theorem or_bits {m k : Nat} (hk : k < 16) (h : m < 2 ^ k) : bits .or .i64 (m : Int) (pw k) = ((m + 2 ^ k : Nat) : Int) := by
  have h16 : 2 ^ k <= 2 ^ 16 := Nat.pow_le_pow_right (by decide) (by omega)
  have : (2 : Nat) ^ 16 < 2 ^ 17 := by decide
  rw [pw_nat, (bits_nat .i64 17 (by decide) wraps_i64 m (2 ^ k) (by omega) (by omega)).2, or_pow h]
theorem hide {p : Prop} (h : p) : Hid p := h
theorem below_box (w : World) (o : Obj) : Below w.heap.size w (w.alloc o) := (Below.refl _ _).alloc (Nat.le_refl _) _
theorem below_put2 {w w1 : World} (h : Below w.heap.size w w1) (u v : Value) : Below w.heap.size w ((w1.setCell ⟨w.heap.size, 0, none⟩ u).setCell ⟨w.heap.size, 1, none⟩ v) := (h.setCell (by simp) _).setCell (by simp) _
def Pair (w : World) (g : Nat) (a b : Value) : Prop :=
  w.cell? ⟨g, 0, none⟩ = some a /\ w.cell? ⟨g, 1, none⟩ = some b /\ w.frozen? ⟨g, 0, none⟩ = false /\ w.frozen? ⟨g, 1, none⟩ = false /\ g < w.heap.size
theorem Pair.new (w : World) (t : TypeId) {a b : Value} : Pair (w.alloc (.cells #[a, b] t)) w.heap.size a b := by
  refine ⟨?_, ?_, ?_, ?_, by simp⟩ <;> simp [go_sem]
theorem Pair.below {w w1 : World} {g : Nat} {a b : Value} (h : Pair w g a b) (hb : Below w.heap.size w w1) : Pair w1 g a b := by
  obtain ⟨c0, c1, f0, f1, z⟩ := h
  exact ⟨(hb.cell z).trans c0, (hb.cell z).trans c1, (hb.frozen z).trans f0, (hb.frozen z).trans f1, Nat.lt_of_lt_of_le z hb.size⟩
theorem Pair.alloc {w : World} {g : Nat} {a b : Value} (h : Pair w g a b) (o : Obj) : Pair (w.alloc o) g a b := h.below (below_box w o)
def Tab (w : World) : Prop := 1 < w.heap.size /\ ∀ k, k < 16 -> w.cell? ⟨1, k, none⟩ = some (.int .i64 (pw k))
theorem Tab.below {w w' : World} (h : Tab w) (b : Below w.heap.size w w') : Tab w' :=
  ⟨Nat.lt_of_lt_of_le h.1 b.size, fun k hk => (b.cell h.1).trans (h.2 k hk)⟩
theorem Pair.put1 {w : World} {g : Nat} {a b : Value} (h : Pair w g a b) (u : Value) : Pair (w.setCell ⟨g, 1, none⟩ u).drew g a u := by
  obtain ⟨c0, c1, f0, f1, z⟩ := h
  refine ⟨?_, ?_, ?_, ?_, ?_⟩
  . show (w.setCell ⟨g, 1, none⟩ u).cell? ⟨g, 0, none⟩ = _
    rw [World.cell?_setCell_other _ _ _ _ (by simp)]; exact c0
  . exact World.cell?_setCell_same _ _ _ c1
  . show (w.setCell ⟨g, 1, none⟩ u).frozen? ⟨g, 0, none⟩ = _
    rw [World.frozen?_setCell]; exact f0
  . show (w.setCell ⟨g, 1, none⟩ u).frozen? ⟨g, 1, none⟩ = _
    rw [World.frozen?_setCell]; exact f1
  . show g < (w.setCell ⟨g, 1, none⟩ u).heap.size
    simpa using z
theorem Pair.other {w : World} {g h : Nat} {a b : Value} (p : Pair w g a b) (hg : g ≠ h) (j : Nat) (u : Value) : Pair (w.setCell ⟨h, j, none⟩ u).drew g a b := by
  obtain ⟨c0, c1, f0, f1, z⟩ := p
  refine ⟨?_, ?_, ?_, ?_, ?_⟩
  . show (w.setCell ⟨h, j, none⟩ u).cell? ⟨g, 0, none⟩ = _
    rw [World.cell?_setCell_other _ _ _ _ (fun e => hg (congrArg Addr.block e).symm)]; exact c0
  . show (w.setCell ⟨h, j, none⟩ u).cell? ⟨g, 1, none⟩ = _
    rw [World.cell?_setCell_other _ _ _ _ (fun e => hg (congrArg Addr.block e).symm)]; exact c1
  . show (w.setCell ⟨h, j, none⟩ u).frozen? ⟨g, 0, none⟩ = _
    rw [World.frozen?_setCell]; exact f0
  . show (w.setCell ⟨h, j, none⟩ u).frozen? ⟨g, 1, none⟩ = _
    rw [World.frozen?_setCell]; exact f1
  . show g < (w.setCell ⟨h, j, none⟩ u).heap.size
    simpa using z
theorem size_len (s : ByteArray) : s.data.toList.length = s.size := by simp
theorem empty_true (s : ByteArray) (h : s.size = 0) : s.toList.isEmpty = true := by
  have : s.data.toList = [] := List.length_eq_zero_iff.1 (by rw [size_len]; exact h)
  rw [ByteArray.toList_eq, this]; rfl
theorem empty_false (s : ByteArray) (h : 0 < s.size) : s.toList.isEmpty = false := by
  rw [ByteArray.toList_eq]
  cases e : s.data.toList with
  | nil => have := size_len s; rw [e] at this; simp at this; omega
  | cons => rfl
theorem point_true (s : ByteArray) (h : s.data.toList = [46]) : (s.toList == [46]) = true := by
  rw [ByteArray.toList_eq, h]; rfl
theorem point_false (s : ByteArray) (h : s.data.toList ≠ [46]) : (s.toList == [46]) = false := by
  rw [ByteArray.toList_eq]; simpa using h
theorem at_list (s : ByteArray) (k : Nat) (h : k < s.size) : s.data.toList[k]? = some s[k] := by
  rw [List.getElem?_eq_getElem (by simpa using h)]; rfl
theorem toNat_eq_iff (c : UInt8) (k : Nat) (hk : k < 256) : c.toNat = k ↔ c = UInt8.ofNat k := by
  constructor
  . intro h; apply UInt8.toNat_inj.1; rw [h]; simp [UInt8.toNat_ofNat']; omega
  . rintro rfl; simp [UInt8.toNat_ofNat']; omega
theorem mask_i (s : ByteArray) (k : Nat) (h : k < s.size) (hc : ¬ (s[k].toNat : Int) = 112) : mask s.data.toList (k + 1) = mask s.data.toList k := by
  rw [mask, at_list s k h, if_neg, Nat.add_zero]
  intro e
  have : s[k] = 112 := Option.some.inj e
  exact hc (by rw [this]; rfl)
theorem mask_p (s : ByteArray) (k : Nat) (h : k < s.size) (hc : (s[k].toNat : Int) = 112) : mask s.data.toList (k + 1) = mask s.data.toList k + 2 ^ k := by
  rw [mask, at_list s k h, if_pos]
  rw [(toNat_eq_iff s[k] 112 (by decide)).1 (by omega)]; rfl
def Upto (s : ByteArray) (k : Nat) : Prop := ∀ j, j < k -> ∀ h : j < s.size, isL s[j] = true
theorem upto_zero (s : ByteArray) : Upto s 0 := fun j h => by omega
theorem upto_succ {s : ByteArray} {k : Nat} (h : Upto s k) (hk : k < s.size) (hc : (s[k].toNat : Int) = 105 \/ (s[k].toNat : Int) = 112) : Upto s (k + 1) := by
  intro j hj hs
  by_cases e : j < k
  . exact h j e hs
  . have : j = k := by omega
    subst this
    rcases hc with hc | hc
    . rw [(toNat_eq_iff s[j] 105 (by decide)).1 (by omega)]; rfl
    . rw [(toNat_eq_iff s[j] 112 (by decide)).1 (by omega)]; rfl
theorem upto_all {s : ByteArray} (h : Upto s s.size) : allL s.data.toList = true := by
  unfold allL
  rw [List.all_eq_true]
  intro c hc
  obtain ⟨j, hj, rfl⟩ := List.mem_iff_getElem.1 hc
  have hj' : j < s.size := by simpa using hj
  exact h j hj' hj'
theorem all_no {s : ByteArray} {k : Nat} (hk : k < s.size) (h1 : ¬ (s[k].toNat : Int) = 105) (h2 : ¬ (s[k].toNat : Int) = 112) : allL s.data.toList = false := by
  rw [Bool.eq_false_iff]
  intro h
  have := List.all_eq_true.1 h s[k] (List.mem_of_getElem? (at_list s k hk))
  unfold isL at this
  simp only [Bool.or_eq_true, beq_iff_eq] at this
  rcases this with e | e
  . exact h1 (by rw [e]; rfl)
  . exact h2 (by rw [e]; rfl)
def readL (l : List UInt8) : Value :=
  if allL l then .tuple #[.agg #[.int .i64 l.length, .int .i64 (mask l l.length)], .int .i64 0] else .tuple #[.agg #[.int .i64 0, .int .i64 0], .int .i64 16]
theorem readL_yes {s : ByteArray} (h : Upto s s.size) : readL s.data.toList = .tuple #[.agg #[.int .i64 s.size, .int .i64 (mask s.data.toList s.size)], .int .i64 0] := by
  unfold readL; rw [upto_all h, size_len]; rfl
theorem readL_no {s : ByteArray} {k : Nat} (hk : k < s.size) (h1 : ¬ (s[k].toNat : Int) = 105) (h2 : ¬ (s[k].toNat : Int) = 112) : readL s.data.toList = .tuple #[.agg #[.int .i64 0, .int .i64 0], .int .i64 16] := by
  unfold readL; rw [all_no hk h1 h2]; rfl
theorem pair_start (w : World) (s : ByteArray) : Pair ((w.alloc (.cells #[.int .i64 0, .int .i64 0] 65)).alloc (.cells #[.int .i64 s.size, .int .i64 0] 65)) (w.heap.size + 1) (.int .i64 s.size) (.int .i64 (mask s.data.toList 0)) := by
  have h := Pair.new (w.alloc (.cells #[.int .i64 0, .int .i64 0] 65)) 65 (a := .int .i64 s.size) (b := .int .i64 0)
  rw [show (w.alloc (.cells #[.int .i64 0, .int .i64 0] 65)).heap.size = w.heap.size + 1 from by simp] at h
  exact h
theorem parse_point (s : ByteArray) (w : World) (h : s.data.toList = [46]) :
    Calls Tryz.prog 73 #[.string s] w fun e w' => e = .returned (.tuple #[.agg #[.int .i64 0, .int .i64 0], .int .i64 0]) /\ Below w.heap.size w w' := by
  have hp := point_true s h
  clear h
  go_enter Tryz.func73, Tryz.ntmps73
  go_wp2_with fail
  exact bodyPost_ret (v := .tuple #[.agg #[.int .i64 0, .int .i64 0], .int .i64 0]) (by simp [results, Tryz.results73, go_sem]) rfl ⟨rfl, below_box _ _⟩
theorem parse_empty (s : ByteArray) (w : World) (h : s.size = 0) :
    Calls Tryz.prog 73 #[.string s] w fun e w' => e = .returned (.tuple #[.agg #[.int .i64 0, .int .i64 0], .int .i64 16]) /\ Below w.heap.size w w' := by
  have hp := point_false s (fun e => by have := size_len s; rw [e] at this; simp at this; omega)
  have he := empty_true s h
  clear h
  go_enter Tryz.func73, Tryz.ntmps73
  go_wp2_with fail
  exact bodyPost_ret (v := .tuple #[.agg #[.int .i64 0, .int .i64 0], .int .i64 16]) (by simp [results, Tryz.results73, go_sem]) rfl ⟨rfl, below_box _ _⟩
theorem parse_long (s : ByteArray) (w : World) (h : 16 < s.size) :
    Calls Tryz.prog 73 #[.string s] w fun e w' => e = .returned (.tuple #[.agg #[.int .i64 0, .int .i64 0], .int .i64 16]) /\ Below w.heap.size w w' := by
  have hp := point_false s (fun e => by have := size_len s; rw [e] at this; simp at this; omega)
  have he := empty_false s (by omega)
  go_enter Tryz.func73, Tryz.ntmps73
  go_wp2_with fail
  exact bodyPost_ret (v := .tuple #[.agg #[.int .i64 0, .int .i64 0], .int .i64 16]) (by simp [results, Tryz.results73, go_sem]) rfl ⟨rfl, below_box _ _⟩
theorem parse_letters (s : ByteArray) (w : World) (h0 : 0 < s.size) (h1 : s.size <= 16) (hs : s.data.toList ≠ [46]) (ht : Tab w) :
    Calls Tryz.prog 73 #[.string s] w fun e w' => e = .returned (readL s.data.toList) /\ Below w.heap.size w w' := by
  have hp := point_false s hs
  have he := empty_false s h0
  have HT := hide ht
  clear hs ht
  go_enter Tryz.func73, Tryz.ntmps73
  go_wp2_with fail
  go_loopw [22] (fun i wr => ∃ k : Nat, k <= s.size /\ i = .int .i64 k /\ Upto s k /\ Pair wr w.heap.size (.int .i64 0) (.int .i64 0) /\ Pair wr (w.heap.size + 1) (.int .i64 s.size) (.int .i64 (mask s.data.toList k)) /\ Below w.heap.size w wr) (fun i _ => s.size - (intOf i).toNat)
  case atStart =>
    exact ⟨0, Nat.zero_le _, rfl, upto_zero s, (Pair.new w 65).alloc _, pair_start w s, (below_box _ _).alloc (by simp) _⟩
  case round =>
    obtain ⟨k, hk, rfl, HU, HR, HX, HB⟩ := hrel
    have HU := hide HU
    have HR := hide HR
    have HX := hide HX
    have HB := hide HB
    by_cases hlt : k < s.size
    . have hlt' : (k : Int) < s.size := by omega
      by_cases hc : (s[k].toNat : Int) = 105
      . have HM := hide (mask_i s k hlt (by omega))
        go_wp2_with fail
        go_roundw
        case rel => exact ⟨k + 1, by omega, by go_num, upto_succ HU.out hlt (.inl hc), HR.out, by rw [HM.out]; exact HX.out, HB.out⟩
        case measure => simp [intOf]; omega
      . by_cases hc2 : (s[k].toNat : Int) = 112
        . have HM := hide (mask_p s k hlt hc2)
          have hk16 : (k : Int) < 16 := by omega
          obtain ⟨x0, x1, y0, y1, z1⟩ := HX.out
          have tb := (HT.out.below HB.out).2 k (by omega)
          have HO := hide (or_bits (k := k) (by omega) (mask_lt s.data.toList k))
          go_wp2_with fail
          go_region
          go_wp2_with fail
          go_roundw
          case rel => exact ⟨k + 1, by omega, by go_num, upto_succ HU.out hlt (.inr hc2), HR.out.other (by omega) _ _, by rw [HM.out, <- HO.out]; exact HX.out.put1 _, (HB.out.setCell (by simp) _).drew⟩
          case measure => simp [intOf]; omega
        . have HM := hide (readL_no hlt hc hc2)
          obtain ⟨c0, c1, f0, f1, z1⟩ := HR.out
          go_wp2_with fail
          exact bodyPost_ret (v := .tuple #[.agg #[.int .i64 0, .int .i64 0], .int .i64 16]) (by simp [results, Tryz.results73, go_sem, c0, c1]) rfl ⟨by rw [HM.out], below_put2 HB.out _ _⟩
    . have : k = s.size := by omega
      subst this
      have HM := hide (readL_yes HU.out)
      obtain ⟨c0, c1, f0, f1, z1⟩ := HR.out
      obtain ⟨x0, x1, y0, y1, z1⟩ := HX.out
      go_wp2_with fail
      exact bodyPost_ret (v := .tuple #[.agg #[.int .i64 s.size, .int .i64 (mask s.data.toList s.size)], .int .i64 0]) (by simp [results, Tryz.results73, go_sem, c0, c1]) rfl ⟨by rw [HM.out], below_put2 HB.out _ _⟩
def readS (s : ByteArray) : Value :=
  if s.data.toList = [46] then .tuple #[.agg #[.int .i64 0, .int .i64 0], .int .i64 0]
  else if s.size = 0 \/ 16 < s.size then .tuple #[.agg #[.int .i64 0, .int .i64 0], .int .i64 16]
  else readL s.data.toList
theorem parse_all (s : ByteArray) (w : World) (ht : Tab w) :
    Calls Tryz.prog 73 #[.string s] w fun e w' => e = .returned (readS s) /\ Below w.heap.size w w' := by
  unfold readS
  by_cases hp : s.data.toList = [46]
  . rw [if_pos hp]; exact parse_point s w hp
  rw [if_neg hp]
  by_cases h0 : s.size = 0
  . rw [if_pos (.inl h0)]; exact parse_empty s w h0
  by_cases h1 : 16 < s.size
  . rw [if_pos (.inr h1)]; exact parse_long s w h1
  rw [if_neg (by omega)]; exact parse_letters s w (by omega) (by omega) hp ht
end Go.Proofs.YtahhbckccdigoaaGreatDoor.L3
