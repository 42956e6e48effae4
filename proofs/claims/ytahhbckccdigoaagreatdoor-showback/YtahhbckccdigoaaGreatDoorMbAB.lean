/- Two contracts of the library's, laid at this program by the shelf's own command: strings.CutPrefix at any two strings, strconv.FormatInt at base 10 at any number of 64 bits, where the table of powers of ten reads as the program's text lays it. -/
import Derived.Shelf.Small.Wraps
import Derived.Shelf.LaysM
import Derived.Shelf.Strconv.Itoa4
import Derived.Test.YtahhbckccdigoaaGreatDoorProg
import Derived.KernelRfl
import Derived.Below
import Derived.WalkKit
import Derived.WalkSpells
import Derived.WalkSmall
import Derived.WalkLawsBesides
set_option maxHeartbeats 8000000
set_option maxRecDepth 20000
namespace Go.Proofs
open Go.Shelf
def Tryz.lays103_ren : Go.Shelf.Ren := ⟨fun | 103 => 148 | 210 => 165 | 206 => 172 | n => n, fun | 9 => 9 | 4 => 4 | 24 => 158 | 3 => 3 | n => n, fun | n => n⟩
theorem Tryz.lays103 : Go.Proofs.Lays.n103 Tryz.prog Tryz.lays103_ren := {
  mixed := by kernel_rfl
  f103 := Tryz.func148.trans (congrArg some (by kernel_rfl))
  f206 := Tryz.func172.trans (congrArg some (by kernel_rfl))
  f210 := Tryz.func165.trans (congrArg some (by kernel_rfl))
  t3 := Tryz.underlying3
  a3 := Tryz.isAgg3
  z3 := Tryz.sizeOf3
  v3 := Tryz.zeroValue3
  t4 := Tryz.underlying4
  a4 := Tryz.isAgg4
  z4 := Tryz.sizeOf4
  v4 := Tryz.zeroValue4
  t9 := Tryz.underlying9
  a9 := Tryz.isAgg9
  z9 := Tryz.sizeOf9
  v9 := Tryz.zeroValue9
  t24 := Tryz.underlying158
  a24 := Tryz.isAgg158
  z24 := Tryz.sizeOf158
  v24 := Tryz.zeroValue158 }
open Go.RowKit in
theorem Tryz.strings_CutPrefix (s p : ByteArray) (w : World) :
    Calls Tryz.prog 148 #[.string s, .string p] w fun e w' => e = .returned (.tuple #[.string ⟨(Lib.trimPrefix s.data.toList p.data.toList).toArray⟩, .bool (Lib.hasPrefix s.data.toList p.data.toList)]) /\ w' = w := Any.strings_CutPrefix Tryz.lays103 s p w
def Tryz.laysM173_ren : Go.Shelf.Ren := ⟨fun | 173 => 98 | 246 => 107 | 283 => 119 | 284 => 120 | 285 => 121 | 286 => 122 | 129 => 134 | 317 => 133 | 318 => 135 | 319 => 136 | 320 => 137 | 337 => 146 | 338 => 147 | n => n, fun | 2 => 2 | 3 => 3 | 9 => 9 | 4 => 4 | 171 => 132 | 0 => 0 | 53 => 133 | 37 => 90 | 5 => 5 | 173 => 136 | 212 => 143 | 51 => 144 | 20 => 20 | 213 => 145 | 46 => 146 | 232 => 162 | 233 => 163 | n => n, fun | 17 => 3 | 18 => 4 | 19 => 5 | n => n⟩
theorem Tryz.laysM173 : Go.Proofs.LaysM.n173 Tryz.prog Tryz.laysM173_ren := {
  mixed := by kernel_rfl
  f129 := Tryz.func134.trans (congrArg some (by kernel_rfl))
  f173 := Tryz.func98.trans (congrArg some (by kernel_rfl))
  f246 := Tryz.func107.trans (congrArg some (by kernel_rfl))
  f283 := Tryz.func119.trans (congrArg some (by kernel_rfl))
  f284 := Tryz.func120.trans (congrArg some (by kernel_rfl))
  f285 := Tryz.func121.trans (congrArg some (by kernel_rfl))
  f286 := Tryz.func122.trans (congrArg some (by kernel_rfl))
  f317 := Tryz.func133.trans (congrArg some (by kernel_rfl))
  f318 := Tryz.func135.trans (congrArg some (by kernel_rfl))
  f319 := Tryz.func136.trans (congrArg some (by kernel_rfl))
  f320 := Tryz.func137.trans (congrArg some (by kernel_rfl))
  f337 := Tryz.func146.trans (congrArg some (by kernel_rfl))
  f338 := Tryz.func147.trans (congrArg some (by kernel_rfl))
  t0 := Tryz.underlying0
  a0 := Tryz.isAgg0
  z0 := Tryz.sizeOf0
  v0 := Tryz.zeroValue0
  t2 := Tryz.underlying2
  a2 := Tryz.isAgg2
  z2 := Tryz.sizeOf2
  v2 := Tryz.zeroValue2
  t3 := Tryz.underlying3
  a3 := Tryz.isAgg3
  z3 := Tryz.sizeOf3
  v3 := Tryz.zeroValue3
  t4 := Tryz.underlying4
  a4 := Tryz.isAgg4
  z4 := Tryz.sizeOf4
  v4 := Tryz.zeroValue4
  t5 := Tryz.underlying5
  a5 := Tryz.isAgg5
  z5 := Tryz.sizeOf5
  v5 := Tryz.zeroValue5
  t9 := Tryz.underlying9
  a9 := Tryz.isAgg9
  z9 := Tryz.sizeOf9
  v9 := Tryz.zeroValue9
  t20 := Tryz.underlying20
  a20 := Tryz.isAgg20
  z20 := Tryz.sizeOf20
  v20 := Tryz.zeroValue20
  t37 := Tryz.underlying90
  a37 := Tryz.isAgg90
  z37 := Tryz.sizeOf90
  v37 := Tryz.zeroValue90
  t46 := Tryz.underlying146
  a46 := Tryz.isAgg146
  z46 := Tryz.sizeOf146
  v46 := Tryz.zeroValue146
  t51 := Tryz.underlying144
  a51 := Tryz.isAgg144
  z51 := Tryz.sizeOf144
  v51 := Tryz.zeroValue144
  t53 := Tryz.underlying133
  a53 := Tryz.isAgg133
  z53 := Tryz.sizeOf133
  v53 := Tryz.zeroValue133
  t171 := Tryz.underlying132
  a171 := Tryz.isAgg132
  z171 := Tryz.sizeOf132
  v171 := Tryz.zeroValue132
  t173 := Tryz.underlying136
  a173 := Tryz.isAgg136
  z173 := Tryz.sizeOf136
  v173 := Tryz.zeroValue136
  t212 := Tryz.underlying143
  a212 := Tryz.isAgg143
  z212 := Tryz.sizeOf143
  v212 := Tryz.zeroValue143
  t213 := Tryz.underlying145
  a213 := Tryz.isAgg145
  z213 := Tryz.sizeOf145
  t232 := Tryz.underlying162
  a232 := Tryz.isAgg162
  z232 := Tryz.sizeOf162
  v232 := Tryz.zeroValue162
  t233 := Tryz.underlying163
  a233 := Tryz.isAgg163
  z233 := Tryz.sizeOf163
  v233 := Tryz.zeroValue163
  g17 := by kernel_rfl
  g18 := by kernel_rfl
  g19 := by kernel_rfl
  i0 := by kernel_rfl
  i2 := by kernel_rfl
  i3 := by kernel_rfl
  i4 := by kernel_rfl
  i5 := by kernel_rfl
  i9 := by kernel_rfl
  i20 := by kernel_rfl
  i37 := by kernel_rfl
  i46 := by kernel_rfl
  i51 := by kernel_rfl
  i53 := by kernel_rfl
  i171 := by kernel_rfl
  i173 := by kernel_rfl
  i212 := by kernel_rfl
  i232 := by kernel_rfl
  i233 := by kernel_rfl
  m17 := by kernel_rfl
  m18 := by kernel_rfl
  m19 := by kernel_rfl }
open Go.RowKit Go.Sort Go.Lib in
theorem Tryz.strconv_FormatInt_10 (n : Int) (h0 : -9223372036854775808 <= n) (h1 : n <= 9223372036854775807) (w : World) (htab : Lib.TabIs Tryz.prog w "internal/strconv.uint64pow10" .u64 Lib.pow10Tab) :
    Calls Tryz.prog 98 #[.int .i64 n, .int .i64 10] w fun e w' => e = .returned (.string ⟨(Lib.itoa n).toArray⟩) /\ ∃ k os, w' = grow (w.drewN k) os := Any.strconv_FormatInt_10 Tryz.laysM173 n h0 h1 w htab
end Go.Proofs
namespace Go.Proofs.YtahhbckccdigoaaGreatDoor.L1
open Go.RowKit
def isDig (c : UInt8) : Bool := decide (48 <= c.toNat) && decide (c.toNat <= 57)
def worth (l : List UInt8) : Nat := l.foldl (fun a c => a * 10 + (c.toNat - 48)) 0
def isNum (l : List UInt8) : Bool := !l.isEmpty && l.all isDig && (l.head? != some 48 || l.length == 1)
theorem isDig_iff (c : UInt8) : isDig c = true ↔ 48 <= c.toNat /\ c.toNat <= 57 := by simp [isDig]
theorem foldl_worth (l : List UInt8) (a : Nat) : l.foldl (fun a c => a * 10 + (c.toNat - 48)) a = a * 10 ^ l.length + worth l := by
  unfold worth
  induction l generalizing a with
  | nil => simp
  | cons c l ih =>
    simp only [List.foldl_cons, List.length_cons]
    rw [ih (a * 10 + (c.toNat - 48)), ih (0 * 10 + (c.toNat - 48))]
    rw [Nat.pow_succ, Nat.add_mul, Nat.zero_mul, Nat.zero_add, Nat.mul_assoc, Nat.mul_comm 10 (10 ^ l.length)]
    omega
theorem worth_append (a b : List UInt8) : worth (a ++ b) = worth a * 10 ^ b.length + worth b := by
  show (a ++ b).foldl _ 0 = _
  rw [List.foldl_append, foldl_worth b]
  rfl
theorem worth_one (c : UInt8) : worth [c] = c.toNat - 48 := by simp [worth]
theorem worth_snoc (l : List UInt8) (c : UInt8) : worth (l ++ [c]) = worth l * 10 + (c.toNat - 48) := by
  rw [worth_append, worth_one]; simp
def lowOf (l : List UInt8) : Bool := l.head? == some 45
def restOf (l : List UInt8) : List UInt8 := if lowOf l then l.tail else l
def readNum (l : List UInt8) : Int × Int :=
  if isNum (restOf l) = true /\ ¬ (lowOf l = true /\ restOf l = [48]) then
    if lowOf l = true then (if worth (restOf l) <= 9223372036854775808 then (- (worth (restOf l) : Int), 0) else (0, 18))
    else (if worth (restOf l) <= 9223372036854775807 then ((worth (restOf l) : Int), 0) else (0, 18))
  else (0, 3)
def indexNum (l : List UInt8) (most : Int) : Int × Int :=
  if (readNum l).2 ≠ 0 then (0, (readNum l).2) else if (readNum l).1 < 0 \/ most < (readNum l).1 then (0, 18) else ((readNum l).1, 0)
theorem readNum_range (l : List UInt8) : -9223372036854775808 <= (readNum l).1 /\ (readNum l).1 <= 9223372036854775807 := by
  unfold readNum
  split
  . split
    . split
      . simp only; omega
      . simp
    . split
      . simp only; omega
      . simp
  . simp
theorem hide {p : Prop} (h : p) : Hid p := h
theorem unhide {p : Prop} (h : Hid p) : p := h
theorem toNat_eq_iff (c : UInt8) (k : Nat) (hk : k < 256) : c.toNat = k ↔ c = UInt8.ofNat k := by
  constructor
  . intro h; apply UInt8.toNat_inj.1; rw [h]; simp [UInt8.toNat_ofNat']; omega
  . rintro rfl; simp [UInt8.toNat_ofNat']; omega
theorem head_at (s : ByteArray) (h : 0 < s.size) : s.data.toList.head? = some s[0] := by
  rw [List.head?_eq_getElem?, List.getElem?_eq_getElem (by simpa using h)]; rfl
theorem size_len (s : ByteArray) : s.data.toList.length = s.size := by simp
theorem empty_true (s : ByteArray) (h : s.size = 0) : s.toList.isEmpty = true /\ s.data.toList = [] := by
  have : s.data.toList = [] := List.length_eq_zero_iff.1 (by rw [size_len]; exact h)
  exact ⟨by rw [ByteArray.toList_eq, this]; rfl, this⟩
theorem empty_false (s : ByteArray) (h : 0 < s.size) : s.toList.isEmpty = false /\ s.data.toList.isEmpty = false := by
  have : s.data.toList.isEmpty = false := by
    cases e : s.data.toList with
    | nil => have := size_len s; rw [e] at this; simp at this; omega
    | cons => rfl
  exact ⟨by rw [ByteArray.toList_eq, this], this⟩
def fewB (l : List UInt8) (b : Bool) : Bool := !l.isEmpty && (l.head? != some 48 || (l.length == 1 && !b))
theorem fewB_at (s : ByteArray) (b : Bool) (h : 0 < s.size) : fewB s.data.toList b = (s[0] != 48 || (s.size == 1 && !b)) := by
  unfold fewB
  rw [(empty_false s h).2, head_at s h, size_len]
  simp [bne]
theorem few_any (s : ByteArray) (b : Bool) (w : World) (hmax : s.size <= maxLen) :
    Calls Tryz.prog 173 #[.string s, .bool b] w fun e w' => e = .returned (.bool (fewB s.data.toList b)) /\ w' = w := by
  unfold maxLen at hmax
  by_cases hp : s.size = 0
  . have he := (empty_true s hp).1
    go_enter Tryz.func173, Tryz.ntmps173
    go_wp2
    go_ret
    exact ⟨by rw [(empty_true s hp).2]; rfl, rfl⟩
  . have hp : 0 < s.size := by omega
    have he := (empty_false s hp).1
    have HF : Hid (fewB s.data.toList b = _) := fewB_at s b hp
    by_cases hc : (s[0].toNat : Int) = 48
    . have HC : Hid (s[0] = 48) := (toNat_eq_iff s[0] 48 (by decide)).1 (by omega)
      go_enter Tryz.func173, Tryz.ntmps173
      go_wp2
      all_goals
        go_ret
        refine ⟨?_, rfl⟩
        rw [HF.out, HC.out]
      . have : s.size = 1 := by omega
        simp [this]
      . have : s.size ≠ 1 := by omega
        simp [this]
    . have HC : Hid (s[0] ≠ 48) := fun h => hc (by rw [h]; rfl)
      go_enter Tryz.func173, Tryz.ntmps173
      go_wp2
      go_ret
      refine ⟨?_, rfl⟩
      rw [HF.out]
      simp [HC.out]
def distR (m : Int) (l : List UInt8) : Int × Int := if l.all isDig = true then (if (worth l : Int) <= m then ((worth l : Int), 0) else (0, 18)) else (0, 3)
def Dist (m : Int) (t : List UInt8) (n : Int) (b : Bool) : Prop := t.all isDig = true /\ (b = false -> n = (worth t : Int)) /\ (b = true -> m < (worth t : Int))
theorem take_one_more (s : ByteArray) (k : Nat) (h : k < s.size) : s.data.toList.take (k + 1) = s.data.toList.take k ++ [s[k]] := by
  rw [List.take_succ_eq_append_getElem (by simpa using h)]; rfl
theorem take_all (s : ByteArray) (k : Nat) (h : ¬ k < s.size) : s.data.toList.take k = s.data.toList := List.take_of_length_le (by rw [size_len]; omega)
theorem Dist.next {m : Int} {s : ByteArray} {k : Nat} {n : Int} {b : Bool} (h : Dist m (s.data.toList.take k) n b) (hk : k < s.size) (h1 : 48 <= (s[k].toNat : Int)) (h2 : (s[k].toNat : Int) <= 57) (n' : Int) (b' : Bool)
    (hf : b' = false -> b = false /\ n' = n * 10 + ((s[k].toNat : Int) - 48)) (ht : b' = true -> b = true /\ 0 <= m \/ b = false /\ m < n * 10 + ((s[k].toNat : Int) - 48)) : Dist m (s.data.toList.take (k + 1)) n' b' := by
  rw [take_one_more s k hk]
  have hd : isDig s[k] = true := (isDig_iff _).2 (by omega)
  refine ⟨by rw [List.all_append, h.1]; simp [hd], fun e => ?_, fun e => ?_⟩
  . obtain ⟨e1, e2⟩ := hf e
    rw [worth_snoc, e2, h.2.1 e1]
    omega
  . rw [worth_snoc]
    rcases ht e with ⟨e1, e2⟩ | ⟨e1, e2⟩
    . have := h.2.2 e1
      omega
    . rw [h.2.1 e1] at e2
      omega
theorem ret_two {k : IntKind} {j : IntKind} {a b c d : Int} (h : a = b) (h' : c = d) : Ending.returned (.tuple #[.int k a, .int j c]) = .returned (.tuple #[.int k b, .int j d]) := by rw [h, h']
theorem distR_bad {m : Int} (s : ByteArray) (k : Nat) (hk : k < s.size) (hd : ¬ (48 <= (s[k].toNat : Int) /\ (s[k].toNat : Int) <= 57)) : distR m s.data.toList = (0, 3) := by
  unfold distR
  rw [if_neg]
  intro h
  have := (isDig_iff _).1 (List.all_eq_true.1 h s[k] (by
    have : s.data.toList[k]? = some s[k] := by rw [List.getElem?_eq_getElem (by simpa using hk)]; rfl
    exact List.mem_of_getElem? this))
  omega
theorem dist_any (s : ByteArray) (m : Int) (w : World) (hmax : s.size <= maxLen) (hm0 : 100 <= m) (hm1 : m <= 9223372036854775808) :
    Calls Tryz.prog 174 #[.string s, .int .u64 m] w fun e w' => e = .returned (.tuple #[.int .u64 (distR m s.data.toList).1, .int .i64 (distR m s.data.toList).2]) /\ w' = w := by
  unfold maxLen at hmax
  go_enter Tryz.func174, Tryz.ntmps174
  go_wp2
  go_step3
  go_wp2
  go_step3
  go_wp2
  go_loop [6, 7, 12] (fun n b i => ∃ (k : Nat) (nn : Int) (bb : Bool), k <= s.size /\ i = .int .i64 k /\ n = .int .u64 nn /\ b = .bool bb /\ 0 <= nn /\ nn <= m /\ Dist m (s.data.toList.take k) nn bb) (fun _ _ i => s.size - (intOf i).toNat)
  case atStart => exact ⟨0, 0, false, Nat.zero_le _, rfl, rfl, rfl, by omega, by omega, by simp [Dist, worth]⟩
  case round =>
    obtain ⟨k, nn, bb, hk, rfl, rfl, rfl, hn0, hn1, HI⟩ := hrel
    by_cases hlt : k < s.size
    . have hbyte := s[k].toNat_lt
      have hms : s.size - (k + 1) < s.size - k := by omega
      by_cases hd : 48 <= (s[k].toNat : Int) /\ (s[k].toNat : Int) <= 57
      . obtain ⟨hd1, hd2⟩ := hd
        have HN := fun n' b' => HI.next (n' := n') (b' := b') hlt hd1 hd2
        have HNh := hide HN
        clear HN
        cases bb
        . go_wp2
          . exact ⟨⟨k + 1, nn, true, by omega, by go_num, rfl, rfl, hn0, hn1, (unhide HNh) _ _ (fun h => by cases h) (fun _ => .inr ⟨rfl, by omega⟩)⟩, by simp [intOf]; omega⟩
          . exact ⟨⟨k + 1, _, false, by omega, by go_num, rfl, rfl, by omega, by omega, (unhide HNh) _ _ (fun _ => ⟨rfl, rfl⟩) (fun h => by cases h)⟩, by simp [intOf]; omega⟩
        . go_wp2
          exact ⟨⟨k + 1, nn, true, by omega, by go_num, rfl, rfl, hn0, hn1, (unhide HNh) _ _ (fun h => by cases h) (fun _ => .inl ⟨rfl, by omega⟩)⟩, by simp [intOf]; omega⟩
      . have HB := hide (distR_bad (m := m) s k hlt hd)
        go_wp2
        go_ret2
        refine ⟨?_, rfl⟩
        rw [unhide HB]
        rfl
    . rw [take_all s k hlt] at HI
      cases bb
      . go_wp2
        go_ret2
        refine ⟨ret_two ?_ ?_, rfl⟩
        all_goals
          unfold distR
          rw [if_pos HI.1, if_pos (by rw [<- HI.2.1 rfl]; exact hn1)]
        exact HI.2.1 rfl
      . go_wp2
        go_ret2
        refine ⟨ret_two ?_ ?_, rfl⟩
        all_goals
          unfold distR
          rw [if_pos HI.1, if_neg (by have := HI.2.2 rfl; omega)]
theorem low_prefix (l : List UInt8) : Lib.hasPrefix l [45] = lowOf l := by
  unfold Lib.hasPrefix lowOf
  cases l with
  | nil => rfl
  | cons c r =>
    by_cases h : c = 45
    . subst h; simp [List.isPrefixOf]
    . have h' : ¬ (45 : UInt8) = c := fun e => h e.symm
      simp only [List.isPrefixOf, List.head?_cons, Bool.and_true]
      rw [beq_eq_false_iff_ne.2 h', beq_eq_false_iff_ne.2 (by simpa using h)]
theorem rest_prefix (l : List UInt8) : Lib.trimPrefix l [45] = restOf l := by
  unfold Lib.trimPrefix restOf
  rw [low_prefix]
  cases l <;> simp
theorem rest_len (l : List UInt8) : (restOf l).length <= l.length := by
  unfold restOf
  split
  . simp
  . exact Nat.le_refl _
theorem isNum_iff (l : List UInt8) : isNum l = true ↔ l.isEmpty = false /\ l.all isDig = true /\ (l.head? ≠ some 48 \/ l.length = 1) := by
  simp only [isNum, Bool.and_eq_true, Bool.or_eq_true, bne_iff_ne, beq_iff_eq, Bool.not_eq_true']
  exact ⟨fun h => ⟨h.1.1, h.1.2, h.2⟩, fun h => ⟨⟨h.1, h.2.1⟩, h.2.2⟩⟩
theorem fewB_iff (l : List UInt8) (b : Bool) : fewB l b = true ↔ l.isEmpty = false /\ (l.head? ≠ some 48 \/ l.length = 1 /\ b = false) := by
  simp only [fewB, Bool.and_eq_true, Bool.or_eq_true, bne_iff_ne, beq_iff_eq, Bool.not_eq_true']
theorem one_head (l : List UInt8) (h : l.length = 1) (h0 : l.head? = some 48) : l = [48] := by
  match l, h with
  | [c], _ => simpa using h0
theorem readNum_none (l : List UInt8) (h : fewB (restOf l) (lowOf l) = false) : readNum l = (0, 3) := by
  unfold readNum
  rw [if_neg]
  rintro ⟨h1, h2⟩
  obtain ⟨a, b, c⟩ := (isNum_iff _).1 h1
  have : fewB (restOf l) (lowOf l) = true := (fewB_iff _ _).2 ⟨a, by
    rcases c with c | c
    . exact .inl c
    . by_cases h0 : (restOf l).head? = some 48
      . refine .inr ⟨c, ?_⟩
        cases hl : lowOf l with
        | false => rfl
        | true => exact absurd ⟨hl, one_head _ c h0⟩ h2
      . exact .inl h0⟩
  rw [h] at this
  cases this
theorem readNum_some (l : List UInt8) (h : fewB (restOf l) (lowOf l) = true) (ha : (restOf l).all isDig = true) : isNum (restOf l) = true /\ ¬ (lowOf l = true /\ restOf l = [48]) := by
  obtain ⟨a, b⟩ := (fewB_iff _ _).1 h
  refine ⟨(isNum_iff _).2 ⟨a, ha, b.elim .inl (fun k => .inr k.1)⟩, ?_⟩
  rintro ⟨h1, h2⟩
  rcases b with b | b
  . rw [h2] at b; exact b rfl
  . rw [h1] at b; cases b.2
theorem readNum_low (l : List UInt8) (h : fewB (restOf l) (lowOf l) = true) (hl : lowOf l = true) : readNum l = (-(distR 9223372036854775808 (restOf l)).1, (distR 9223372036854775808 (restOf l)).2) := by
  unfold distR
  by_cases ha : (restOf l).all isDig = true
  . rw [if_pos ha]
    unfold readNum
    rw [if_pos (readNum_some l h ha), if_pos hl]
    by_cases hw : worth (restOf l) <= 9223372036854775808
    . rw [if_pos hw, if_pos (by omega)]
    . rw [if_neg hw, if_neg (by omega)]; rfl
  . rw [if_neg ha]
    unfold readNum
    rw [if_neg (fun h => ha ((isNum_iff _).1 h.1).2.1)]
    rfl
theorem readNum_high (l : List UInt8) (h : fewB (restOf l) (lowOf l) = true) (hl : lowOf l = false) : readNum l = distR 9223372036854775807 (restOf l) := by
  unfold distR
  by_cases ha : (restOf l).all isDig = true
  . rw [if_pos ha]
    unfold readNum
    rw [if_pos (readNum_some l h ha), if_neg (by rw [hl]; decide)]
    by_cases hw : worth (restOf l) <= 9223372036854775807
    . rw [if_pos hw, if_pos (by omega)]
    . rw [if_neg hw, if_neg (by omega)]
  . rw [if_neg ha]
    unfold readNum
    rw [if_neg (fun h => ha ((isNum_iff _).1 h.1).2.1)]
theorem distR_range (m : Int) (l : List UInt8) (h : 0 <= m) : 0 <= (distR m l).1 /\ (distR m l).1 <= m := by
  unfold distR
  split
  . split
    . exact ⟨by simp only; omega, by simpa using ‹_›⟩
    . exact ⟨by simp, by simpa using h⟩
  . exact ⟨by simp, by simpa using h⟩
theorem wrap_neg (n : Int) (h0 : 0 <= n) (h1 : n <= 9223372036854775808) : wrap64 (IntKind.u64.wrap (-n)) = -n := by
  simp only [IntKind.wrap, wrap64, IntKind.bits, IntKind.signed]
  omega
theorem parse_any (s : ByteArray) (w : World) (hmax : s.size <= maxLen) :
    Calls Tryz.prog 166 #[.string s] w fun e w' => e = .returned (.tuple #[.int .i64 (readNum s.data.toList).1, .int .i64 (readNum s.data.toList).2]) /\ w' = w := by
  have hl : (restOf s.data.toList).length <= maxLen := Nat.le_trans (rest_len _) (by rw [size_len]; exact hmax)
  have HR := hide (readNum_none s.data.toList)
  have HL := hide (readNum_low s.data.toList)
  have HH := hide (readNum_high s.data.toList)
  go_enter Tryz.func166, Tryz.ntmps166
  go_wp2_with (go_at_call 148; refine (Tryz.strings_CutPrefix _ _ _).mono ?_; rintro e w' ⟨rfl, rfl⟩; rw [show (⟨#[45]⟩ : ByteArray).data.toList = [45] from rfl, rest_prefix, low_prefix]; generalize restOf s.data.toList = r at *; generalize lowOf s.data.toList = b at *)
  refine (few_any ⟨r.toArray⟩ b _ (by simpa [ByteArray.size] using hl)).mono ?_
  rintro e w2 ⟨rfl, rfl⟩
  rw [show (⟨r.toArray⟩ : ByteArray).data.toList = r from rfl]
  have d1 := distR_range 9223372036854775808 r (by omega)
  have d2 := distR_range 9223372036854775807 r (by omega)
  have hsz : (⟨r.toArray⟩ : ByteArray).size <= maxLen := by simpa [ByteArray.size] using hl
  cases hf : fewB r b with
  | false =>
    have HE := hide (unhide HR hf)
    clear hf
    go_wp2
    go_ret2
    refine ⟨?_, rfl⟩
    rw [unhide HE]
    rfl
  | true =>
    cases b with
    | true =>
      have HE := hide (unhide HL hf rfl)
      clear hf HH
      go_wp2_with fail
      refine (dist_any ⟨r.toArray⟩ 9223372036854775808 _ hsz (by omega) (by omega)).mono ?_
      rintro e w2 ⟨rfl, rfl⟩
      rw [show (⟨r.toArray⟩ : ByteArray).data.toList = r from rfl]
      generalize (distR 9223372036854775808 r).1 = n at *
      generalize (distR 9223372036854775808 r).2 = c at *
      clear d2
      have HW := hide (wrap_neg n d1.1 d1.2)
      go_wp2
      go_ret2
      refine ⟨ret_two ?_ ?_, rfl⟩
      . rw [unhide HE]; exact unhide HW
      . rw [unhide HE]
    | false =>
      have HE := hide (unhide HH hf rfl)
      clear hf HL
      go_wp2_with fail
      refine (dist_any ⟨r.toArray⟩ 9223372036854775807 _ hsz (by omega) (by omega)).mono ?_
      rintro e w2 ⟨rfl, rfl⟩
      rw [show (⟨r.toArray⟩ : ByteArray).data.toList = r from rfl]
      go_wp2
      go_ret2
      refine ⟨ret_two ?_ ?_, rfl⟩
      . rw [unhide HE]
      . rw [unhide HE]
theorem indexNum_bad (l : List UInt8) (m : Int) (h : (readNum l).2 ≠ 0) : indexNum l m = (0, (readNum l).2) := by unfold indexNum; rw [if_pos h]
theorem indexNum_out (l : List UInt8) (m : Int) (h : (readNum l).2 = 0) (h1 : (readNum l).1 < 0 \/ m < (readNum l).1) : indexNum l m = (0, 18) := by unfold indexNum; rw [if_neg (by simpa using h), if_pos h1]
theorem indexNum_in (l : List UInt8) (m : Int) (h : (readNum l).2 = 0) (h1 : ¬ ((readNum l).1 < 0 \/ m < (readNum l).1)) : indexNum l m = ((readNum l).1, 0) := by unfold indexNum; rw [if_neg (by simpa using h), if_neg h1]
theorem index_any (s : ByteArray) (m : Int) (w : World) (hmax : s.size <= maxLen) :
    Calls Tryz.prog 149 #[.string s, .int .i64 m] w fun e w' => e = .returned (.tuple #[.int .i64 (indexNum s.data.toList m).1, .int .i64 (indexNum s.data.toList m).2]) /\ w' = w := by
  have H1 := hide (indexNum_bad s.data.toList m)
  have H2 := hide (indexNum_out s.data.toList m)
  have H3 := hide (indexNum_in s.data.toList m)
  have hr := readNum_range s.data.toList
  go_enter Tryz.func149, Tryz.ntmps149
  go_wp2_with fail
  refine (parse_any s _ hmax).mono ?_
  rintro e w2 ⟨rfl, rfl⟩
  generalize (readNum s.data.toList).1 = n at *
  generalize (readNum s.data.toList).2 = c at *
  by_cases hc : c = 0
  . have hc' : (c != 0) = false := by rw [hc]; rfl
    by_cases h1 : n < 0
    . have HE := hide (unhide H2 hc (.inl h1))
      clear hc
      go_wp2
      go_ret2
      refine ⟨?_, rfl⟩
      rw [unhide HE]; rfl
    . by_cases h2 : m < n
      . have HE := hide (unhide H2 hc (.inr h2))
        clear hc
        go_wp2
        go_ret2
        refine ⟨?_, rfl⟩
        rw [unhide HE]; rfl
      . have HE := hide (unhide H3 hc (by omega))
        clear hc
        go_wp2
        go_ret2
        refine ⟨?_, rfl⟩
        rw [unhide HE]; rfl
  . have hc' : (c != 0) = true := by rw [bne_iff_ne]; exact hc
    have HE := hide (unhide H1 hc)
    go_wp2
    go_ret2
    refine ⟨?_, rfl⟩
    rw [unhide HE]; rfl
end Go.Proofs.YtahhbckccdigoaaGreatDoor.L1
