/- Layer 7: the parts of Check: numbers beyond a greatest one, counts, ranges, names. -/
import Derived.Test.YtahhbckccdigoaaGreatDoorMwAC
import Derived.Test.YtahhbckccdigoaaGreatDoorMwAP
namespace Go.Proofs.YtahhbckccdigoaaGreatDoor
open Go Go.RowKit
open G (Tok Er Ins Fun)
def byd (most n : Int) : Bool := decide (n < 0) || decide (most < n)
theorem beyond1_any (most n : Int) (g : Nat) (w : World) (h : w.cell? ⟨g, 0, none⟩ = some (.int .i64 most)) : Calls Tryz.prog 72 #[.int .i64 n, .pointer (some ⟨g, 0, none⟩)] w fun e w' => e = .returned (.bool (byd most n)) ∧ w' = w := by
  by_cases h0 : n < 0
  · have HB : Hid (true = byd most n) := hide (by unfold byd; simp [h0])
    go_enter Tryz.func72, Tryz.ntmps72
    go_wp2_with fail
    go_ret
    exact ⟨L5.ret_bool HB.out, rfl⟩
  · by_cases h1 : most < n
    · have HB : Hid (true = byd most n) := hide (by unfold byd; simp [h1])
      go_enter Tryz.func72, Tryz.ntmps72
      go_wp2_with fail
      go_ret
      exact ⟨L5.ret_bool HB.out, rfl⟩
    · have HB : Hid (false = byd most n) := hide (by unfold byd; simp [h0, h1])
      go_enter Tryz.func72, Tryz.ntmps72
      go_wp2_with fail
      go_ret
      exact ⟨L5.ret_bool HB.out, rfl⟩
theorem beyond_any (most : Int) (w : World) : Calls Tryz.prog 45 #[.int .i64 most] w fun e w' => e = .returned (.func (Fn.func 72) #[] #[.pointer (some ⟨w.heap.size, 0, none⟩)]) ∧ w' = w.alloc (.cells #[.int .i64 most] 3) := by
  have hmf : ∀ (fn : Fn) (first cap : Array Value) (w : World), (Instr.makeFunc fn first cap).run Tryz.prog w = .ok (.func fn first cap) w := fun _ _ _ _ => rfl
  go_enter Tryz.func45, Tryz.ntmps45
  go_wp2_with fail
  go_ret
  exact ⟨rfl, rfl⟩
def firstB (most : Int) : List Int → Int → Int
  | [], _ => -1
  | t :: r, k => if byd most t then k else firstB most r (k + 1)
theorem firstB_drop (most : Int) (xs : List Int) (k : Nat) (t : Int) (h : xs[k]? = some t) : firstB most (xs.drop k) k = if byd most t then (k : Int) else firstB most (xs.drop (k + 1)) ((k + 1 : Nat) : Int) := by
  have : xs.drop k = t :: xs.drop (k + 1) := by
    obtain ⟨h1, h2⟩ := List.getElem?_eq_some_iff.1 h
    rw [List.drop_eq_getElem_cons h1, h2]
  rw [this]; rfl
theorem firstB_any (most : Int) (l : List Int) : ∀ k : Int, 0 ≤ k → (l.any (byd most) = true → 0 ≤ firstB most l k) ∧ (l.any (byd most) = false → firstB most l k = -1) := by
  induction l with
  | nil => intro k _; simp [firstB]
  | cons t r ih =>
    intro k hk
    rw [firstB, List.any_cons]
    cases hb : byd most t with
    | true => simp; exact hk
    | false => simpa using ih (k + 1) (by omega)
set_option maxRecDepth 20000 in
theorem indexF_any (most : Int) (xs : List Int) (ao : Option Addr) (c g : Nat) (w : World) (hs : Sl w ao xs) (hg : g < w.heap.size) (h : w.cell? ⟨g, 0, none⟩ = some (.int .i64 most)) (hm : xs.length ≤ maxLen) :
    Calls Tryz.prog 71 #[.slice ao xs.length c, .func (Fn.func 72) #[] #[.pointer (some ⟨g, 0, none⟩)]] w fun e w' => e = .returned (.int .i64 (firstB most xs 0)) ∧ Below w.heap.size w w' := by
  have H := hide h
  have X := hide hs
  unfold maxLen at hm
  clear h hs
  go_enter Tryz.func71, Tryz.ntmps71
  go_wp2_with fail
  go_loopw [8] (fun i wr => ∃ k : Nat, i = .int .i64 k ∧ k ≤ xs.length ∧ Below w.heap.size w wr ∧ Hid (firstB most xs 0 = firstB most (xs.drop k) k)) (fun i _ => xs.length - (intOf i).toNat)
  case atStart => exact ⟨0, rfl, Nat.zero_le _, Below.refl _ _, rfl⟩
  case round =>
    obtain ⟨k, rfl, hk, HB, HF⟩ := hrel
    have HB := hide HB
    by_cases hlt : k < xs.length
    · obtain ⟨t, ht⟩ : ∃ t, xs[k]? = some t := ⟨xs[k], List.getElem?_eq_getElem hlt⟩
      have HS := hide (HF.out.trans (firstB_drop most xs k t ht))
      rcases X.out with he | ⟨b, o, rfl, hb, hc⟩
      · subst he; simp at hlt
      have hcell : wr.cell? ⟨b, o + k, none⟩ = some (.int .i64 t) := (HB.out.cell (p := ⟨b, o + k, none⟩) hb).trans (hc k t ht)
      have hlt' : (k : Int) < xs.length := by omega
      have hcg := hide ((HB.out.cell (p := ⟨g, 0, none⟩) hg).trans H.out)
      clear hc ht
      go_wp2_with fail
      refine (beyond1_any most t g _ hcg.out).mono ?_; rintro e w1 ⟨rfl, rfl⟩
      cases hbt : byd most t with
      | true =>
        have HE := hide (HS.out.trans (if_pos hbt))
        go_wp2_with fail
        go_ret
        exact ⟨by rw [HE.out]; rfl, HB.out⟩
      | false =>
        have HE := hide (HS.out.trans (if_neg (by simp [hbt])))
        go_wp2_with fail
        go_roundw
        case rel => exact ⟨k + 1, by go_num, by omega, HB.out, HE.out⟩
        case measure => simp [intOf]; omega
    · have hk2 : k = xs.length := by omega
      subst hk2
      have HE := hide (HF.out.trans (by rw [List.drop_length]; rfl : _ = (-1 : Int)))
      go_wp2_with fail
      go_ret
      exact ⟨by rw [HE.out]; rfl, HB.out⟩
theorem contains_any (most : Int) (xs : List Int) (ao : Option Addr) (c g : Nat) (w : World) (hs : Sl w ao xs) (hg : g < w.heap.size) (h : w.cell? ⟨g, 0, none⟩ = some (.int .i64 most)) (hm : xs.length ≤ maxLen) :
    Calls Tryz.prog 44 #[.slice ao xs.length c, .func (Fn.func 72) #[] #[.pointer (some ⟨g, 0, none⟩)]] w fun e w' => e = .returned (.bool (xs.any (byd most))) ∧ Below w.heap.size w w' := by
  obtain ⟨f1, f2⟩ := firstB_any most xs 0 (Int.le_refl 0)
  have H := hide h
  have X := hide hs
  have F1 := hide f1
  have F2 := hide f2
  clear h hs f1 f2
  go_enter Tryz.func44, Tryz.ntmps44
  go_wp2_with fail
  refine (indexF_any most xs ao c g _ X.out hg H.out hm).mono ?_; rintro e w1 ⟨rfl, b1⟩
  cases hb : xs.any (byd most) with
  | true =>
    have h1 := F1.out hb
    replace hb := hide hb
    generalize firstB most xs 0 = r at *
    clear F1 F2
    go_wp2_with fail
    go_ret
    exact ⟨L5.ret_bool hb.out.symm, b1⟩
  | false =>
    have h1 := F2.out hb
    rw [h1]
    replace hb := hide hb
    clear F1 F2 h1
    go_wp2_with fail
    go_ret
    exact ⟨L5.ret_bool hb.out.symm, b1⟩
def opOk (k : Int) : Bool := decide (1 ≤ k) && decide (k ≤ 29)
theorem operation_any (k : Int) (w : World) : Calls Tryz.prog 39 #[.int .i64 k] w fun e w' => e = .returned (.bool (opOk k)) ∧ w' = w := by
  by_cases h1 : 1 ≤ k
  · by_cases h2 : k ≤ 29
    · have HB : Hid (true = opOk k) := hide (by simp [opOk, h1, h2])
      go_enter Tryz.func39, Tryz.ntmps39
      go_wp2_with fail
      go_ret
      exact ⟨L5.ret_bool HB.out, rfl⟩
    · have HB : Hid (false = opOk k) := hide (by simp [opOk, h2])
      go_enter Tryz.func39, Tryz.ntmps39
      go_wp2_with fail
      go_ret
      exact ⟨L5.ret_bool HB.out, rfl⟩
  · have HB : Hid (false = opOk k) := hide (by simp [opOk, h1])
    go_enter Tryz.func39, Tryz.ntmps39
    go_wp2_with fail
    go_ret
    exact ⟨L5.ret_bool HB.out, rfl⟩
theorem below_dn1 (w : World) {o : Obj} : Below w.heap.size w (w.drew.alloc o) := by
  have := below_box w.drew o
  exact ⟨this.1, this.2, this.3, this.4, this.5⟩
def numOk (k id ty : Int) : Bool := if L5.imakes k ty = 0 then decide (id = -1) else !byd 1048576 id
set_option maxHeartbeats 1000000 in
set_option maxRecDepth 20000 in
theorem numbered_any (k id n ty pl : Int) (ar tt : List Int) (nm : List UInt8) (ao to : Option Addr) (ca ct : Nat) (w : World) (ht : L5.Tab w) : Calls Tryz.prog 41 #[.agg #[.int .i64 k, .int .i64 id, .int .i64 n, .int .i64 ty, .slice ao ar.length ca, .slice to tt.length ct, .string (bs nm), .int .i64 pl]] w fun e w' => e = .returned (.bool (numOk k id ty)) ∧ Below w.heap.size w w' := by
  have b0 := below_box w (.cells #[.int .i64 k, .int .i64 id, .int .i64 n, .int .i64 ty, .slice ao ar.length ca, .slice to tt.length ct, .string (bs nm), .int .i64 pl] 39)
  have H0 := hide (heap_alloc_new w (.cells #[.int .i64 k, .int .i64 id, .int .i64 n, .int .i64 ty, .slice ao ar.length ca, .slice to tt.length ct, .string (bs nm), .int .i64 pl] 39))
  have T0 := hide (ht.below b0)
  have B0 := hide b0
  have hz0 : (w.alloc (.cells #[.int .i64 k, .int .i64 id, .int .i64 n, .int .i64 ty, .slice ao ar.length ca, .slice to tt.length ct, .string (bs nm), .int .i64 pl] 39)).heap.size > w.heap.size := by simp
  clear b0 ht
  go_enter Tryz.func41, Tryz.ntmps41
  go_upto_region 1 with fail
  show Code.wp _ _ _ _ (w.alloc (.cells #[.int .i64 k, .int .i64 id, .int .i64 n, .int .i64 ty, .slice ao ar.length ca, .slice to tt.length ct, .string (bs nm), .int .i64 pl] 39))
  generalize w.alloc (.cells #[.int .i64 k, .int .i64 id, .int .i64 n, .int .i64 ty, .slice ao ar.length ca, .slice to tt.length ct, .string (bs nm), .int .i64 pl] 39) = W at *
  obtain ⟨c0, c1, c2, c3, c4, c5, c6, c7⟩ := box8 H0.out
  go_wp2_with fail
  refine (L5.makes_any k ty _ _ _ _ _ _ W T0.out).mono ?_; rintro e w1 ⟨rfl, b1⟩
  have B1 := hide b1
  clear c0 c1 c2 c3 c4 c5 c6 c7
  obtain ⟨c0, c1, c2, c3, c4, c5, c6, c7⟩ := box8 ((b1.block _ (by omega)).trans H0.out)
  have hcl : w.heap.size < w1.heap.size := Nat.lt_of_lt_of_le hz0 b1.size
  clear c0 c2 c3 c4 c5 c6 c7 b1
  by_cases hm : L5.imakes k ty = 0
  · have HB : Hid (numOk k id ty = decide (id = -1)) := hide (if_pos hm)
    rw [hm]
    clear hm
    by_cases hid : id = -1
    · subst hid
      go_wp2_with fail
      go_ret
      exact ⟨L5.ret_bool (by rw [HB.out]; rfl), below_step B0.out B1.out⟩
    · have h2 : (id == -1) = false := by simpa using hid
      have HB2 : Hid (false = numOk k id ty) := hide (by rw [HB.out]; simp [hid])
      go_wp2_with fail
      go_ret
      exact ⟨L5.ret_bool HB2.out, below_step B0.out B1.out⟩
  · have HB : Hid (numOk k id ty = !byd 1048576 id) := hide (if_neg hm)
    have h2 : (L5.imakes k ty == 0) = false := by simpa using hm
    generalize L5.imakes k ty = mk at *
    have B2 := hide (below_dn1 w1 (o := .cells #[.int .i64 1048576] 3))
    have G2 : Hid ((w1.alloc (.cells #[.int .i64 1048576] 3)).cell? ⟨w1.heap.size, 0, none⟩ = some (.int .i64 1048576)) := hide (by simp [go_sem])
    have d1 : (w1.alloc (.cells #[.int .i64 1048576] 3)).cell? ⟨w.heap.size, 1, none⟩ = some (.int .i64 id) := ((below_box w1 _).cell (p := ⟨w.heap.size, 1, none⟩) hcl).trans c1
    go_wp2_with fail
    go_region_held3 (fun w' => w'.cell? ⟨w.heap.size, 1, none⟩ = some (.int .i64 id))
      (first
        | (go_keep; done)
        | assumption)
      ((first
        | (go_at_call 45; refine (beyond_any 1048576 _).mono ?_; rintro e w2 ⟨rfl, rfl⟩)
        | (go_at_call 72; refine (beyond1_any 1048576 id w1.heap.size _ ?_).mono ?_; exact G2.out; rintro e w3 ⟨rfl, rfl⟩)))
    all_goals
      go_wp2_with fail
      go_ret
      exact ⟨L5.ret_bool HB.out.symm, below_step B0.out (below_step B1.out B2.out)⟩
end Go.Proofs.YtahhbckccdigoaaGreatDoor
