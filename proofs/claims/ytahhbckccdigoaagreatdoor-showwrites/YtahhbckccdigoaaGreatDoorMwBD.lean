/- Layer 7: a program may be written just if each of its parts fits. -/
import Derived.Test.YtahhbckccdigoaaGreatDoorMwAG
import Derived.Test.YtahhbckccdigoaaGreatDoorMwAN
import Derived.Test.YtahhbckccdigoaaGreatDoorMwAQ
import Derived.Test.YtahhbckccdigoaaGreatDoorMwAU
import Derived.Test.YtahhbckccdigoaaGreatDoorMwBC
namespace Go.Proofs.YtahhbckccdigoaaGreatDoor
open Go Go.RowKit
open G (Tok Er Ins Fun peek0 peek1 atOf MayI MayF Fits Vals Labs)
abbrev MayX (x : Ins) : Prop := MayI namF shpF tksF goodF mksF x
abbrev MayG (f : Fun) : Prop := MayF namF shpF tksF goodF mksF f
theorem any_byd (most : Int) (l : List Int) : l.any (byd most) = false ↔ ∀ a ∈ l, 0 ≤ a ∧ a ≤ most := by
  rw [List.any_eq_false]
  refine ⟨fun h a ha => ?_, fun h a ha => ?_⟩
  · have := h a ha
    simp only [byd, Bool.or_eq_true, decide_eq_true_eq] at this
    omega
  · have := h a ha
    simp only [byd, Bool.or_eq_true, decide_eq_true_eq]
    omega
theorem tks_at : tksF 1 = 0 ∧ tksF 29 = 0 ∧ tksF 10 = 0 ∧ tksF 11 = 1 ∧ tksF 12 = 1 ∧ tksF 15 = 1 ∧ tksF 13 = 2 ∧ tksF 14 = 2 ∧ tksF 23 = 0 := by decide
theorem tkN_eq (k : Int) : tkN k = tksF k := rfl
theorem len0 {α : Type} {l : List α} : l.length = 0 ↔ l = [] := List.length_eq_zero_iff
set_option maxHeartbeats 1000000 in
/-- Counts, ranges and names are those of the operation. -/
theorem fits_iff {op n : Int} {ar tt : List Int} {nm : List UInt8} (hn : I64 n) : (cntOk op ar.length tt.length = true ∧ rngOk op n = true ∧ namC op nm = 0) ↔ Fits namF shpF tksF op n ar tt nm := by
  obtain ⟨t1, t29, t10, t11, t12, t15, t13, t14, t23⟩ := tks_at
  obtain ⟨n1, n2⟩ := hn
  have hnf : namF nm = L2.nameB nm := rfl
  by_cases h1 : op = 1
  · subst h1
    simp [Fits, cntOk, rngOk, namC, tkN_eq, t1]
    grind
  by_cases h29 : op = 29
  · subst h29
    simp [Fits, cntOk, rngOk, namC, tkN_eq, t29]
    grind
  by_cases h10 : op = 10
  · subst h10
    simp [Fits, cntOk, rngOk, namC, tkN_eq, t10]
    grind
  by_cases h20 : op = 20
  · subst h20
    simp [Fits, cntOk, rngOk, namC]
    grind
  by_cases h21 : op = 21
  · subst h21
    simp [Fits, cntOk, rngOk, namC]
    grind
  by_cases h28 : op = 28
  · subst h28
    simp [Fits, cntOk, rngOk, namC]
    grind
  by_cases h11 : op = 11
  · subst h11
    simp [Fits, cntOk, rngOk, namC, tkN_eq, t11]
    grind
  by_cases h12 : op = 12
  · subst h12
    simp [Fits, cntOk, rngOk, namC, tkN_eq, t12]
    grind
  by_cases h15 : op = 15
  · subst h15
    simp [Fits, cntOk, rngOk, namC, tkN_eq, t15]
    grind
  by_cases h13 : op = 13
  · subst h13
    simp [Fits, cntOk, rngOk, namC, tkN_eq, t13]
    grind
  by_cases h14 : op = 14
  · subst h14
    simp [Fits, cntOk, rngOk, namC, tkN_eq, t14]
    grind
  by_cases h23 : op = 23
  · subst h23
    simp [Fits, cntOk, rngOk, namC, tkN_eq, t23]
    grind
  by_cases h24 : op = 24
  · subst h24
    simp [Fits, cntOk, rngOk, namC]
    grind
  by_cases h26 : op = 26
  · subst h26
    simp [Fits, cntOk, rngOk, namC]
    grind
  by_cases h27 : op = 27
  · subst h27
    simp [Fits, cntOk, rngOk, namC]
    grind
  unfold Fits cntOk rngOk namC
  simp only [h1, h29, h10, h20, h21, h28, h11, h12, h15, h13, h14, h23, h24, h26, h27, or_false, if_false, tkN_eq, Bool.and_eq_true, decide_eq_true_eq]
  constructor
  · rintro ⟨⟨a, b⟩, ⟨c, d⟩, e⟩
    have a' : (ar.length : Int) = tksF op := of_decide_eq_true a
    refine ⟨by omega, len0.1 (by omega), by omega, ?_⟩
    by_cases hm : nm = []
    · exact hm
    · rw [if_neg hm] at e; cases e
  · rintro ⟨a, rfl, rfl, rfl⟩
    exact ⟨⟨decide_eq_true (show (ar.length : Int) = tksF op by omega), rfl⟩, ⟨by omega, by omega⟩, rfl⟩
theorem fits_i64 {op n : Int} {ar tt : List Int} {nm : List UInt8} (h : Fits namF shpF tksF op n ar tt nm) : I64 n := by
  unfold I64
  unfold Fits at h
  by_cases e : op = 1
  · rw [if_pos e] at h
    have k := h.2.2.2.1
    have j := h.2.2.2.2
    omega
  rw [if_neg e] at h
  clear e
  by_cases e : op = 29
  · rw [if_pos e] at h
    have k := h.2.2.2.1
    have j := h.2.2.2.2
    omega
  rw [if_neg e] at h
  clear e
  by_cases e : op = 10
  · rw [if_pos e] at h
    have k := h.2.2.1
    omega
  rw [if_neg e] at h
  clear e
  by_cases e : op = 20
  · rw [if_pos e] at h
    have k := h.2.2.1
    omega
  rw [if_neg e] at h
  clear e
  by_cases e : op = 21
  · rw [if_pos e] at h
    have k := h.2.1
    have j := h.2.2.1
    omega
  rw [if_neg e] at h
  clear e
  by_cases e : op = 28
  · rw [if_pos e] at h
    have k := h.2.2.1
    omega
  rw [if_neg e] at h
  clear e
  by_cases e : op = 11 ∨ op = 12 ∨ op = 15
  · rw [if_pos e] at h
    have k := h.2.2.2.1
    have j := h.2.2.2.2
    omega
  rw [if_neg e] at h
  clear e
  by_cases e : op = 13 ∨ op = 14
  · rw [if_pos e] at h
    have k := h.2.2.2.1
    have j := h.2.2.2.2
    omega
  rw [if_neg e] at h
  clear e
  by_cases e : op = 23
  · rw [if_pos e] at h
    have k := h.2.2.2.1
    have j := h.2.2.2.2
    omega
  rw [if_neg e] at h
  clear e
  by_cases e : op = 24
  · rw [if_pos e] at h
    have k := h.2.2.2.1
    have j := h.2.2.2.2
    omega
  rw [if_neg e] at h
  clear e
  by_cases e : op = 26
  · rw [if_pos e] at h
    have k := h.2.2.1
    omega
  rw [if_neg e] at h
  clear e
  by_cases e : op = 27
  · rw [if_pos e] at h
    have k := h.2.2.1
    omega
  rw [if_neg e] at h
  clear e
  have k := h.2.2.1
  omega
theorem good_eq (op t : Int) : (opOk op && L5.may op t) = goodF op t := rfl
/-- An instruction may be written just if it fits. -/
theorem check_iff {x : Ins} (hn : I64 x.2.2.1) : checkC x = 0 ↔ MayX x := by
  obtain ⟨op, id, n, ty, ar, tt, nm, pl⟩ := x
  dsimp only at hn
  unfold checkC MayX MayI
  dsimp only
  rw [good_eq]
  have hf := fits_iff (op := op) (n := n) (ar := ar) (tt := tt) (nm := nm) hn
  have h1 := any_byd 1048576 ar
  have h2 := any_byd 255 tt
  have h3 : numOk op id ty = true ↔ ((mksF op ty = 0 → id = -1) ∧ (mksF op ty ≠ 0 → 0 ≤ id ∧ id ≤ 1048576)) := by
    unfold numOk mksF
    by_cases e : L5.imakes op ty = 0
    · simp [e]
    · simp only [e, if_false, Bool.not_eq_true', byd, Bool.or_eq_false_iff, decide_eq_false_iff_not]
      constructor
      · intro h; exact ⟨fun k => absurd k (by simp), fun _ => by omega⟩
      · intro h; have := h.2 e; omega
  cases g : goodF op ty with
  | false => simp
  | true =>
    cases g3 : numOk op id ty with
    | false =>
      rw [g3] at h3
      simp only [Bool.true_eq_false, if_false, if_true, true_and]
      constructor
      · intro k; cases k
      · rintro ⟨a, b, _⟩; exact absurd (h3.2 ⟨a, b⟩) (by simp)
    | true =>
      have h3' := h3.1 g3
      cases g4 : cntOk op ar.length tt.length with
      | false =>
        rw [g4] at hf
        simp only [Bool.true_eq_false, if_false, if_true, true_and]
        constructor
        · intro k; cases k
        · rintro ⟨_, _, _, _, f⟩; exact absurd (hf.2 f).1 (by simp)
      | true =>
        cases g5 : rngOk op n with
        | false =>
          rw [g5] at hf
          simp only [Bool.true_eq_false, if_false, if_true, true_and]
          constructor
          · intro k; cases k
          · rintro ⟨_, _, _, _, f⟩; exact absurd (hf.2 f).2.1 (by simp)
        | true =>
          cases g6 : ar.any (byd 1048576) with
          | true =>
            rw [g6] at h1
            simp only [Bool.true_eq_false, if_false, if_true, true_and]
            constructor
            · intro k; cases k
            · rintro ⟨_, _, v, _, _⟩; exact absurd (h1.2 v) (by simp)
          | false =>
            cases g7 : tt.any (byd 255) with
            | true =>
              rw [g7] at h2
              simp only [Bool.true_eq_false, Bool.false_eq_true, if_false, if_true, true_and]
              constructor
              · intro k; cases k
              · rintro ⟨_, _, _, v, _⟩; exact absurd (h2.2 v) (by simp)
            | false =>
              simp only [Bool.true_eq_false, Bool.false_eq_true, if_false, true_and]
              constructor
              · intro k; exact ⟨h3'.1, h3'.2, h1.1 g6, h2.1 g7, hf.1 ⟨g4, g5, k⟩⟩
              · rintro ⟨_, _, _, _, f⟩; exact (hf.2 f).2.2
theorem head_iff (f : Fun) : headC f = 0 ↔ (f.2.1.length ≤ 8 ∧ f.2.2.2.1.length ≤ 256 ∧ namF f.1 = true ∧ 0 ≤ f.2.2.1 ∧ f.2.2.1 ≤ 2 ∧ ∀ t ∈ f.2.1, 1 ≤ t ∧ t ≤ 2) := by
  have hp : parB f.2.1 = false ↔ ∀ t ∈ f.2.1, 1 ≤ t ∧ t ≤ 2 := by
    unfold parB
    rw [List.any_eq_false]
    refine ⟨fun h t ht => ?_, fun h t ht => ?_⟩
    · have := h t ht
      simp [pasB] at this
      omega
    · have := h t ht
      simp [pasB]
      omega
  unfold headC namF
  by_cases h1 : 8 < f.2.1.length ∨ 256 < f.2.2.2.1.length
  · rw [if_pos h1]; constructor
    · intro k; cases k
    · rintro ⟨a, b, _⟩; omega
  rw [if_neg h1]
  cases h2 : L2.nameB f.1 with
  | false => simp
  | true =>
    rw [if_neg (by simp)]
    by_cases h3 : (f.2.2.1 < 0 ∨ 2 < f.2.2.1) ∨ parB f.2.1 = true
    · rw [if_pos h3]; constructor
      · intro k; cases k
      · rintro ⟨_, _, _, c, d, e⟩
        rcases h3 with h3 | h3
        · omega
        · rw [hp.2 e] at h3; cases h3
    · rw [if_neg h3]
      have h4 : parB f.2.1 = false := by
        cases e : parB f.2.1 with
        | false => rfl
        | true => exact absurd (.inr e) h3
      refine ⟨fun _ => ⟨by omega, by omega, rfl, by omega, by omega, hp.1 h4⟩, fun _ => rfl⟩
theorem runI_iff (b : List Ins) : ∀ m, m ≤ 4096 → ((runI m b).2 = 0 ↔ (∀ x ∈ b, checkC x = 0) ∧ m + b.length ≤ 4096) ∧ ((runI m b).2 = 0 → (runI m b).1 = m + b.length) := by
  induction b with
  | nil => intro m hm; simp [runI, hm]
  | cons x b ih =>
    intro m hm
    by_cases h1 : m = 4096
    · subst h1
      simp only [runI, if_true, List.length_cons]
      exact ⟨⟨fun k => (by cases k), fun k => (by omega)⟩, fun k => (by cases k)⟩
    · by_cases h2 : checkC x = 0
      · rw [runI, if_neg h1, if_neg (by simp [h2])]
        obtain ⟨i1, i2⟩ := ih (m + 1) (by omega)
        refine ⟨?_, fun k => by rw [i2 k, List.length_cons]; omega⟩
        rw [i1]
        simp only [List.mem_cons, forall_eq_or_imp, h2, true_and, List.length_cons]
        constructor <;> rintro ⟨a, b⟩ <;> exact ⟨a, by omega⟩
      · rw [runI, if_neg h1, if_pos h2]
        refine ⟨⟨fun k => absurd k h2, fun k => absurd (k.1 x (by simp)) h2⟩, fun k => absurd k h2⟩
def szB (l : List (List Ins)) : Nat := (l.map List.length).sum
theorem runB_iff (l : List (List Ins)) : ∀ m, m ≤ 4096 → ((runB m l).2 = 0 ↔ (∀ b ∈ l, ∀ x ∈ b, checkC x = 0) ∧ m + szB l ≤ 4096) ∧ ((runB m l).2 = 0 → (runB m l).1 = m + szB l) := by
  induction l with
  | nil => intro m hm; simp [runB, szB, hm]
  | cons b l ih =>
    intro m hm
    obtain ⟨j1, j2⟩ := runI_iff b m hm
    have hs : szB (b :: l) = b.length + szB l := by simp [szB]
    by_cases h1 : (runI m b).2 = 0
    · rw [runB, if_neg (by simp [h1]), j2 h1]
      obtain ⟨k1, k2⟩ := j1.1 h1
      obtain ⟨i1, i2⟩ := ih (m + b.length) k2
      rw [hs]
      refine ⟨?_, fun k => by rw [i2 k]; omega⟩
      rw [i1]
      simp only [List.mem_cons, forall_eq_or_imp]
      constructor
      · rintro ⟨a, c⟩; exact ⟨⟨k1, a⟩, by omega⟩
      · rintro ⟨⟨_, a⟩, c⟩; exact ⟨a, by omega⟩
    · rw [runB, if_pos h1, hs]
      refine ⟨⟨fun k => absurd k h1, fun k => absurd (j1.2 ⟨k.1 b (by simp), by omega⟩) h1⟩, fun k => absurd k h1⟩
def szP (p : List Fun) : Nat := (p.map fun x => szB x.2.2.2.1).sum
theorem whole_iff (p : List Fun) : ∀ i m, i ≤ 32 → m ≤ 4096 → ((wholeF i m p).1 = 0 ↔ (∀ f ∈ p, headC f = 0 ∧ ∀ b ∈ f.2.2.2.1, ∀ x ∈ b, checkC x = 0) ∧ i + p.length ≤ 32 ∧ m + szP p ≤ 4096) ∧ ((wholeF i m p).1 = 0 → wholeF i m p = (0, 0)) := by
  induction p with
  | nil => intro i m h1 h2; simp [wholeF, szP, h1, h2]
  | cons f p ih =>
    intro i m h1 h2
    have hs : szP (f :: p) = szB f.2.2.2.1 + szP p := by simp [szP]
    obtain ⟨j1, j2⟩ := runB_iff f.2.2.2.1 m h2
    rw [hs]
    by_cases k1 : i = 32
    · subst k1
      rw [whole_many, List.length_cons]
      exact ⟨⟨fun k => (by cases k), fun k => (by omega)⟩, fun k => (by cases k)⟩
    by_cases k2 : headC f = 0
    · by_cases k3 : (runB m f.2.2.2.1).2 = 0
      · rw [whole_next p k1 k2 k3, j2 k3]
        obtain ⟨b1, b2⟩ := j1.1 k3
        obtain ⟨i1, i2⟩ := ih (i + 1) (m + szB f.2.2.2.1) (by omega) b2
        refine ⟨?_, i2⟩
        rw [i1]
        simp only [List.mem_cons, forall_eq_or_imp, List.length_cons]
        constructor
        · rintro ⟨a, c, d⟩; exact ⟨⟨⟨k2, b1⟩, a⟩, by omega, by omega⟩
        · rintro ⟨⟨_, a⟩, c, d⟩; exact ⟨a, by omega, by omega⟩
      · rw [whole_body p k1 k2 k3]
        refine ⟨⟨fun k => absurd k k3, fun k => absurd (j1.2 ⟨(k.1 f (by simp)).2, by omega⟩) k3⟩, fun k => absurd k k3⟩
    · rw [whole_head m p k1 k2]
      refine ⟨⟨fun k => absurd k k2, fun k => absurd (k.1 f (by simp)).1 k2⟩, fun k => absurd k k2⟩
/-- A program that may be written. -/
def MayP (p : List Fun) : Prop := (∀ f ∈ p, MayG f) ∧ p.length ≤ 32 ∧ szP p ≤ 4096
theorem whole_may {p : List Fun} (hn : ∀ f ∈ p, ∀ b ∈ f.2.2.2.1, ∀ x ∈ b, I64 x.2.2.1) : (wholeF 0 0 p).1 = 0 ↔ MayP p := by
  rw [(whole_iff p 0 0 (by omega) (by omega)).1]
  unfold MayP
  constructor
  · rintro ⟨a, b, c⟩
    refine ⟨fun f hf => ?_, by omega, by omega⟩
    obtain ⟨a1, a2⟩ := a f hf
    obtain ⟨b1, b2, b3, b4, b5, b6⟩ := (head_iff f).1 a1
    exact ⟨b3, b1, b6, b4, b5, b2, fun b hb x hx => (check_iff (hn f hf b hb x hx)).1 (a2 b hb x hx)⟩
  · rintro ⟨a, b, c⟩
    refine ⟨fun f hf => ?_, by omega, by omega⟩
    obtain ⟨b3, b1, b6, b4, b5, b2, b7⟩ := a f hf
    exact ⟨(head_iff f).2 ⟨b1, b2, b3, b4, b5, b6⟩, fun b hb x hx => (check_iff (hn f hf b hb x hx)).2 (b7 b hb x hx)⟩
end Go.Proofs.YtahhbckccdigoaaGreatDoor
namespace Go.Proofs.YtahhbckccdigoaaGreatDoor
open Go Go.RowKit
open G (Tok Er Ins Fun peek0 peek1 atOf MayI MayF Fits Vals Labs noI noB noF)
open L2 (Wd wordOk)
abbrev insX (x : Ins) : List (List UInt8) := G.insS dig iwF mksF x
/-- A word, and not too long. -/
def Gd (u : List UInt8) : Prop := wordOk u ∧ u.length ≤ 24
theorem gd_tog {u : List UInt8} (h0 : u ≠ []) (h1 : ∀ c ∈ u, L2.togB (UInt8.toNat c) = true) (h2 : u.length ≤ 24) : Gd u := ⟨.inr ⟨h0, h1⟩, h2⟩
theorem gd_sign {c : UInt8} {n : Int} (hc : L2.togB c.toNat = true) (hn : I64 n) : Gd (c :: dig n) := by
  refine gd_tog (by simp) (fun d hd => ?_) (by have := dig_len hn; simp; omega)
  rcases List.mem_cons.1 hd with rfl | hd
  · exact hc
  · exact dig_tog n d hd
theorem gd_dig {n : Int} (hn : I64 n) : Gd (dig n) := gd_tog (dig_ne n).1 (dig_tog n) (by have := dig_len hn; omega)
theorem gd_opd {op n : Int} {ar tt : List Int} {nm : List UInt8} (id ty pl : Int) (hF : Fits namF shpF tksF op n ar tt nm) (hv : Vals ar) (hb : Labs tt) : ∀ s ∈ G.opdS dig (op, id, n, ty, ar, tt, nm, pl), Gd s := by
  have hn := fits_i64 hF
  have sv : ∀ m ∈ ar, Gd (37 :: dig m) := fun m hm => gd_sign (by decide) (by have := hv m hm; unfold I64; omega)
  have sl : ∀ m ∈ tt, Gd (98 :: dig m) := fun m hm => gd_sign (by decide) (by have := hb m hm; unfold I64; omega)
  intro s hs
  unfold G.opdS at hs
  dsimp only at hs
  split at hs
  · simp only [List.mem_singleton] at hs
    subst hs
    exact gd_dig hn
  split at hs
  · rename_i h10
    subst h10
    simp only [List.mem_singleton] at hs
    subst hs
    simp [Fits] at hF
    obtain ⟨k1, k2, k3⟩ := shp_parts hF.2.2.2
    exact gd_tog k1 k3 k2
  split at hs
  · simp only [List.mem_append, List.mem_map, List.mem_singleton] at hs
    rcases hs with (⟨m, hm, rfl⟩ | rfl) | ⟨m, hm, rfl⟩
    · exact sv m (List.mem_of_mem_take hm)
    · exact gd_dig hn
    · exact sv m (List.mem_of_mem_drop hm)
  split at hs
  · simp only [List.mem_flatMap, List.mem_cons, List.not_mem_nil, or_false] at hs
    obtain ⟨q, hq, rfl | rfl⟩ := hs
    · exact sl _ (List.of_mem_zip hq).1
    · exact sv _ (List.of_mem_zip hq).2
  split at hs
  · rename_i h21
    subst h21
    simp only [List.mem_append, List.mem_map, List.mem_singleton] at hs
    rcases hs with (hs | rfl) | ⟨m, hm, rfl⟩
    · split at hs
      · simp only [List.mem_singleton] at hs
        subst hs; exact gd_sign (by decide) hn
      · simp at hs
    · simp [Fits] at hF
      obtain ⟨k1, k2, k3, _⟩ := nam_parts hF.2.2.2
      exact gd_tog k1 k3 k2
    · exact sv m hm
  · simp only [List.mem_append, List.mem_map] at hs
    rcases hs with ⟨m, hm, rfl⟩ | ⟨m, hm, rfl⟩
    · exact sv m hm
    · exact sl m hm
theorem gd_ins {x : Ins} (h : MayX x) : ∀ s ∈ insX x, Gd s := by
  obtain ⟨op, id, n, ty, ar, tt, nm, pl⟩ := x
  obtain ⟨g1, g2, g3, g4, g5, g6⟩ := h
  dsimp only at g1 g2 g3 g4 g5 g6
  intro s hs
  unfold insX G.insS at hs
  dsimp only at hs
  rw [List.mem_append, List.mem_append] at hs
  rcases hs with (hs | hs) | hs
  · by_cases hm : mksF op ty = 0
    · rw [if_neg (by simpa using hm)] at hs; cases hs
    · rw [if_pos hm] at hs
      simp only [List.mem_cons, List.not_mem_nil, or_false] at hs
      rcases hs with rfl | rfl
      · exact gd_sign (by decide) (by have := g3 hm; unfold I64; omega)
      · exact ⟨.inl ⟨61, rfl, by decide, by decide⟩, by simp⟩
  · simp only [List.mem_singleton] at hs
    subst hs
    obtain ⟨k1, k2⟩ := iw_tog g1
    exact gd_tog k1 k2 (by have := iword_len op ty; unfold iwF; omega)
  · exact gd_opd id ty pl g6 g4 g5 s hs
end Go.Proofs.YtahhbckccdigoaaGreatDoor
namespace Go.Proofs.YtahhbckccdigoaaGreatDoor.G
section
variable {E : Int} {num : List UInt8 → Int × Int} {idx : List UInt8 → Int → Option Int} {nam : List UInt8 → Bool} {shp : List UInt8 → Int} {tks : Int → Nat} {fnd : List UInt8 → Int × Int} {mks : Int → Int → Int} {prt : Nat → List UInt8 → Bool} {l : List Tok}
/-- What is left stands at the end of the words; what is wrong has a code, and stands at one of them or at the end. -/
def Fit {α : Type} (E : Int) (l : List Tok) (x : Except Er (α × List Tok)) : Prop :=
  match x with
  | .ok p => p.2 <:+ l
  | .error e => e.1 ≠ 0 ∧ ∃ r, r <:+ l ∧ e.2 = atOf E r
theorem Fit.done {α : Type} (v : α) : Fit E l (G.done v l) := List.suffix_refl l
theorem Fit.ok {α : Type} (v : α) : Fit E l (.ok (v, l)) := List.suffix_refl l
theorem Fit.then {α β : Type} {x : Except Er (α × List Tok)} {f : α → Rd β} (h : Fit E l x) (k : ∀ v r, Fit E r (f v r)) : Fit E l (andThen x f) := by
  cases x with
  | error e => exact h
  | ok p =>
    obtain ⟨v, r⟩ := p
    have h : r <:+ l := h
    have k := k v r
    show Fit E l (f v r)
    cases e : f v r with
    | error y => rw [e] at k; exact ⟨k.1, k.2.choose, k.2.choose_spec.1.trans h, k.2.choose_spec.2⟩
    | ok q => rw [e] at k; exact List.IsSuffix.trans k h
theorem Fit.one {α : Type} {f : List UInt8 → Option α} {c : List UInt8 → Int} (h : ∀ s, f s = none → c s ≠ 0) : Fit E l (one f c E l) := by
  unfold G.one
  cases e : f (peek0 l) with
  | none => exact ⟨h _ e, l, List.suffix_refl l, rfl⟩
  | some v => exact List.tail_suffix l
theorem name_fit : Fit E l (name nam E l) := Fit.one fun _ _ => by simp
end
end Go.Proofs.YtahhbckccdigoaaGreatDoor.G
namespace Go.Proofs.YtahhbckccdigoaaGreatDoor
open Go Go.RowKit
open G (Tok Er Ins Fun peek0 peek1 atOf)
end Go.Proofs.YtahhbckccdigoaaGreatDoor
namespace Go.Proofs.YtahhbckccdigoaaGreatDoor
open Go Go.RowKit
open G (Tok Er Ins Fun peek0 peek1 atOf MayI MayF Fits Vals Labs noI noB noF)
abbrev gI (x : Ins) : Nat := G.wI dig iwF mksF x
abbrev gB (b : List Ins) : Nat := G.wB dig iwF mksF b
abbrev gF (f : Fun) : Nat := G.wF dig iwF mksF f
def gP (p : List Fun) : Nat := (p.map gF).sum
theorem insT_short {x : Ins} (h : MayX x) : (insT x).length + 3 ≤ 28 * gI x := by
  have h1 := lens_le (insW x) 24 fun u hu => (gd_ins h u hu).2
  have h2 : 1 ≤ (insW x).length := by unfold insW; simp; omega
  have h3 : (insW x).length ≤ gI x := by
    show (insX x).length ≤ (insX x).length + _ + _
    omega
  unfold insT
  rw [jn_len]
  simp only [List.length_cons, List.length_nil]
  omega
theorem lines_short : ∀ b : List Ins, (∀ x ∈ b, MayX x) → ((b.flatMap lineW).flatten).length ≤ 28 * (b.map gI).sum
  | [], _ => by simp
  | x :: b, h => by
    have h1 := insT_short (h x (by simp))
    have h2 := lines_short b fun y hy => h y (by simp [hy])
    have e : ((lineW x ++ b.flatMap lineW).flatten).length = (insT x).length + 3 + ((b.flatMap lineW).flatten).length := by
      rw [List.flatten_append, List.length_append]; simp [lineW]
    rw [List.flatMap_cons, e, List.map_cons, List.sum_cons]
    omega
theorem blks_short : ∀ (bl : List (List Ins)) (k : Nat), k + bl.length ≤ 256 → (∀ b ∈ bl, ∀ x ∈ b, MayX x) → ((blksW k bl).flatten).length ≤ 28 * (bl.map gB).sum
  | [], _, _, _ => by simp [blksW]
  | b :: bl, k, hk, h => by
    simp only [List.length_cons] at hk
    have h1 := lines_short b (h b (by simp))
    have h2 := blks_short bl (k + 1) (by omega) fun c hc => h c (by simp [hc])
    have h3 := lab_len (n := (k : Int)) ⟨by omega, by omega⟩
    have e : ((blksW k (b :: bl)).flatten).length = (labW (k : Int)).length + 2 + ((b.flatMap lineW).flatten).length + ((blksW (k + 1) bl).flatten).length := by
      rw [blksW, blkW_line]; simp; omega
    have e2 : gB b = (b.map gI).sum + 2 := rfl
    rw [e, List.map_cons, List.sum_cons, e2]
    omega
theorem parT_len (ps : List Int) : (parT ps).length ≤ ps.length * 2 := by
  have := jn_short (sep := [32]) (l := ps.map letL) (m := 1) (fun x hx => by
    obtain ⟨t, _, rfl⟩ := List.mem_map.1 hx
    exact letL_len t) (by simp)
  rw [List.length_map] at this
  exact this
theorem fun_short {f : Fun} (h : MayG f) : (funT f).length ≤ 28 * gF f := by
  obtain ⟨g1, g2, g3, g4, g5, g6, g7⟩ := h
  obtain ⟨_, n2, _⟩ := nam_parts g1
  have h1 := blks_short f.2.2.2.1 0 (by omega) g7
  have h2 := parT_len f.2.1
  have h3 := letL_len f.2.2.1
  have e : (funT f).length = 5 + f.1.length + 1 + (parT f.2.1).length + 2 + (letL f.2.2.1).length + 3 + ((blksW 0 f.2.2.2.1).flatten).length + 2 := by
    unfold funT
    rw [jn_nil]
    unfold funW headW
    simp
    omega
  have e2 : gF f = f.2.1.length + (f.2.2.2.1.map gB).sum + 7 := rfl
  rw [e, e2]
  omega
theorem prog_short : ∀ p : List Fun, (∀ f ∈ p, MayG f) → (progT p).length ≤ 28 * gP p
  | [], _ => by simp [progT, jn]
  | f :: p, h => by
    have h1 := fun_short (h f (by simp))
    have h2 := prog_short p fun g hg => h g (by simp [hg])
    have e : progT (f :: p) = funT f ++ progT p := by unfold progT; rw [jn_nil, jn_nil]; simp
    have e2 : gP (f :: p) = gF f + gP p := by simp [gP]
    rw [e, List.length_append, e2]
    omega
theorem mem_sum {α : Type} (g : α → Nat) {l : List α} {x : α} (h : x ∈ l) : g x ≤ (l.map g).sum := by
  induction l with
  | nil => cases h
  | cons y l ih =>
    rw [List.map_cons, List.sum_cons]
    rcases List.mem_cons.1 h with rfl | h
    · omega
    · have := ih h; omega
/-- A program that may be written, and is not too great. -/
def Sm (p : List Fun) : Prop := MayP p ∧ gP p ≤ 2300 ∧ ∀ f ∈ p, ∀ b ∈ f.2.2.2.1, ∀ x ∈ b, x.2.2.2.2.1.length ≤ 1000 ∧ x.2.2.2.2.2.1.length ≤ 1000
theorem lines_len (b : List Ins) : (b.flatMap lineW).length = 3 * b.length := by
  induction b with
  | nil => rfl
  | cons x b ih => rw [List.flatMap_cons, List.length_append, ih]; simp [lineW]; omega
theorem gI_pos (x : Ins) : 1 ≤ gI x := by
  show 1 ≤ (insX x).length + _ + _
  have : 1 ≤ (insX x).length := by unfold insX G.insS; simp; omega
  omega
theorem sum_pos {b : List Ins} : b.length ≤ (b.map gI).sum := by
  induction b with
  | nil => simp
  | cons x b ih => have := gI_pos x; rw [List.map_cons, List.sum_cons, List.length_cons]; omega
theorem blksW_few (bl : List (List Ins)) : ∀ k, (blksW k bl).length ≤ 3 * (bl.map gB).sum := by
  induction bl with
  | nil => intro k; simp [blksW]
  | cons b bl ih =>
    intro k
    have h1 := ih (k + 1)
    have h2 := sum_pos (b := b)
    have e : gB b = (b.map gI).sum + 2 := rfl
    rw [blksW, blkW_line, List.length_append, List.length_append, lines_len, List.map_cons, List.sum_cons, e]
    simp only [List.length_cons, List.length_nil]
    omega
theorem fits_nm {op n : Int} {ar tt : List Int} {nm : List UInt8} (h10 : ¬ op = 10) (h21 : ¬ op = 21) (h : Fits namF shpF tksF op n ar tt nm) : nm = [] := by
  unfold Fits at h
  simp only [h10, h21, if_false] at h
  grind (splits := 24)
theorem fits_few {op n : Int} {ar tt : List Int} {nm : List UInt8} (h20 : ¬ op = 20) (h21 : ¬ op = 21) (h : Fits namF shpF tksF op n ar tt nm) : tt.length ≤ 2 ∧ ar.length ≤ 2 := by
  have ht2 : tksF op ≤ 2 := by unfold tksF L5.takes; exact List.length_filter_le _ _
  unfold Fits at h
  simp only [h20, h21, if_false] at h
  grind (splits := 24)
theorem Sm.fin7 {p : List Fun} (h : Sm p) {f : Fun} (hf : f ∈ p) {b : List Ins} (hb : b ∈ f.2.2.2.1) {x : Ins} (hx : x ∈ b) : Fin7 x := by
  obtain ⟨hM, _, hL⟩ := h
  obtain ⟨l1, l2⟩ := hL f hf b hb x hx
  have hm := (hM.1 f hf).2.2.2.2.2.2 b hb x hx
  obtain ⟨op, id, n, ty, ar, tt, nm, pl⟩ := x
  obtain ⟨g1, g2, g3, g4, g5, g6⟩ := hm
  dsimp only at g1 g2 g3 g4 g5 g6 l1 l2
  refine ⟨?_, fits_i64 g6, fun i hi => ?_, fun i hi => ?_, l1, l2, ?_, ?_, ?_⟩
  · show I64 id
    by_cases hz : mksF op ty = 0
    · have := g2 hz; unfold I64; omega
    · have := g3 hz; unfold I64; omega
  · have := g4 i hi; unfold I64; omega
  · have := g5 i hi; unfold I64; omega
  · show nm.length ≤ 1000
    by_cases h10 : op = 10
    · subst h10; simp [Fits] at g6; have := (shp_parts g6.2.2.2).2.1; omega
    · by_cases h21 : op = 21
      · subst h21; simp [Fits] at g6; have := (nam_parts g6.2.2.2).2.1; omega
      · have : nm = [] := fits_nm h10 h21 g6
        subst this; simp
  · show memOp op → ar ≠ []
    intro hmem e
    subst e
    unfold memOp at hmem
    rcases hmem with rfl | rfl | rfl | rfl | rfl | rfl <;> simp [Fits] at g6
  · show op = 20 → tt.length = ar.length ∧ 1 ≤ ar.length
    intro e
    subst e
    simp [Fits] at g6
    refine ⟨g6.1.symm, ?_⟩
    have : tt.length ≠ 0 := fun e => g6.2.1 (List.length_eq_zero_iff.1 e)
    omega
theorem Sm.fin {p : List Fun} (h : Sm p) : FinP p := by
  refine ⟨by have := h.1.2.1; omega, fun f hf => ?_⟩
  have hm := h.1.1 f hf
  have h1 := fun_short hm
  have h3 := mem_sum gF hf
  have e3 : gP p = (p.map gF).sum := rfl
  have e2 : gF f = f.2.1.length + (f.2.2.2.1.map gB).sum + 7 := rfl
  have h4 := blksW_few f.2.2.2.1 0
  have h5 := h.2.1
  obtain ⟨g1, g2, _⟩ := hm
  refine ⟨⟨by have := (nam_parts g1).2.1; omega, by omega, by omega, fun b hb x hx => h.fin7 hf hb hx⟩, by omega⟩
theorem Sm.size {p : List Fun} (h : Sm p) : (bs (progT p)).size ≤ 65536 := by
  have h1 := prog_short p h.1.1
  have h2 := h.2.1
  rw [bs_size]; omega
/-- How great an instruction is, held against what the laws count. -/
theorem gI_le {x : Ins} (h : MayX x) : gI x ≤ 15 * wI x := by
  obtain ⟨op, id, n, ty, ar, tt, nm, pl⟩ := x
  obtain ⟨g1, g2, g3, g4, g5, g6⟩ := h
  dsimp only at g6
  have hw : wI (op, id, n, ty, ar, tt, nm, pl) = 1 + ar.length / 4 + tt.length / 4 + nm.length / 30 := rfl
  have hg : gI (op, id, n, ty, ar, tt, nm, pl) ≤ 3 + (G.opdS dig (op, id, n, ty, ar, tt, nm, pl)).length + ar.length + tt.length := by
    show (insX (op, id, n, ty, ar, tt, nm, pl)).length + ar.length + tt.length ≤ _
    unfold insX G.insS
    dsimp only
    simp only [List.length_append, List.length_cons, List.length_nil]
    split <;> simp <;> omega
  rw [hw]
  refine Nat.le_trans hg ?_
  by_cases h20 : op = 20
  · subst h20
    simp [Fits] at g6
    have := G.pairs_len (dig := dig) tt ar g6.1
    have e : (G.opdS dig (20, id, n, ty, ar, tt, nm, pl)) = (tt.zip ar).flatMap fun q => [98 :: dig q.1, 37 :: dig q.2] := by simp [G.opdS]
    rw [e, this]
    omega
  by_cases h21 : op = 21
  · subst h21
    simp [Fits] at g6
    obtain ⟨rfl, _⟩ := g6
    have e : (G.opdS dig (21, id, n, ty, ar, [], nm, pl)).length ≤ 2 + ar.length := by
      simp only [G.opdS]
      simp
      split <;> simp <;> omega
    simp only [List.length_nil]
    omega
  have ht := fits_few h20 h21 g6
  have e : (G.opdS dig (op, id, n, ty, ar, tt, nm, pl)).length ≤ 1 + ar.length + tt.length := by
    unfold G.opdS
    dsimp only
    repeat' split
    all_goals first
      | (exfalso; omega)
      | (simp; done)
      | (simp; omega)
  omega
theorem sum_le15 {α : Type} (g k : α → Nat) (l : List α) (h : ∀ x ∈ l, g x ≤ 15 * k x) : (l.map g).sum ≤ 15 * (l.map k).sum := by
  induction l with
  | nil => simp
  | cons x l ih =>
    have h1 := h x (by simp)
    have h2 := ih fun y hy => h y (by simp [hy])
    simp only [List.map_cons, List.sum_cons]
    omega
theorem sum_add {α : Type} (g : α → Nat) (c : Nat) (l : List α) : (l.map fun x => g x + c).sum = (l.map g).sum + c * l.length := by
  induction l with
  | nil => simp
  | cons x l ih => simp only [List.map_cons, List.sum_cons, ih, List.length_cons, Nat.mul_add]; omega
theorem Sm.of_light {p : List Fun} (h : MayP p) (hl : lightB p = true) : Sm p := by
  have hT : total p ≤ 150 := by simpa [lightB] using hl
  have hB : ∀ f ∈ p, gF f ≤ 15 * (wF f + 1) := by
    intro f hf
    have hm := (h.1 f hf).2.2.2.2.2.2
    have h1 : (f.2.2.2.1.map gB).sum ≤ 15 * wBs f.2.2.2.1 + 2 * f.2.2.2.1.length := by
      have e : (f.2.2.2.1.map gB).sum = (f.2.2.2.1.map fun b => (b.map gI).sum).sum + 2 * f.2.2.2.1.length := sum_add _ 2 _
      rw [e]
      have := sum_le15 (fun b : List Ins => (b.map gI).sum) wB f.2.2.2.1 fun b hb => sum_le15 gI wI b fun x hx => gI_le (hm b hb x hx)
      have e2 : wBs f.2.2.2.1 = (f.2.2.2.1.map wB).sum := rfl
      omega
    have e2 : gF f = f.2.1.length + (f.2.2.2.1.map gB).sum + 7 := rfl
    have e3 : wF f = f.2.2.2.1.length + f.2.1.length + f.1.length / 30 + wBs f.2.2.2.1 := rfl
    omega
  have hS := sum_le15 gF (fun f => wF f + 1) p hB
  have e : (p.map fun f => wF f + 1).sum = (p.map wF).sum + 1 * p.length := sum_add _ 1 _
  have e2 : total p = p.length + (p.map wF).sum := rfl
  have e3 : gP p = (p.map gF).sum := rfl
  refine ⟨h, by omega, fun f hf b hb x hx => ?_⟩
  have k1 := mem_sum wI hx
  have k2 := mem_sum wB hb
  have k3 := mem_sum wF hf
  have e4 : wB b = (b.map wI).sum := rfl
  have e5 : wF f = wF0 f + (f.2.2.2.1.map wB).sum := rfl
  have e6 : wI x = 1 + x.2.2.2.2.1.length / 4 + x.2.2.2.2.2.1.length / 4 + x.2.2.2.2.2.2.1.length / 30 := rfl
  omega
end Go.Proofs.YtahhbckccdigoaaGreatDoor
