/- Layer 7: a program may be written just if each of its parts fits. -/
import Derived.Test.YtahhbckccdigoaaGreatDoorMgAL
import Derived.Test.YtahhbckccdigoaaGreatDoorMgAV
import Derived.Test.YtahhbckccdigoaaGreatDoorMgAW
import Derived.Test.YtahhbckccdigoaaGreatDoorMgAZ
import Derived.Test.YtahhbckccdigoaaGreatDoorMgBB
import Derived.Test.YtahhbckccdigoaaGreatDoorMgBJ
set_option maxHeartbeats 8000000
set_option maxRecDepth 20000
namespace Go.Proofs.YtahhbckccdigoaaGreatDoor
open Go Go.RowKit
open G (Tok Er Ins Fun peek0 peek1 atOf MayI MayF Fits Vals Labs)
abbrev MayX (x : Ins) : Prop := MayI namF shpF tksF goodF mksF x
abbrev MayG (f : Fun) : Prop := MayF namF shpF tksF goodF mksF f
theorem any_byd (most : Int) (l : List Int) : l.any (byd most) = false ↔ ∀ a ∈ l, 0 <= a /\ a <= most := by
  rw [List.any_eq_false]
  refine ⟨fun h a ha => ?_, fun h a ha => ?_⟩
  · have := h a ha
    simp only [byd, Bool.or_eq_true, decide_eq_true_eq] at this
    omega
  · have := h a ha
    simp only [byd, Bool.or_eq_true, decide_eq_true_eq]
    omega
theorem tks_at : tksF 1 = 0 /\ tksF 29 = 0 /\ tksF 10 = 0 /\ tksF 11 = 1 /\ tksF 12 = 1 /\ tksF 15 = 1 /\ tksF 13 = 2 /\ tksF 14 = 2 /\ tksF 23 = 0 := by decide
theorem tkN_eq (k : Int) : tkN k = tksF k := rfl
theorem len0 {α : Type} {l : List α} : l.length = 0 ↔ l = [] := List.length_eq_zero_iff
theorem fits_iff {op n : Int} {ar tt : List Int} {nm : List UInt8} (hn : I64 n) : (cntOk op ar.length tt.length = true /\ rngOk op n = true /\ namC op nm = 0) ↔ Fits namF shpF tksF op n ar tt nm := by
  obtain ⟨t1, t29, t10, t11, t12, t15, t13, t14, t23⟩ := tks_at
  obtain ⟨n1, n2⟩ := hn
  have hnf : namF nm = L2.nameB nm := rfl
  by_cases h1 : op = 1
  · subst h1
    simp [Fits, cntOk, rngOk, namC, tkN_eq, t1]
    grind
  by_cases h29 : op = 29
  · subst h29
    simp [Fits, cntOk, rngOk, namC, tkN_eq, t29]
    grind
  by_cases h10 : op = 10
  · subst h10
    simp [Fits, cntOk, rngOk, namC, tkN_eq, t10]
    grind
  by_cases h20 : op = 20
  · subst h20
    simp [Fits, cntOk, rngOk, namC]
    grind
  by_cases h21 : op = 21
  · subst h21
    simp [Fits, cntOk, rngOk, namC]
    grind
  by_cases h28 : op = 28
  · subst h28
    simp [Fits, cntOk, rngOk, namC]
    grind
  by_cases h11 : op = 11
  · subst h11
    simp [Fits, cntOk, rngOk, namC, tkN_eq, t11]
    grind
  by_cases h12 : op = 12
  · subst h12
    simp [Fits, cntOk, rngOk, namC, tkN_eq, t12]
    grind
  by_cases h15 : op = 15
  · subst h15
    simp [Fits, cntOk, rngOk, namC, tkN_eq, t15]
    grind
  by_cases h13 : op = 13
  · subst h13
    simp [Fits, cntOk, rngOk, namC, tkN_eq, t13]
    grind
  by_cases h14 : op = 14
  · subst h14
    simp [Fits, cntOk, rngOk, namC, tkN_eq, t14]
    grind
  by_cases h23 : op = 23
  · subst h23
    simp [Fits, cntOk, rngOk, namC, tkN_eq, t23]
    grind
  by_cases h24 : op = 24
  · subst h24
    simp [Fits, cntOk, rngOk, namC]
    grind
  by_cases h26 : op = 26
  · subst h26
    simp [Fits, cntOk, rngOk, namC]
    grind
  by_cases h27 : op = 27
  · subst h27
    simp [Fits, cntOk, rngOk, namC]
    grind
  unfold Fits cntOk rngOk namC
  simp only [h1, h29, h10, h20, h21, h28, h11, h12, h15, h13, h14, h23, h24, h26, h27, or_false, if_false, tkN_eq, Bool.and_eq_true, decide_eq_true_eq]
  constructor
  · rintro ⟨⟨a, b⟩, ⟨c, d⟩, e⟩
    have a' : (ar.length : Int) = tksF op := of_decide_eq_true a
    refine ⟨by omega, len0.1 (by omega), by omega, ?_⟩
    by_cases hm : nm = []
    · exact hm
    · rw [if_neg hm] at e; cases e
  · rintro ⟨a, rfl, rfl, rfl⟩
    exact ⟨⟨decide_eq_true (show (ar.length : Int) = tksF op by omega), rfl⟩, ⟨by omega, by omega⟩, rfl⟩
theorem fits_i64 {op n : Int} {ar tt : List Int} {nm : List UInt8} (h : Fits namF shpF tksF op n ar tt nm) : I64 n := by
  unfold I64
  unfold Fits at h
  by_cases e : op = 1
  · rw [if_pos e] at h
    have k := h.2.2.2.1
    have j := h.2.2.2.2
    omega
  rw [if_neg e] at h
  clear e
  by_cases e : op = 29
  · rw [if_pos e] at h
    have k := h.2.2.2.1
    have j := h.2.2.2.2
    omega
  rw [if_neg e] at h
  clear e
  by_cases e : op = 10
  · rw [if_pos e] at h
    have k := h.2.2.1
    omega
  rw [if_neg e] at h
  clear e
  by_cases e : op = 20
  · rw [if_pos e] at h
    have k := h.2.2.1
    omega
  rw [if_neg e] at h
  clear e
  by_cases e : op = 21
  · rw [if_pos e] at h
    have k := h.2.1
    have j := h.2.2.1
    omega
  rw [if_neg e] at h
  clear e
  by_cases e : op = 28
  · rw [if_pos e] at h
    have k := h.2.2.1
    omega
  rw [if_neg e] at h
  clear e
  by_cases e : op = 11 \/ op = 12 \/ op = 15
  · rw [if_pos e] at h
    have k := h.2.2.2.1
    have j := h.2.2.2.2
    omega
  rw [if_neg e] at h
  clear e
  by_cases e : op = 13 \/ op = 14
  · rw [if_pos e] at h
    have k := h.2.2.2.1
    have j := h.2.2.2.2
    omega
  rw [if_neg e] at h
  clear e
  by_cases e : op = 23
  · rw [if_pos e] at h
    have k := h.2.2.2.1
    have j := h.2.2.2.2
    omega
  rw [if_neg e] at h
  clear e
  by_cases e : op = 24
  · rw [if_pos e] at h
    have k := h.2.2.2.1
    have j := h.2.2.2.2
    omega
  rw [if_neg e] at h
  clear e
  by_cases e : op = 26
  · rw [if_pos e] at h
    have k := h.2.2.1
    omega
  rw [if_neg e] at h
  clear e
  by_cases e : op = 27
  · rw [if_pos e] at h
    have k := h.2.2.1
    omega
  rw [if_neg e] at h
  clear e
  have k := h.2.2.1
  omega
theorem good_eq (op t : Int) : (opOk op && L5.may op t) = goodF op t := rfl
theorem check_iff {x : Ins} (hn : I64 x.2.2.1) : checkC x = 0 ↔ MayX x := by
  obtain ⟨op, id, n, ty, ar, tt, nm, pl⟩ := x
  dsimp only at hn
  unfold checkC MayX MayI
  dsimp only
  rw [good_eq]
  have hf := fits_iff (op := op) (n := n) (ar := ar) (tt := tt) (nm := nm) hn
  have h1 := any_byd 1048576 ar
  have h2 := any_byd 255 tt
  have h3 : numOk op id ty = true ↔ ((mksF op ty = 0 -> id = -1) /\ (mksF op ty ≠ 0 -> 0 <= id /\ id <= 1048576)) := by
    unfold numOk mksF
    by_cases e : L5.imakes op ty = 0
    · simp [e]
    · simp only [e, if_false, Bool.not_eq_true', byd, Bool.or_eq_false_iff, decide_eq_false_iff_not]
      constructor
      · intro h; exact ⟨fun k => absurd k (by simp), fun _ => by omega⟩
      · intro h; have := h.2 e; omega
  cases g : goodF op ty with
  | false => simp
  | true =>
    cases g3 : numOk op id ty with
    | false =>
      rw [g3] at h3
      simp only [Bool.true_eq_false, if_false, if_true, true_and]
      constructor
      · intro k; cases k
      · rintro ⟨a, b, _⟩; exact absurd (h3.2 ⟨a, b⟩) (by simp)
    | true =>
      have h3' := h3.1 g3
      cases g4 : cntOk op ar.length tt.length with
      | false =>
        rw [g4] at hf
        simp only [Bool.true_eq_false, if_false, if_true, true_and]
        constructor
        · intro k; cases k
        · rintro ⟨_, _, _, _, f⟩; exact absurd (hf.2 f).1 (by simp)
      | true =>
        cases g5 : rngOk op n with
        | false =>
          rw [g5] at hf
          simp only [Bool.true_eq_false, if_false, if_true, true_and]
          constructor
          · intro k; cases k
          · rintro ⟨_, _, _, _, f⟩; exact absurd (hf.2 f).2.1 (by simp)
        | true =>
          cases g6 : ar.any (byd 1048576) with
          | true =>
            rw [g6] at h1
            simp only [Bool.true_eq_false, if_false, if_true, true_and]
            constructor
            · intro k; cases k
            · rintro ⟨_, _, v, _, _⟩; exact absurd (h1.2 v) (by simp)
          | false =>
            cases g7 : tt.any (byd 255) with
            | true =>
              rw [g7] at h2
              simp only [Bool.true_eq_false, Bool.false_eq_true, if_false, if_true, true_and]
              constructor
              · intro k; cases k
              · rintro ⟨_, _, _, v, _⟩; exact absurd (h2.2 v) (by simp)
            | false =>
              simp only [Bool.true_eq_false, Bool.false_eq_true, if_false, true_and]
              constructor
              · intro k; exact ⟨h3'.1, h3'.2, h1.1 g6, h2.1 g7, hf.1 ⟨g4, g5, k⟩⟩
              · rintro ⟨_, _, _, _, f⟩; exact (hf.2 f).2.2
theorem head_iff (f : Fun) : headC f = 0 ↔ (f.2.1.length <= 8 /\ f.2.2.2.1.length <= 256 /\ namF f.1 = true /\ 0 <= f.2.2.1 /\ f.2.2.1 <= 2 /\ ∀ t ∈ f.2.1, 1 <= t /\ t <= 2) := by
  have hp : parB f.2.1 = false ↔ ∀ t ∈ f.2.1, 1 <= t /\ t <= 2 := by
    unfold parB
    rw [List.any_eq_false]
    refine ⟨fun h t ht => ?_, fun h t ht => ?_⟩
    · have := h t ht
      simp [pasB] at this
      omega
    · have := h t ht
      simp [pasB]
      omega
  unfold headC namF
  by_cases h1 : 8 < f.2.1.length \/ 256 < f.2.2.2.1.length
  · rw [if_pos h1]; constructor
    · intro k; cases k
    · rintro ⟨a, b, _⟩; omega
  rw [if_neg h1]
  cases h2 : L2.nameB f.1 with
  | false => simp
  | true =>
    rw [if_neg (by simp)]
    by_cases h3 : (f.2.2.1 < 0 \/ 2 < f.2.2.1) \/ parB f.2.1 = true
    · rw [if_pos h3]; constructor
      · intro k; cases k
      · rintro ⟨_, _, _, c, d, e⟩
        rcases h3 with h3 | h3
        · omega
        · rw [hp.2 e] at h3; cases h3
    · rw [if_neg h3]
      have h4 : parB f.2.1 = false := by
        cases e : parB f.2.1 with
        | false => rfl
        | true => exact absurd (.inr e) h3
      refine ⟨fun _ => ⟨by omega, by omega, rfl, by omega, by omega, hp.1 h4⟩, fun _ => rfl⟩
theorem runI_iff (b : List Ins) : ∀ m, m <= 4096 -> ((runI m b).2 = 0 ↔ (∀ x ∈ b, checkC x = 0) /\ m + b.length <= 4096) /\ ((runI m b).2 = 0 -> (runI m b).1 = m + b.length) := by
  induction b with
  | nil => intro m hm; simp [runI, hm]
  | cons x b ih =>
    intro m hm
    by_cases h1 : m = 4096
    · subst h1
      simp only [runI, if_true, List.length_cons]
      exact ⟨⟨fun k => (by cases k), fun k => (by omega)⟩, fun k => (by cases k)⟩
    · by_cases h2 : checkC x = 0
      · rw [runI, if_neg h1, if_neg (by simp [h2])]
        obtain ⟨i1, i2⟩ := ih (m + 1) (by omega)
        refine ⟨?_, fun k => by rw [i2 k, List.length_cons]; omega⟩
        rw [i1]
        simp only [List.mem_cons, forall_eq_or_imp, h2, true_and, List.length_cons]
        constructor <;> rintro ⟨a, b⟩ <;> exact ⟨a, by omega⟩
      · rw [runI, if_neg h1, if_pos h2]
        refine ⟨⟨fun k => absurd k h2, fun k => absurd (k.1 x (by simp)) h2⟩, fun k => absurd k h2⟩
def szB (l : List (List Ins)) : Nat := (l.map List.length).sum
theorem runB_iff (l : List (List Ins)) : ∀ m, m <= 4096 -> ((runB m l).2 = 0 ↔ (∀ b ∈ l, ∀ x ∈ b, checkC x = 0) /\ m + szB l <= 4096) /\ ((runB m l).2 = 0 -> (runB m l).1 = m + szB l) := by
  induction l with
  | nil => intro m hm; simp [runB, szB, hm]
  | cons b l ih =>
    intro m hm
    obtain ⟨j1, j2⟩ := runI_iff b m hm
    have hs : szB (b :: l) = b.length + szB l := by simp [szB]
    by_cases h1 : (runI m b).2 = 0
    · rw [runB, if_neg (by simp [h1]), j2 h1]
      obtain ⟨k1, k2⟩ := j1.1 h1
      obtain ⟨i1, i2⟩ := ih (m + b.length) k2
      rw [hs]
      refine ⟨?_, fun k => by rw [i2 k]; omega⟩
      rw [i1]
      simp only [List.mem_cons, forall_eq_or_imp]
      constructor
      · rintro ⟨a, c⟩; exact ⟨⟨k1, a⟩, by omega⟩
      · rintro ⟨⟨_, a⟩, c⟩; exact ⟨a, by omega⟩
    · rw [runB, if_pos h1, hs]
      refine ⟨⟨fun k => absurd k h1, fun k => absurd (j1.2 ⟨k.1 b (by simp), by omega⟩) h1⟩, fun k => absurd k h1⟩
def szP (p : List Fun) : Nat := (p.map fun x => szB x.2.2.2.1).sum
theorem whole_iff (p : List Fun) : ∀ i m, i <= 32 -> m <= 4096 -> ((wholeF i m p).1 = 0 ↔ (∀ f ∈ p, headC f = 0 /\ ∀ b ∈ f.2.2.2.1, ∀ x ∈ b, checkC x = 0) /\ i + p.length <= 32 /\ m + szP p <= 4096) /\ ((wholeF i m p).1 = 0 -> wholeF i m p = (0, 0)) := by
  induction p with
  | nil => intro i m h1 h2; simp [wholeF, szP, h1, h2]
  | cons f p ih =>
    intro i m h1 h2
    have hs : szP (f :: p) = szB f.2.2.2.1 + szP p := by simp [szP]
    obtain ⟨j1, j2⟩ := runB_iff f.2.2.2.1 m h2
    rw [hs]
    by_cases k1 : i = 32
    · subst k1
      rw [whole_many, List.length_cons]
      exact ⟨⟨fun k => (by cases k), fun k => (by omega)⟩, fun k => (by cases k)⟩
    by_cases k2 : headC f = 0
    · by_cases k3 : (runB m f.2.2.2.1).2 = 0
      · rw [whole_next p k1 k2 k3, j2 k3]
        obtain ⟨b1, b2⟩ := j1.1 k3
        obtain ⟨i1, i2⟩ := ih (i + 1) (m + szB f.2.2.2.1) (by omega) b2
        refine ⟨?_, i2⟩
        rw [i1]
        simp only [List.mem_cons, forall_eq_or_imp, List.length_cons]
        constructor
        · rintro ⟨a, c, d⟩; exact ⟨⟨⟨k2, b1⟩, a⟩, by omega, by omega⟩
        · rintro ⟨⟨_, a⟩, c, d⟩; exact ⟨a, by omega, by omega⟩
      · rw [whole_body p k1 k2 k3]
        refine ⟨⟨fun k => absurd k k3, fun k => absurd (j1.2 ⟨(k.1 f (by simp)).2, by omega⟩) k3⟩, fun k => absurd k k3⟩
    · rw [whole_head m p k1 k2]
      refine ⟨⟨fun k => absurd k k2, fun k => absurd (k.1 f (by simp)).1 k2⟩, fun k => absurd k k2⟩
def MayP (p : List Fun) : Prop := (∀ f ∈ p, MayG f) /\ p.length <= 32 /\ szP p <= 4096
theorem whole_may {p : List Fun} (hn : ∀ f ∈ p, ∀ b ∈ f.2.2.2.1, ∀ x ∈ b, I64 x.2.2.1) : (wholeF 0 0 p).1 = 0 ↔ MayP p := by
  rw [(whole_iff p 0 0 (by omega) (by omega)).1]
  unfold MayP
  constructor
  · rintro ⟨a, b, c⟩
    refine ⟨fun f hf => ?_, by omega, by omega⟩
    obtain ⟨a1, a2⟩ := a f hf
    obtain ⟨b1, b2, b3, b4, b5, b6⟩ := (head_iff f).1 a1
    exact ⟨b3, b1, b6, b4, b5, b2, fun b hb x hx => (check_iff (hn f hf b hb x hx)).1 (a2 b hb x hx)⟩
  · rintro ⟨a, b, c⟩
    refine ⟨fun f hf => ?_, by omega, by omega⟩
    obtain ⟨b3, b1, b6, b4, b5, b2, b7⟩ := a f hf
    exact ⟨(head_iff f).2 ⟨b1, b2, b3, b4, b5, b6⟩, fun b hb x hx => (check_iff (hn f hf b hb x hx)).2 (b7 b hb x hx)⟩
theorem may_i64 {p : List Fun} (h : MayP p) : ∀ f ∈ p, ∀ b ∈ f.2.2.2.1, ∀ x ∈ b, I64 x.2.2.1 := fun f hf b hb x hx => fits_i64 ((h.1 f hf).2.2.2.2.2.2 b hb x hx).2.2.2.2.2
theorem whole_zero {p : List Fun} (h : MayP p) : wholeF 0 0 p = (0, 0) := (whole_iff p 0 0 (by omega) (by omega)).2 ((whole_may (may_i64 h)).2 h)
end Go.Proofs.YtahhbckccdigoaaGreatDoor
namespace Go.Proofs.YtahhbckccdigoaaGreatDoor
open Go Go.RowKit
open G (Tok Er Ins Fun peek0 peek1 atOf MayI MayF Fits Vals Labs noI noB noF)
open L2 (Wd wordOk)
abbrev insX (x : Ins) : List (List UInt8) := G.insS dig iwF mksF x
abbrev funX (f : Fun) : List (List UInt8) := G.funS dig iwF mksF letL' f
theorem insW_eq (x : Ins) : insW x = insX x := rfl
def Gd (u : List UInt8) : Prop := wordOk u /\ u.length <= 24
theorem gd_tog {u : List UInt8} (h0 : u ≠ []) (h1 : ∀ c ∈ u, L2.togB (UInt8.toNat c) = true) (h2 : u.length <= 24) : Gd u := ⟨.inr ⟨h0, h1⟩, h2⟩
theorem gd_sign {c : UInt8} {n : Int} (hc : L2.togB c.toNat = true) (hn : I64 n) : Gd (c :: dig n) := by
  refine gd_tog (by simp) (fun d hd => ?_) (by have := dig_len hn; simp; omega)
  rcases List.mem_cons.1 hd with rfl | hd
  · exact hc
  · exact dig_tog n d hd
theorem gd_dig {n : Int} (hn : I64 n) : Gd (dig n) := gd_tog (dig_ne n).1 (dig_tog n) (by have := dig_len hn; omega)
theorem gd_opd {op n : Int} {ar tt : List Int} {nm : List UInt8} (id ty pl : Int) (hF : Fits namF shpF tksF op n ar tt nm) (hv : Vals ar) (hb : Labs tt) : ∀ s ∈ G.opdS dig (op, id, n, ty, ar, tt, nm, pl), Gd s := by
  have hn := fits_i64 hF
  have sv : ∀ m ∈ ar, Gd (37 :: dig m) := fun m hm => gd_sign (by decide) (by have := hv m hm; unfold I64; omega)
  have sl : ∀ m ∈ tt, Gd (98 :: dig m) := fun m hm => gd_sign (by decide) (by have := hb m hm; unfold I64; omega)
  intro s hs
  unfold G.opdS at hs
  dsimp only at hs
  split at hs
  · simp only [List.mem_singleton] at hs
    subst hs
    exact gd_dig hn
  split at hs
  · rename_i h10
    subst h10
    simp only [List.mem_singleton] at hs
    subst hs
    simp [Fits] at hF
    obtain ⟨k1, k2, k3⟩ := shp_parts hF.2.2.2
    exact gd_tog k1 k3 k2
  split at hs
  · simp only [List.mem_append, List.mem_map, List.mem_singleton] at hs
    rcases hs with (⟨m, hm, rfl⟩ | rfl) | ⟨m, hm, rfl⟩
    · exact sv m (List.mem_of_mem_take hm)
    · exact gd_dig hn
    · exact sv m (List.mem_of_mem_drop hm)
  split at hs
  · simp only [List.mem_flatMap, List.mem_cons, List.not_mem_nil, or_false] at hs
    obtain ⟨q, hq, rfl | rfl⟩ := hs
    · exact sl _ (List.of_mem_zip hq).1
    · exact sv _ (List.of_mem_zip hq).2
  split at hs
  · rename_i h21
    subst h21
    simp only [List.mem_append, List.mem_map, List.mem_singleton] at hs
    rcases hs with (hs | rfl) | ⟨m, hm, rfl⟩
    · split at hs
      · simp only [List.mem_singleton] at hs
        subst hs; exact gd_sign (by decide) hn
      · simp at hs
    · simp [Fits] at hF
      obtain ⟨k1, k2, k3, _⟩ := nam_parts hF.2.2.2
      exact gd_tog k1 k3 k2
    · exact sv m hm
  · simp only [List.mem_append, List.mem_map] at hs
    rcases hs with ⟨m, hm, rfl⟩ | ⟨m, hm, rfl⟩
    · exact sv m hm
    · exact sl m hm
theorem gd_ins {x : Ins} (h : MayX x) : ∀ s ∈ insX x, Gd s := by
  obtain ⟨op, id, n, ty, ar, tt, nm, pl⟩ := x
  obtain ⟨g1, g2, g3, g4, g5, g6⟩ := h
  dsimp only at g1 g2 g3 g4 g5 g6
  intro s hs
  unfold insX G.insS at hs
  dsimp only at hs
  rw [List.mem_append, List.mem_append] at hs
  rcases hs with (hs | hs) | hs
  · by_cases hm : mksF op ty = 0
    · rw [if_neg (by simpa using hm)] at hs; cases hs
    · rw [if_pos hm] at hs
      simp only [List.mem_cons, List.not_mem_nil, or_false] at hs
      rcases hs with rfl | rfl
      · exact gd_sign (by decide) (by have := g3 hm; unfold I64; omega)
      · exact ⟨.inl ⟨61, rfl, by decide, by decide⟩, by simp⟩
  · simp only [List.mem_singleton] at hs
    subst hs
    obtain ⟨k1, k2⟩ := iw_tog g1
    exact gd_tog k1 k2 (by have := iword_len op ty; unfold iwF; omega)
  · exact gd_opd id ty pl g6 g4 g5 s hs
theorem sep10 : L2.Sep 10 [] := .inl ⟨L2.bla10, rfl⟩
theorem sep32 : L2.Sep 32 [] := .inl ⟨L2.bla32, rfl⟩
theorem alo58 : L2.Alo 58 := ⟨by decide, by decide⟩
theorem alo40 : L2.Alo 40 := ⟨by decide, by decide⟩
theorem alo41 : L2.Alo 41 := ⟨by decide, by decide⟩
theorem alo123 : L2.Alo 123 := ⟨by decide, by decide⟩
theorem alo125 : L2.Alo 125 := ⟨by decide, by decide⟩
theorem lines_wd : ∀ b : List Ins, (∀ x ∈ b, MayX x) -> Wd ((b.flatMap lineW).flatten) (b.flatMap insX)
  | [], _ => Wd.nil
  | x :: b, h => by
    have h1 := (Wd.bla L2.bla32).app ((Wd.bla L2.bla32).app (Wd.join sep10 (insW x) fun u hu => (gd_ins (h x (by simp)) u hu).1))
    have h2 := lines_wd b fun y hy => h y (by simp [hy])
    have e : (lineW x ++ b.flatMap lineW).flatten = ([32] ++ ([32] ++ (jn [32] (insW x) ++ [10]))) ++ (b.flatMap lineW).flatten := by simp [lineW, insT]
    rw [List.flatMap_cons, List.flatMap_cons, e, <- insW_eq x]
    simpa using h1.app h2
theorem lab_ok {n : Int} (hn : I64 n) : wordOk (labW n) := (gd_sign (c := 98) (by decide) hn).1
theorem blks_wd : ∀ (bl : List (List Ins)) (k : Nat), k + bl.length <= 256 -> (∀ b ∈ bl, ∀ x ∈ b, MayX x) -> Wd ((blksW k bl).flatten) (G.blksS dig iwF mksF k bl)
  | [], _, _, _ => Wd.nil
  | b :: bl, k, hk, h => by
    simp only [List.length_cons] at hk
    have h1 : Wd (labW (k : Int) ++ [58]) [labW (k : Int), [58]] := Wd.word (lab_ok ⟨by omega, by omega⟩) (.inr ⟨alo58, rfl⟩)
    have h2 := (h1.app (Wd.bla L2.bla10)).app (lines_wd b (h b (by simp)))
    have h3 := blks_wd bl (k + 1) (by omega) fun c hc => h c (by simp [hc])
    have e : (blksW k (b :: bl)).flatten = (labW (k : Int) ++ [58] ++ [10] ++ (b.flatMap lineW).flatten) ++ (blksW (k + 1) bl).flatten := by
      rw [blksW, blkW_line]; simp
    rw [e]
    exact h2.app h3
theorem ltr_ok {t : Int} : wordOk (letL t) := by
  unfold letL L5.letter
  split
  · exact .inr ⟨by simp, fun c hc => by simp at hc; subst hc; decide⟩
  · split
    · exact .inr ⟨by simp, fun c hc => by simp at hc; subst hc; decide⟩
    · split
      · exact .inr ⟨by simp, fun c hc => by simp at hc; subst hc; decide⟩
      · exact .inr ⟨by simp, fun c hc => by simp at hc; subst hc; decide⟩
theorem fun_wd {f : Fun} (h : MayG f) : Wd (funT f) (funX f) := by
  obtain ⟨g1, g2, g3, g4, g5, g6, g7⟩ := h
  obtain ⟨n1, n2, n3, _⟩ := nam_parts g1
  have w1 : Wd ([102, 117, 110, 99] ++ [32]) [[102, 117, 110, 99]] := Wd.word (.inr ⟨by simp, by decide⟩) sep32
  have w2 : Wd (f.1 ++ [40]) [f.1, [40]] := Wd.word (.inr ⟨n1, n3⟩) (.inr ⟨alo40, rfl⟩)
  have w3 : Wd (parT f.2.1 ++ [41]) (f.2.1.map letL ++ [[41]]) := Wd.join (.inr ⟨alo41, rfl⟩) (f.2.1.map letL) fun u hu => by
    obtain ⟨t, _, rfl⟩ := List.mem_map.1 hu
    exact ltr_ok
  have w4 : Wd [32] [] := Wd.bla L2.bla32
  have w5 : Wd (letL f.2.2.1 ++ [32]) [letL f.2.2.1] := Wd.word ltr_ok sep32
  have w6 : Wd [123] [[123]] := Wd.alo alo123
  have w7 : Wd [10] [] := Wd.bla L2.bla10
  have w8 := blks_wd f.2.2.2.1 0 (by omega) g7
  have w9 : Wd [125] [[125]] := Wd.alo alo125
  have all := w1.app (w2.app (w3.app (w4.app (w5.app (w6.app (w7.app (w8.app (w9.app w7))))))))
  have e : funT f = [102, 117, 110, 99] ++ [32] ++ (f.1 ++ [40] ++ (parT f.2.1 ++ [41] ++ ([32] ++ (letL f.2.2.1 ++ [32] ++ ([123] ++ ([10] ++ ((blksW 0 f.2.2.2.1).flatten ++ ([125] ++ [10])))))))) := by
    unfold funT
    rw [jn_nil]
    unfold funW headW
    simp
  rw [e]
  have e2 : funX f = [[102, 117, 110, 99]] ++ ([f.1, [40]] ++ (f.2.1.map letL ++ [[41]] ++ ([] ++ ([letL f.2.2.1] ++ ([[123]] ++ ([] ++ (G.blksS dig iwF mksF 0 f.2.2.2.1 ++ ([[125]] ++ [])))))))) := by
    unfold funX G.funS
    simp
    rfl
  rw [e2]
  exact all
theorem prog_wd : ∀ p : List Fun, (∀ f ∈ p, MayG f) -> Wd (progT p) (p.flatMap funX)
  | [], _ => Wd.nil
  | f :: p, h => by
    have h1 := (fun_wd (h f (by simp))).app (prog_wd p fun g hg => h g (by simp [hg]))
    have e : progT (f :: p) = funT f ++ progT p := by unfold progT; rw [jn_nil, jn_nil]; simp
    rw [e, List.flatMap_cons]
    exact h1
theorem text_back {p : List Fun} (h : MayP p) : ∃ p', textG (bs (progT p)) = .ok p' /\ p'.map noF = p.map noF := by
  obtain ⟨ws, h1, h2⟩ := (prog_wd p h.1).words (s := bs (progT p)) (bs_data _)
  have hT : (toks (bs (progT p)) ws).map Prod.fst = p.flatMap funX := by
    rw [<- h2]
    unfold toks
    rw [List.map_map]
    refine List.map_congr_left fun q _ => ?_
    show ((bs (progT p)).extract q.1 q.2).data.toList = _
    rw [ext_list]; rfl
  obtain ⟨p', m, h3, h4⟩ := G.program_rd (E := ((bs (progT p)).size : Int)) (mks := mksF) (tks := tksF) wordsF h.1 h.2.1 h.2.2 hT
  refine ⟨p', ?_, h4⟩
  unfold textG
  rw [h1]
  show (match progG ((bs (progT p)).size : Int) (toks (bs (progT p)) ws) with | .ok ((xs, _), _) => .ok xs | .error er => .error er) = (.ok p' : Except Er (List Fun))
  unfold progG
  rw [h3]
end Go.Proofs.YtahhbckccdigoaaGreatDoor
namespace Go.Proofs.YtahhbckccdigoaaGreatDoor.G
section
variable {E : Int} {num : List UInt8 -> Int × Int} {idx : List UInt8 -> Int -> Option Int} {nam : List UInt8 -> Bool} {shp : List UInt8 -> Int} {tks : Int -> Nat} {fnd : List UInt8 -> Int × Int} {mks : Int -> Int -> Int} {prt : Nat -> List UInt8 -> Bool} {l : List Tok}
def Fit {α : Type} (E : Int) (l : List Tok) (x : Except Er (α × List Tok)) : Prop :=
  match x with
  | .ok p => p.2 <:+ l
  | .error e => e.1 ≠ 0 /\ ∃ r, r <:+ l /\ e.2 = atOf E r
theorem Fit.done {α : Type} (v : α) : Fit E l (G.done v l) := List.suffix_refl l
theorem Fit.ok {α : Type} (v : α) : Fit E l (.ok (v, l)) := List.suffix_refl l
theorem Fit.bad {α : Type} {c : Int} (h : c ≠ 0) : Fit (α := α) E l (.error (c, atOf E l)) := ⟨h, l, List.suffix_refl l, rfl⟩
theorem Fit.then {α β : Type} {x : Except Er (α × List Tok)} {f : α -> Rd β} (h : Fit E l x) (k : ∀ v r, Fit E r (f v r)) : Fit E l (andThen x f) := by
  cases x with
  | error e => exact h
  | ok p =>
    obtain ⟨v, r⟩ := p
    have h : r <:+ l := h
    have k := k v r
    show Fit E l (f v r)
    cases e : f v r with
    | error y => rw [e] at k; exact ⟨k.1, k.2.choose, k.2.choose_spec.1.trans h, k.2.choose_spec.2⟩
    | ok q => rw [e] at k; exact List.IsSuffix.trans k h
theorem Fit.one {α : Type} {f : List UInt8 -> Option α} {c : List UInt8 -> Int} (h : ∀ s, f s = none -> c s ≠ 0) : Fit E l (one f c E l) := by
  unfold G.one
  cases e : f (peek0 l) with
  | none => exact ⟨h _ e, l, List.suffix_refl l, rfl⟩
  | some v => exact List.tail_suffix l
theorem Fit.ite {α : Type} {c : Prop} [Decidable c] {x y : Except Er (α × List Tok)} (h : Fit E l x) (k : Fit E l y) : Fit E l (if c then x else y) := by
  by_cases e : c
  · rw [if_pos e]; exact h
  · rw [if_neg e]; exact k
theorem want_fit {w : List UInt8} : Fit E l (want E w l) := Fit.one fun _ _ => by simp
theorem name_fit : Fit E l (name nam E l) := Fit.one fun _ _ => by simp
theorem index_fit {sign : UInt8} {most c : Int} (h : c ≠ 0) : Fit E l (index idx sign most c E l) := Fit.one fun _ _ => h
theorem value_fit : Fit E l (value idx E l) := index_fit (by decide)
theorem label_fit : Fit E l (label idx E l) := index_fit (by decide)
theorem number_fit {lo hi : Int} : Fit E l (number num E lo hi l) := Fit.one fun s _ => by
  show (if (num s).2 ≠ 0 then (num s).2 else 18) ≠ 0
  split
  · assumption
  · decide
theorem anyNum_fit : Fit E l (anyNum num E l) := Fit.one fun s h => by
  by_cases e : (num s).2 ≠ 0
  · exact e
  · rw [if_neg e] at h; cases h
theorem shaped_fit : Fit E l (shaped shp E l) := Fit.one fun s h => by
  by_cases e : shp s ≠ 0
  · exact e
  · rw [if_neg e] at h; cases h
theorem valuesW_fit : ∀ f acc l, Fit E l (valuesW idx E f acc l) := by
  intro f
  induction f with
  | zero => intro acc l; exact Fit.ok _
  | succ f ih =>
    intro acc l
    simp only [valuesW]
    split
    · exact value_fit.then fun v r => ih _ _
    · exact Fit.ok _
theorem valuesN_fit : ∀ f acc l, Fit E l (valuesN idx E f acc l) := by
  intro f
  induction f with
  | zero => intro acc l; exact Fit.ok _
  | succ f ih => intro acc l; exact value_fit.then fun v r => ih _ _
theorem phiW_fit : ∀ f to args l, Fit E l (phiW idx E f to args l) := by
  intro f
  induction f with
  | zero => intro to args l; exact Fit.ok _
  | succ f ih =>
    intro to args l
    simp only [phiW]
    split
    · exact label_fit.then fun v r => value_fit.then fun u q => ih _ _ _
    · exact Fit.ok _
theorem ret1_fit : Fit E l (ret1 idx E l) := by
  unfold ret1
  split
  · exact value_fit.then fun v r => Fit.done _
  · exact Fit.ok _
theorem spot_fit : Fit E l (spot idx E l) := by
  unfold spot
  split
  · exact index_fit (by decide)
  · exact Fit.ok _
theorem ident_fit : Fit E l (ident idx E l) := by
  unfold ident
  split
  · exact value_fit.then fun v r => want_fit.then fun _ _ => Fit.done _
  · exact Fit.ok _
theorem operands_fit {op : Int} : Fit E l (operands num idx nam shp tks E op l) := by
  unfold operands
  refine Fit.ite (anyNum_fit.then fun _ _ => Fit.done _) ?_
  refine Fit.ite (number_fit.then fun _ _ => Fit.done _) ?_
  refine Fit.ite (shaped_fit.then fun _ _ => Fit.done _) ?_
  refine Fit.ite ((phiW_fit _ _ _ _).then fun _ _ => Fit.done _) ?_
  refine Fit.ite (spot_fit.then fun _ _ => name_fit.then fun _ _ => (valuesW_fit _ _ _).then fun _ _ => Fit.done _) ?_
  refine Fit.ite (ret1_fit) ?_
  refine Fit.ite (value_fit.then fun _ _ => number_fit.then fun _ _ => Fit.done _) ?_
  refine Fit.ite (value_fit.then fun _ _ => number_fit.then fun _ _ => value_fit.then fun _ _ => Fit.done _) ?_
  refine Fit.ite (number_fit.then fun _ _ => Fit.done _) ?_
  refine Fit.ite (value_fit.then fun _ _ => number_fit.then fun _ _ => Fit.done _) ?_
  refine Fit.ite (label_fit.then fun _ _ => Fit.done _) ?_
  refine Fit.ite (value_fit.then fun _ _ => label_fit.then fun _ _ => label_fit.then fun _ _ => Fit.done _) ?_
  exact (valuesN_fit _ _ _).then fun _ _ => Fit.done _
theorem opword_fit {i : Int} : Fit E l (opword fnd mks E i l) := Fit.one fun s _ => by
  show (if (fnd s).1 = 0 then (2 : Int) else 8) ≠ 0
  split <;> decide
theorem instr_fit : Fit E l (instr num idx nam shp tks fnd mks E l) := by
  refine Fit.then (ident_fit.then fun _ _ => opword_fit.then fun _ _ => Fit.done _) fun _ _ => operands_fit.then fun _ _ => Fit.done _
theorem insW_fit : ∀ f n acc l, Fit E l (insW num idx nam shp tks fnd mks E f n acc l) := by
  intro f
  induction f with
  | zero => intro n acc l; exact Fit.ok _
  | succ f ih =>
    intro n acc l
    simp only [insW]
    split
    · exact Fit.ok _
    · split
      · exact Fit.bad (by decide)
      · exact instr_fit.then fun _ _ => ih _ _ _
theorem head_fit {k : Nat} : Fit E l (head prt E k l) := Fit.one fun s _ => by
  show (if 256 <= k then (6 : Int) else 7) ≠ 0
  split <;> decide
theorem block_fit {k n : Nat} : Fit E l (block num idx nam shp tks fnd mks prt E k n l) := head_fit.then fun _ _ => want_fit.then fun _ _ => insW_fit _ _ _ _
theorem blkW_fit : ∀ f n acc l, Fit E l (blkW num idx nam shp tks fnd mks prt E f n acc l) := by
  intro f
  induction f with
  | zero => intro n acc l; exact Fit.ok _
  | succ f ih =>
    intro n acc l
    simp only [blkW]
    split
    · exact Fit.ok _
    · exact block_fit.then fun _ _ => ih _ _ _
theorem param_fit {k : Nat} : Fit E l (param E k l) := Fit.one fun s _ => by
  show (if kind s < 1 then (9 : Int) else 6) ≠ 0
  split <;> decide
theorem parW_fit : ∀ f acc l, Fit E l (parW E f acc l) := by
  intro f
  induction f with
  | zero => intro acc l; exact Fit.ok _
  | succ f ih =>
    intro acc l
    simp only [parW]
    split
    · exact Fit.ok _
    · exact param_fit.then fun _ _ => ih _ _
theorem answer_fit : Fit E l (answer E l) := Fit.one fun _ _ => by simp
theorem function_fit {n : Nat} : Fit E l (function num idx nam shp tks fnd mks prt E n l) :=
  want_fit.then fun _ _ => name_fit.then fun _ _ => want_fit.then fun _ _ => (parW_fit _ _ _).then fun _ _ => want_fit.then fun _ _ => answer_fit.then fun _ _ => want_fit.then fun _ _ => (blkW_fit _ _ _ _).then fun _ _ => want_fit.then fun _ _ => Fit.done _
theorem funW_fit : ∀ f n acc l, Fit E l (funW num idx nam shp tks fnd mks prt E f n acc l) := by
  intro f
  induction f with
  | zero => intro n acc l; exact Fit.ok _
  | succ f ih =>
    intro n acc l
    simp only [funW]
    split
    · exact Fit.ok _
    · split
      · exact Fit.bad (by decide)
      · exact function_fit.then fun _ _ => ih _ _ _
theorem program_fit : Fit E l (program num idx nam shp tks fnd mks prt E l) := funW_fit _ _ _ _
end
end Go.Proofs.YtahhbckccdigoaaGreatDoor.G
namespace Go.Proofs.YtahhbckccdigoaaGreatDoor
open Go Go.RowKit
open G (Tok Er Ins Fun peek0 peek1 atOf)
theorem toks_at {s : ByteArray} {ws : List (Nat × Nat)} (h : L2.words s = .inr ws) {t : Tok} (ht : t ∈ toks s ws) : 0 <= t.2 /\ t.2 < s.size := by
  have hok := (L2.words_ok h).1
  simp only [toks, List.mem_map] at ht
  obtain ⟨q, hq, rfl⟩ := ht
  obtain ⟨i, hi, e⟩ := List.mem_iff_getElem.1 hq
  have := L2.okW_get ws 0 s.size i hok hi
  rw [show ws.getD i (0, 0) = q by rw [<- e]; simp [hi]] at this
  show 0 <= (q.1 : Int) /\ (q.1 : Int) < s.size
  omega
theorem text_err {s : ByteArray} {er : Er} (h : textG s = .error er) : er.1 ≠ 0 /\ 0 <= er.2 /\ er.2 <= s.size := by
  unfold textG at h
  cases hw : L2.words s with
  | inl x =>
    rw [hw] at h; cases h
    have := L2.words_err hw
    refine ⟨by show (1 : Int) ≠ 0; decide, ?_, ?_⟩
    · show (0 : Int) <= (x : Int); omega
    · show (x : Int) <= s.size; omega
  | inr ws =>
    rw [hw] at h
    replace h : (match progG (s.size : Int) (toks s ws) with | .ok ((xs, _), _) => .ok xs | .error er => .error er) = (.error er : Except Er (List Fun)) := h
    have hf : G.Fit (s.size : Int) (toks s ws) (progG (s.size : Int) (toks s ws)) := G.program_fit
    cases hp : progG (s.size : Int) (toks s ws) with
    | ok p => rw [hp] at h; cases h
    | error e2 =>
      rw [hp] at h hf; cases h
      obtain ⟨h1, r, h2, h3⟩ := hf
      refine ⟨h1, ?_⟩
      rw [h3]
      cases r with
      | nil => show 0 <= (s.size : Int) /\ (s.size : Int) <= s.size; omega
      | cons t r =>
        have := toks_at hw (h2.subset (List.mem_cons_self ..))
        show 0 <= t.2 /\ t.2 <= s.size
        omega
def szF (x : Fun) : Nat := (x.2.2.2.1.map List.length).sum
def FineI (n : Nat) (x : Ins) : Prop := decide (mksF x.1 x.2.2.2.1 ≠ 0) = decide (0 <= x.2.1) /\ x.2.1 <= 1048576 /\ x.2.2.2.2.2.2.2 < n
def FineF (n : Nat) (x : Fun) : Prop := namF x.1 = true /\ x.2.1.length <= 8 /\ x.2.2.2.1.length <= 256 /\ ∀ b ∈ x.2.2.2.1, ∀ i ∈ b, FineI n i
theorem text_fine {s : ByteArray} {xs : List Fun} (h : textG s = .ok xs) : xs.length <= 32 /\ (∀ x ∈ xs, FineF s.size x) /\ (xs.map szF).sum <= 4096 := by
  unfold textG at h
  cases hw : L2.words s with
  | inl x => rw [hw] at h; cases h
  | inr ws =>
    rw [hw] at h
    replace h : (match progG (s.size : Int) (toks s ws) with | .ok ((xs, _), _) => .ok xs | .error er => .error er) = (.ok xs : Except Er (List Fun)) := h
    cases hp : progG (s.size : Int) (toks s ws) with
    | error e2 => rw [hp] at h; cases h
    | ok p =>
      rw [hp] at h
      obtain ⟨⟨ys, n⟩, r⟩ := p
      cases h
      obtain ⟨a, b, c, d⟩ := G.program_good nam_nil num_nil shp_nil fnd_nil idx_le hp
      refine ⟨a, fun x hx => ?_, ?_⟩
      · obtain ⟨k1, k2, k3, k4, _⟩ := b x hx
        refine ⟨k1, k2, k3, fun bb hb i hi => ?_⟩
        obtain ⟨m1, m2, t, m3, m4⟩ := k4 bb hb i hi
        exact ⟨m1, m2, by rw [m4]; exact (toks_at hw m3).2⟩
      · have d : n = (xs.map szF).sum := d
        rw [<- d]; exact c
end Go.Proofs.YtahhbckccdigoaaGreatDoor
