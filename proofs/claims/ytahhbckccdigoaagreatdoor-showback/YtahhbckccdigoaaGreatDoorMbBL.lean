/- Layer 7: the words of a text that is written word by word. -/
import Derived.Test.YtahhbckccdigoaaGreatDoorMbAE
import Derived.Test.YtahhbckccdigoaaGreatDoorMbAF
import Derived.Test.YtahhbckccdigoaaGreatDoorMbAK
import Derived.Test.YtahhbckccdigoaaGreatDoorMbAU
import Derived.Test.YtahhbckccdigoaaGreatDoorMbAV
import Derived.Test.YtahhbckccdigoaaGreatDoorMbAW
import Derived.Test.YtahhbckccdigoaaGreatDoorMbAY
import Derived.Test.YtahhbckccdigoaaGreatDoorMbBB
import Derived.Test.YtahhbckccdigoaaGreatDoorMbBK
set_option maxHeartbeats 8000000
set_option maxRecDepth 20000
namespace Go.Proofs.YtahhbckccdigoaaGreatDoor.L2
open Go.RowKit
def Wd (t : List UInt8) (us : List (List UInt8)) : Prop := ∀ (pre m : List UInt8) (acc : List (Nat × Nat)), ∃ qs, scan (t ++ m) pre.length acc none false = scan m (pre ++ t).length (acc ++ qs) none false /\ ∀ m', qs.map (cut (pre ++ t ++ m')) = us
theorem Wd.nil : Wd [] [] := fun pre m acc => ⟨[], by simp, fun _ => rfl⟩
theorem Wd.app {t t' : List UInt8} {us us' : List (List UInt8)} (h : Wd t us) (h' : Wd t' us') : Wd (t ++ t') (us ++ us') := by
  intro pre m acc
  obtain ⟨qs, e, c⟩ := h pre (t' ++ m) acc
  obtain ⟨qs', e', c'⟩ := h' (pre ++ t) m (acc ++ qs)
  refine ⟨qs ++ qs', ?_, fun m' => ?_⟩
  . rw [List.append_assoc, e, e']; simp
  . rw [List.map_append]
    have h1 := c (t' ++ m')
    have h2 := c' m'
    simp only [List.append_assoc] at h1 h2 ⊢
    rw [h1, h2]
def Bla (c : UInt8) : Prop := togB c.toNat = false /\ aloB c.toNat = false /\ ¬ (c.toNat : Int) = 35 /\ blaB c.toNat = true
def Alo (c : UInt8) : Prop := togB c.toNat = false /\ aloB c.toNat = true
theorem Wd.bla {c : UInt8} (h : Bla c) : Wd [c] [] := by
  intro pre m acc
  refine ⟨[], ?_, fun _ => rfl⟩
  show scan (c :: m) _ _ _ _ = _
  rw [scan_bla m _ acc none h.1 h.2.1 h.2.2.1 h.2.2.2]
  simp [shutW]
theorem cut_mid (pre u r : List UInt8) : cut (pre ++ u ++ r) (pre.length, pre.length + u.length) = u := by
  unfold cut
  rw [List.append_assoc, List.drop_left, Nat.add_sub_cancel_left, List.take_left]
theorem Wd.alo {c : UInt8} (h : Alo c) : Wd [c] [[c]] := by
  intro pre m acc
  refine ⟨[(pre.length, pre.length + 1)], ?_, fun m' => ?_⟩
  . show scan (c :: m) _ _ _ _ = _
    rw [scan_alo m _ acc none h.1 h.2]
    simp [shutW]
  . have := cut_mid pre [c] m'
    simp only [List.map_cons, List.map_nil]
    rw [show pre.length + 1 = pre.length + [c].length from rfl, this]
theorem scan_run (m : List UInt8) : ∀ (u : List UInt8) (p q : Nat) (acc : List (Nat × Nat)), (∀ c ∈ u, togB (UInt8.toNat c) = true) -> scan (u ++ m) p acc (some q) false = scan m (p + u.length) acc (some q) false := by
  intro u
  induction u with
  | nil => intro p q acc _; rfl
  | cons c u ih =>
    intro p q acc h
    rw [List.cons_append, scan_tog _ _ _ _ (h c (by simp))]
    show scan (u ++ m) (p + 1) acc (some q) false = _
    rw [ih (p + 1) q acc (fun x hx => h x (by simp [hx])), List.length_cons, show p + 1 + u.length = p + (u.length + 1) by omega]
theorem scan_word (m u : List UInt8) (p : Nat) (acc : List (Nat × Nat)) (hu : u ≠ []) (h : ∀ c ∈ u, togB (UInt8.toNat c) = true) : scan (u ++ m) p acc none false = scan m (p + u.length) acc (some p) false := by
  cases u with
  | nil => exact absurd rfl hu
  | cons c u =>
    rw [List.cons_append, scan_tog _ _ _ _ (h c (by simp))]
    show scan (u ++ m) (p + 1) acc (some p) false = _
    rw [scan_run m u (p + 1) p acc (fun x hx => h x (by simp [hx])), List.length_cons, show p + 1 + u.length = p + (u.length + 1) by omega]
def Sep (c : UInt8) (e : List (List UInt8)) : Prop := (Bla c /\ e = []) \/ (Alo c /\ e = [[c]])
theorem Sep.wd {c : UInt8} {e : List (List UInt8)} (h : Sep c e) : Wd [c] e := by
  rcases h with ⟨h, rfl⟩ | ⟨h, rfl⟩
  . exact Wd.bla h
  . exact Wd.alo h
theorem Wd.word {u : List UInt8} {c : UInt8} {e : List (List UInt8)} (hu : wordOk u) (h : Sep c e) : Wd (u ++ [c]) (u :: e) := by
  rcases hu with ⟨a, rfl, h1, h2⟩ | ⟨hu, ht⟩
  . exact (Wd.alo ⟨h1, h2⟩).app h.wd
  . intro pre m acc
    have e1 : u ++ [c] ++ m = u ++ (c :: m) := by simp
    have ec := fun m' => cut_mid pre u (c :: m')
    rcases h with ⟨h, rfl⟩ | ⟨h, rfl⟩
    . refine ⟨[(pre.length, pre.length + u.length)], ?_, fun m' => ?_⟩
      . rw [e1, scan_word _ _ _ _ hu ht, scan_bla m _ acc _ h.1 h.2.1 h.2.2.1 h.2.2.2]
        simp [shutW, Nat.add_assoc]
      . have := ec m'
        simp only [List.append_assoc] at this
        simp [this]
    . refine ⟨[(pre.length, pre.length + u.length), (pre.length + u.length, pre.length + u.length + 1)], ?_, fun m' => ?_⟩
      . rw [e1, scan_word _ _ _ _ hu ht, scan_alo m _ acc _ h.1 h.2]
        simp [shutW, Nat.add_assoc]
      . have h1 := ec m'
        have h2 := cut_mid (pre ++ u) [c] m'
        simp only [List.append_assoc, List.cons_append, List.nil_append, List.length_append, List.length_cons, List.length_nil, Nat.zero_add] at h1 h2
        simp [h1, h2]
theorem jn_two (x y : List UInt8) (r : List (List UInt8)) : jn [32] (x :: y :: r) = x ++ [32] ++ jn [32] (y :: r) := by simp [jn]
theorem bla32 : Bla 32 := by refine ⟨by decide, by decide, by decide, by decide⟩
theorem bla10 : Bla 10 := by refine ⟨by decide, by decide, by decide, by decide⟩
theorem Wd.join {c : UInt8} {e : List (List UInt8)} (h : Sep c e) : ∀ l : List (List UInt8), (∀ u ∈ l, wordOk u) -> Wd (jn [32] l ++ [c]) (l ++ e)
  | [], _ => h.wd
  | [x], hl => by simpa [jn] using Wd.word (hl x (by simp)) h
  | x :: y :: r, hl => by
    have h1 := Wd.word (hl x (by simp)) (.inl ⟨bla32, rfl⟩)
    have h2 := Wd.join h (y :: r) (fun u hu => hl u (by simp [hu]))
    rw [jn_two, List.append_assoc]
    exact h1.app h2
theorem Wd.words {t : List UInt8} {us : List (List UInt8)} (h : Wd t us) {s : ByteArray} (hs : s.data.toList = t) : ∃ ws, words s = .inr ws /\ ws.map (cut s.data.toList) = us := by
  obtain ⟨qs, e, c⟩ := h [] [] []
  refine ⟨qs, ?_, ?_⟩
  . unfold L2.words
    rw [hs]
    simp only [List.append_nil, List.nil_append, List.length_nil] at e
    rw [e]; rfl
  . have := c []
    simp only [List.append_nil, List.nil_append] at this
    rw [hs]; exact this
end Go.Proofs.YtahhbckccdigoaaGreatDoor.L2
namespace Go.Proofs.YtahhbckccdigoaaGreatDoor
open Go Go.RowKit
open G (Tok Er Ins Fun peek0 peek1 atOf)
theorem dig_chars (n : Int) : dig n ≠ [] /\ ∀ c ∈ dig n, c = 45 \/ L1.isDig c = true := by
  unfold dig Lib.itoa
  split
  . refine ⟨by simp, fun c hc => ?_⟩
    rcases List.mem_cons.1 hc with rfl | hc
    . exact .inl rfl
    . exact .inr (List.all_eq_true.1 (L1.dec_all _) c hc)
  . exact ⟨L1.dec_ne_nil _, fun c hc => .inr (List.all_eq_true.1 (L1.dec_all _) c hc)⟩
theorem isDig_tog {c : UInt8} (h : L1.isDig c = true) : L2.togB c.toNat = true := by
  have := (L1.isDig_iff c).1 h
  simp only [L2.togB, L2.digB, Bool.or_eq_true, Bool.and_eq_true, decide_eq_true_eq]
  omega
theorem dig_tog (n : Int) : ∀ c ∈ dig n, L2.togB (UInt8.toNat c) = true := fun c hc => by
  rcases (dig_chars n).2 c hc with rfl | h
  . decide
  . exact isDig_tog h
theorem dig_ne (n : Int) : dig n ≠ [] /\ dig n ≠ [114] := by
  refine ⟨(dig_chars n).1, fun e => ?_⟩
  rcases (dig_chars n).2 114 (by rw [e]; simp) with h | h
  . exact absurd h (by decide)
  . exact absurd h (by decide)
theorem num_dig (n : Int) (h0 : -9223372036854775808 <= n) (h1 : n <= 9223372036854775807) : numF (dig n) = (n, 0) := L1.read_itoa n h0 h1
theorem idx_dig (n most : Int) (h0 : 0 <= n) (h1 : n <= most) (h2 : most <= 1048576) : idxF (dig n) most = some n := by
  have e := num_dig n (by omega) (by omega)
  unfold numF at e
  unfold idxF
  rw [L1.indexNum_in (dig n) most (by rw [e]) (by rw [e]; show ¬ (n < 0 \/ most < n); omega), e]; rfl
def goodF (op t : Int) : Bool := decide (1 <= op) && decide (op <= 29) && L5.may op t
def iwF (op t : Int) : List UInt8 := (L5.iword op t).data.toList
theorem may_in {op t : Int} (h : L5.may op t = true) : 0 <= t /\ t <= 3 := by
  unfold L5.may at h
  split at h
  . simp only [decide_eq_true_eq] at h; omega
  . split at h
    . simp only [decide_eq_true_eq] at h; omega
    . split at h
      . simp only [decide_eq_true_eq] at h; omega
      . simp only [decide_eq_true_eq] at h; omega
theorem good_pair {op t : Int} (h : goodF op t = true) : ∃ k, k < 116 /\ op = ((k / 4 + 1 : Nat) : Int) /\ t = ((k % 4 : Nat) : Int) /\ L5.may ((k / 4 + 1 : Nat) : Int) ((k % 4 : Nat) : Int) = true := by
  simp only [goodF, Bool.and_eq_true, decide_eq_true_eq] at h
  obtain ⟨⟨h1, h2⟩, h3⟩ := h
  have h4 := may_in h3
  have e1 : op = (((((op - 1) * 4 + t).toNat) / 4 + 1 : Nat) : Int) := by omega
  have e2 : t = (((((op - 1) * 4 + t).toNat) % 4 : Nat) : Int) := by omega
  exact ⟨((op - 1) * 4 + t).toNat, by omega, e1, e2, by rw [<- e1, <- e2]; exact h3⟩
theorem iw_all : ∀ k, k < 116 -> L5.may ((k / 4 + 1 : Nat) : Int) ((k % 4 : Nat) : Int) = true ->
    L5.find (L5.iword ((k / 4 + 1 : Nat) : Int) ((k % 4 : Nat) : Int)) = (((k / 4 + 1 : Nat) : Int), ((k % 4 : Nat) : Int)) /\
    (iwF ((k / 4 + 1 : Nat) : Int) ((k % 4 : Nat) : Int)).head? ≠ some 37 /\ iwF ((k / 4 + 1 : Nat) : Int) ((k % 4 : Nat) : Int) ≠ [] /\
    ((iwF ((k / 4 + 1 : Nat) : Int) ((k % 4 : Nat) : Int)).head? = some 98 -> iwF ((k / 4 + 1 : Nat) : Int) ((k % 4 : Nat) : Int) = [98, 114]) /\
    (iwF ((k / 4 + 1 : Nat) : Int) ((k % 4 : Nat) : Int)).all (fun c => L2.togB c.toNat) = true := by decide +kernel
theorem iw_tog {op t : Int} (h : goodF op t = true) : iwF op t ≠ [] /\ ∀ c ∈ iwF op t, L2.togB (UInt8.toNat c) = true := by
  obtain ⟨k, hk, rfl, rfl, hm⟩ := good_pair h
  obtain ⟨_, _, h3, _, h5⟩ := iw_all k hk hm
  exact ⟨h3, List.all_eq_true.1 h5⟩
theorem tog_not {c : UInt8} {s : List UInt8} (h : ∀ c ∈ s, L2.togB (UInt8.toNat c) = true) (hc : L2.togB c.toNat = false) : s ≠ [c] := fun e => by
  have := h c (by rw [e]; simp)
  rw [hc] at this; cases this
theorem nameFrom_tog : ∀ (l : List UInt8) (p : Nat), L2.nameFrom l p = true -> ∀ c ∈ l, L2.togB (UInt8.toNat c) = true := by
  intro l
  induction l with
  | nil => intro p _ c hc; cases hc
  | cons a l ih =>
    intro p h c hc
    rw [L2.nameFrom, Bool.and_eq_true] at h
    rcases List.mem_cons.1 hc with rfl | hc
    . have h1 := h.1
      simp only [Bool.or_eq_true, Bool.and_eq_true, decide_eq_true_eq] at h1
      simp only [L2.togB, Bool.or_eq_true, decide_eq_true_eq]
      rcases h1 with h1 | ⟨_, h1 | h1⟩
      . exact .inl (.inl (.inr h1))
      . exact .inr h1
      . exact .inl (.inl (.inl (.inr h1)))
    . exact ih (p + 1) h.2 c hc
theorem nam_parts {s : List UInt8} (h : namF s = true) : s ≠ [] /\ s.length <= 24 /\ (∀ c ∈ s, L2.togB (UInt8.toNat c) = true) /\ s.head? ≠ some 64 := by
  simp only [namF, L2.nameB, Bool.and_eq_true, decide_eq_true_eq, Bool.not_eq_true'] at h
  obtain ⟨⟨h1, h2⟩, h3⟩ := h
  refine ⟨fun e => ?_, h1, nameFrom_tog s 0 h2, ?_⟩
  . subst e; cases h3
  . cases s with
    | nil => simp
    | cons c l =>
      rw [L2.nameFrom, Bool.and_eq_true] at h2
      intro e
      have : c = 64 := by simpa using e
      subst this
      exact absurd h2.1 (by decide)
theorem shp_parts {s : List UInt8} (h : shpF s = 0) : s ≠ [] /\ s.length <= 24 /\ ∀ c ∈ s, L2.togB (UInt8.toNat c) = true := by
  by_cases h46 : s = [46]
  . subst h46
    exact ⟨by simp, by simp, fun c hc => by simp at hc; subst hc; decide⟩
  . unfold shpF L3.readS at h
    rw [bs_data, if_neg h46, bs_size] at h
    by_cases hz : s.length = 0 \/ 16 < s.length
    . rw [if_pos hz] at h; cases h
    . rw [if_neg hz] at h
      unfold L3.readL at h
      cases ha : L3.allL s with
      | false => rw [ha] at h; cases h
      | true =>
        refine ⟨fun e => ?_, by omega, fun c hc => ?_⟩
        . subst e; simp at hz
        . have := List.all_eq_true.1 ha c hc
          simp only [L3.isL, Bool.or_eq_true, beq_iff_eq] at this
          rcases this with rfl | rfl <;> decide
def letL' (t : Int) : List UInt8 := (L5.letter t).data.toList
theorem wordsF : G.Words numF idxF namF shpF fndF prtF dig iwF goodF letL' := ⟨
  (num_dig),
  (idx_dig),
  (dig_ne),
  (⟨by decide, by decide⟩),
  (⟨by decide, by decide, fun s h => (nam_parts h).2.2.2⟩),
  (⟨by decide, by decide⟩),
  (fun op t h => by
    obtain ⟨k, hk, rfl, rfl, hm⟩ := good_pair h
    unfold fndF iwF
    rw [bs_of]
    exact (iw_all k hk hm).1),
  (fun op t h => by
    simp only [goodF, Bool.and_eq_true, decide_eq_true_eq] at h
    omega),
  (fun op t h => by
    have h1 := (iw_tog h).2
    obtain ⟨k, hk, rfl, rfl, hm⟩ := good_pair h
    exact ⟨(iw_all k hk hm).2.1, tog_not h1 (by decide), tog_not h1 (by decide), tog_not h1 (by decide)⟩),
  (fun op t h => by
    obtain ⟨k, hk, rfl, rfl, hm⟩ := good_pair h
    exact (iw_all k hk hm).2.2.2.1),
  (fun k hk => by
    unfold prtF
    rw [decide_eq_true_eq]
    have h1 := idx_dig (k : Int) 255 (by omega) (by omega) (by omega)
    cases e : dig (k : Int) with
    | nil => exact absurd e (dig_ne _).1
    | cons y r =>
      show (if (98 : UInt8) = 98 then idxF (y :: r) 255 else none) = _
      rw [if_pos rfl, <- e]; exact h1),
  (fun t h0 h1 => by
    rcases (show t = 0 \/ t = 1 \/ t = 2 by omega) with rfl | rfl | rfl <;> decide)⟩
end Go.Proofs.YtahhbckccdigoaaGreatDoor
namespace Go.Proofs.YtahhbckccdigoaaGreatDoor
open Go Go.RowKit
open G (Tok Er Ins Fun peek0 peek1 atOf MayI MayF Fits Vals Labs)
abbrev MayX (x : Ins) : Prop := MayI namF shpF tksF goodF mksF x
abbrev MayG (f : Fun) : Prop := MayF namF shpF tksF goodF mksF f
theorem any_byd (most : Int) (l : List Int) : l.any (byd most) = false ↔ ∀ a ∈ l, 0 <= a /\ a <= most := by
  rw [List.any_eq_false]
  refine ⟨fun h a ha => ?_, fun h a ha => ?_⟩
  . have := h a ha
    simp only [byd, Bool.or_eq_true, decide_eq_true_eq] at this
    omega
  . have := h a ha
    simp only [byd, Bool.or_eq_true, decide_eq_true_eq]
    omega
theorem tks_at : tksF 1 = 0 /\ tksF 29 = 0 /\ tksF 10 = 0 /\ tksF 11 = 1 /\ tksF 12 = 1 /\ tksF 15 = 1 /\ tksF 13 = 2 /\ tksF 14 = 2 /\ tksF 23 = 0 := by decide
theorem tkN_eq (k : Int) : tkN k = tksF k := rfl
theorem len0 {α : Type} {l : List α} : l.length = 0 ↔ l = [] := List.length_eq_zero_iff
theorem fits_iff {op n : Int} {ar tt : List Int} {nm : List UInt8} (hn : I64 n) : (cntOk op ar.length tt.length = true /\ rngOk op n = true /\ namC op nm = 0) ↔ Fits namF shpF tksF op n ar tt nm := by
  obtain ⟨t1, t29, t10, t11, t12, t15, t13, t14, t23⟩ := tks_at
  obtain ⟨n1, n2⟩ := hn
  have hnf : namF nm = L2.nameB nm := rfl
  by_cases h1 : op = 1
  . subst h1
    simp [Fits, cntOk, rngOk, namC, tkN_eq, t1]
    grind
  by_cases h29 : op = 29
  . subst h29
    simp [Fits, cntOk, rngOk, namC, tkN_eq, t29]
    grind
  by_cases h10 : op = 10
  . subst h10
    simp [Fits, cntOk, rngOk, namC, tkN_eq, t10]
    grind
  by_cases h20 : op = 20
  . subst h20
    simp [Fits, cntOk, rngOk, namC]
    grind
  by_cases h21 : op = 21
  . subst h21
    simp [Fits, cntOk, rngOk, namC]
    grind
  by_cases h28 : op = 28
  . subst h28
    simp [Fits, cntOk, rngOk, namC]
    grind
  by_cases h11 : op = 11
  . subst h11
    simp [Fits, cntOk, rngOk, namC, tkN_eq, t11]
    grind
  by_cases h12 : op = 12
  . subst h12
    simp [Fits, cntOk, rngOk, namC, tkN_eq, t12]
    grind
  by_cases h15 : op = 15
  . subst h15
    simp [Fits, cntOk, rngOk, namC, tkN_eq, t15]
    grind
  by_cases h13 : op = 13
  . subst h13
    simp [Fits, cntOk, rngOk, namC, tkN_eq, t13]
    grind
  by_cases h14 : op = 14
  . subst h14
    simp [Fits, cntOk, rngOk, namC, tkN_eq, t14]
    grind
  by_cases h23 : op = 23
  . subst h23
    simp [Fits, cntOk, rngOk, namC, tkN_eq, t23]
    grind
  by_cases h24 : op = 24
  . subst h24
    simp [Fits, cntOk, rngOk, namC]
    grind
  by_cases h26 : op = 26
  . subst h26
    simp [Fits, cntOk, rngOk, namC]
    grind
  by_cases h27 : op = 27
  . subst h27
    simp [Fits, cntOk, rngOk, namC]
    grind
  unfold Fits cntOk rngOk namC
  simp only [h1, h29, h10, h20, h21, h28, h11, h12, h15, h13, h14, h23, h24, h26, h27, or_false, if_false, tkN_eq, Bool.and_eq_true, decide_eq_true_eq]
  constructor
  . rintro ⟨⟨a, b⟩, ⟨c, d⟩, e⟩
    have a' : (ar.length : Int) = tksF op := of_decide_eq_true a
    refine ⟨by omega, len0.1 (by omega), by omega, ?_⟩
    by_cases hm : nm = []
    . exact hm
    . rw [if_neg hm] at e; cases e
  . rintro ⟨a, rfl, rfl, rfl⟩
    exact ⟨⟨decide_eq_true (show (ar.length : Int) = tksF op by omega), rfl⟩, ⟨by omega, by omega⟩, rfl⟩
theorem fits_i64 {op n : Int} {ar tt : List Int} {nm : List UInt8} (h : Fits namF shpF tksF op n ar tt nm) : I64 n := by
  unfold I64
  unfold Fits at h
  by_cases e : op = 1
  . rw [if_pos e] at h
    have k := h.2.2.2.1
    have j := h.2.2.2.2
    omega
  rw [if_neg e] at h
  clear e
  by_cases e : op = 29
  . rw [if_pos e] at h
    have k := h.2.2.2.1
    have j := h.2.2.2.2
    omega
  rw [if_neg e] at h
  clear e
  by_cases e : op = 10
  . rw [if_pos e] at h
    have k := h.2.2.1
    omega
  rw [if_neg e] at h
  clear e
  by_cases e : op = 20
  . rw [if_pos e] at h
    have k := h.2.2.1
    omega
  rw [if_neg e] at h
  clear e
  by_cases e : op = 21
  . rw [if_pos e] at h
    have k := h.2.1
    have j := h.2.2.1
    omega
  rw [if_neg e] at h
  clear e
  by_cases e : op = 28
  . rw [if_pos e] at h
    have k := h.2.2.1
    omega
  rw [if_neg e] at h
  clear e
  by_cases e : op = 11 \/ op = 12 \/ op = 15
  . rw [if_pos e] at h
    have k := h.2.2.2.1
    have j := h.2.2.2.2
    omega
  rw [if_neg e] at h
  clear e
  by_cases e : op = 13 \/ op = 14
  . rw [if_pos e] at h
    have k := h.2.2.2.1
    have j := h.2.2.2.2
    omega
  rw [if_neg e] at h
  clear e
  by_cases e : op = 23
  . rw [if_pos e] at h
    have k := h.2.2.2.1
    have j := h.2.2.2.2
    omega
  rw [if_neg e] at h
  clear e
  by_cases e : op = 24
  . rw [if_pos e] at h
    have k := h.2.2.2.1
    have j := h.2.2.2.2
    omega
  rw [if_neg e] at h
  clear e
  by_cases e : op = 26
  . rw [if_pos e] at h
    have k := h.2.2.1
    omega
  rw [if_neg e] at h
  clear e
  by_cases e : op = 27
  . rw [if_pos e] at h
    have k := h.2.2.1
    omega
  rw [if_neg e] at h
  clear e
  have k := h.2.2.1
  omega
theorem good_eq (op t : Int) : (opOk op && L5.may op t) = goodF op t := rfl
theorem check_iff {x : Ins} (hn : I64 x.2.2.1) : checkC x = 0 ↔ MayX x := by
  obtain ⟨op, id, n, ty, ar, tt, nm, pl⟩ := x
  dsimp only at hn
  unfold checkC MayX MayI
  dsimp only
  rw [good_eq]
  have hf := fits_iff (op := op) (n := n) (ar := ar) (tt := tt) (nm := nm) hn
  have h1 := any_byd 1048576 ar
  have h2 := any_byd 255 tt
  have h3 : numOk op id ty = true ↔ ((mksF op ty = 0 -> id = -1) /\ (mksF op ty ≠ 0 -> 0 <= id /\ id <= 1048576)) := by
    unfold numOk mksF
    by_cases e : L5.imakes op ty = 0
    . simp [e]
    . simp only [e, if_false, Bool.not_eq_true', byd, Bool.or_eq_false_iff, decide_eq_false_iff_not]
      constructor
      . intro h; exact ⟨fun k => absurd k (by simp), fun _ => by omega⟩
      . intro h; have := h.2 e; omega
  cases g : goodF op ty with
  | false => simp
  | true =>
    cases g3 : numOk op id ty with
    | false =>
      rw [g3] at h3
      simp only [Bool.true_eq_false, if_false, if_true, true_and]
      constructor
      . intro k; cases k
      . rintro ⟨a, b, _⟩; exact absurd (h3.2 ⟨a, b⟩) (by simp)
    | true =>
      have h3' := h3.1 g3
      cases g4 : cntOk op ar.length tt.length with
      | false =>
        rw [g4] at hf
        simp only [Bool.true_eq_false, if_false, if_true, true_and]
        constructor
        . intro k; cases k
        . rintro ⟨_, _, _, _, f⟩; exact absurd (hf.2 f).1 (by simp)
      | true =>
        cases g5 : rngOk op n with
        | false =>
          rw [g5] at hf
          simp only [Bool.true_eq_false, if_false, if_true, true_and]
          constructor
          . intro k; cases k
          . rintro ⟨_, _, _, _, f⟩; exact absurd (hf.2 f).2.1 (by simp)
        | true =>
          cases g6 : ar.any (byd 1048576) with
          | true =>
            rw [g6] at h1
            simp only [Bool.true_eq_false, if_false, if_true, true_and]
            constructor
            . intro k; cases k
            . rintro ⟨_, _, v, _, _⟩; exact absurd (h1.2 v) (by simp)
          | false =>
            cases g7 : tt.any (byd 255) with
            | true =>
              rw [g7] at h2
              simp only [Bool.true_eq_false, Bool.false_eq_true, if_false, if_true, true_and]
              constructor
              . intro k; cases k
              . rintro ⟨_, _, _, v, _⟩; exact absurd (h2.2 v) (by simp)
            | false =>
              simp only [Bool.true_eq_false, Bool.false_eq_true, if_false, true_and]
              constructor
              . intro k; exact ⟨h3'.1, h3'.2, h1.1 g6, h2.1 g7, hf.1 ⟨g4, g5, k⟩⟩
              . rintro ⟨_, _, _, _, f⟩; exact (hf.2 f).2.2
theorem head_iff (f : Fun) : headC f = 0 ↔ (f.2.1.length <= 8 /\ f.2.2.2.1.length <= 256 /\ namF f.1 = true /\ 0 <= f.2.2.1 /\ f.2.2.1 <= 2 /\ ∀ t ∈ f.2.1, 1 <= t /\ t <= 2) := by
  have hp : parB f.2.1 = false ↔ ∀ t ∈ f.2.1, 1 <= t /\ t <= 2 := by
    unfold parB
    rw [List.any_eq_false]
    refine ⟨fun h t ht => ?_, fun h t ht => ?_⟩
    . have := h t ht
      simp [pasB] at this
      omega
    . have := h t ht
      simp [pasB]
      omega
  unfold headC namF
  by_cases h1 : 8 < f.2.1.length \/ 256 < f.2.2.2.1.length
  . rw [if_pos h1]; constructor
    . intro k; cases k
    . rintro ⟨a, b, _⟩; omega
  rw [if_neg h1]
  cases h2 : L2.nameB f.1 with
  | false => simp
  | true =>
    rw [if_neg (by simp)]
    by_cases h3 : (f.2.2.1 < 0 \/ 2 < f.2.2.1) \/ parB f.2.1 = true
    . rw [if_pos h3]; constructor
      . intro k; cases k
      . rintro ⟨_, _, _, c, d, e⟩
        rcases h3 with h3 | h3
        . omega
        . rw [hp.2 e] at h3; cases h3
    . rw [if_neg h3]
      have h4 : parB f.2.1 = false := by
        cases e : parB f.2.1 with
        | false => rfl
        | true => exact absurd (.inr e) h3
      refine ⟨fun _ => ⟨by omega, by omega, rfl, by omega, by omega, hp.1 h4⟩, fun _ => rfl⟩
theorem runI_iff (b : List Ins) : ∀ m, m <= 4096 -> ((runI m b).2 = 0 ↔ (∀ x ∈ b, checkC x = 0) /\ m + b.length <= 4096) /\ ((runI m b).2 = 0 -> (runI m b).1 = m + b.length) := by
  induction b with
  | nil => intro m hm; simp [runI, hm]
  | cons x b ih =>
    intro m hm
    by_cases h1 : m = 4096
    . subst h1
      simp only [runI, if_true, List.length_cons]
      exact ⟨⟨fun k => (by cases k), fun k => (by omega)⟩, fun k => (by cases k)⟩
    . by_cases h2 : checkC x = 0
      . rw [runI, if_neg h1, if_neg (by simp [h2])]
        obtain ⟨i1, i2⟩ := ih (m + 1) (by omega)
        refine ⟨?_, fun k => by rw [i2 k, List.length_cons]; omega⟩
        rw [i1]
        simp only [List.mem_cons, forall_eq_or_imp, h2, true_and, List.length_cons]
        constructor <;> rintro ⟨a, b⟩ <;> exact ⟨a, by omega⟩
      . rw [runI, if_neg h1, if_pos h2]
        refine ⟨⟨fun k => absurd k h2, fun k => absurd (k.1 x (by simp)) h2⟩, fun k => absurd k h2⟩
def szB (l : List (List Ins)) : Nat := (l.map List.length).sum
theorem runB_iff (l : List (List Ins)) : ∀ m, m <= 4096 -> ((runB m l).2 = 0 ↔ (∀ b ∈ l, ∀ x ∈ b, checkC x = 0) /\ m + szB l <= 4096) /\ ((runB m l).2 = 0 -> (runB m l).1 = m + szB l) := by
  induction l with
  | nil => intro m hm; simp [runB, szB, hm]
  | cons b l ih =>
    intro m hm
    obtain ⟨j1, j2⟩ := runI_iff b m hm
    have hs : szB (b :: l) = b.length + szB l := by simp [szB]
    by_cases h1 : (runI m b).2 = 0
    . rw [runB, if_neg (by simp [h1]), j2 h1]
      obtain ⟨k1, k2⟩ := j1.1 h1
      obtain ⟨i1, i2⟩ := ih (m + b.length) k2
      rw [hs]
      refine ⟨?_, fun k => by rw [i2 k]; omega⟩
      rw [i1]
      simp only [List.mem_cons, forall_eq_or_imp]
      constructor
      . rintro ⟨a, c⟩; exact ⟨⟨k1, a⟩, by omega⟩
      . rintro ⟨⟨_, a⟩, c⟩; exact ⟨a, by omega⟩
    . rw [runB, if_pos h1, hs]
      refine ⟨⟨fun k => absurd k h1, fun k => absurd (j1.2 ⟨k.1 b (by simp), by omega⟩) h1⟩, fun k => absurd k h1⟩
def szP (p : List Fun) : Nat := (p.map fun x => szB x.2.2.2.1).sum
theorem whole_iff (p : List Fun) : ∀ i m, i <= 32 -> m <= 4096 -> ((wholeF i m p).1 = 0 ↔ (∀ f ∈ p, headC f = 0 /\ ∀ b ∈ f.2.2.2.1, ∀ x ∈ b, checkC x = 0) /\ i + p.length <= 32 /\ m + szP p <= 4096) /\ ((wholeF i m p).1 = 0 -> wholeF i m p = (0, 0)) := by
  induction p with
  | nil => intro i m h1 h2; simp [wholeF, szP, h1, h2]
  | cons f p ih =>
    intro i m h1 h2
    have hs : szP (f :: p) = szB f.2.2.2.1 + szP p := by simp [szP]
    obtain ⟨j1, j2⟩ := runB_iff f.2.2.2.1 m h2
    rw [hs]
    by_cases k1 : i = 32
    . subst k1
      rw [whole_many, List.length_cons]
      exact ⟨⟨fun k => (by cases k), fun k => (by omega)⟩, fun k => (by cases k)⟩
    by_cases k2 : headC f = 0
    . by_cases k3 : (runB m f.2.2.2.1).2 = 0
      . rw [whole_next p k1 k2 k3, j2 k3]
        obtain ⟨b1, b2⟩ := j1.1 k3
        obtain ⟨i1, i2⟩ := ih (i + 1) (m + szB f.2.2.2.1) (by omega) b2
        refine ⟨?_, i2⟩
        rw [i1]
        simp only [List.mem_cons, forall_eq_or_imp, List.length_cons]
        constructor
        . rintro ⟨a, c, d⟩; exact ⟨⟨⟨k2, b1⟩, a⟩, by omega, by omega⟩
        . rintro ⟨⟨_, a⟩, c, d⟩; exact ⟨a, by omega, by omega⟩
      . rw [whole_body p k1 k2 k3]
        refine ⟨⟨fun k => absurd k k3, fun k => absurd (j1.2 ⟨(k.1 f (by simp)).2, by omega⟩) k3⟩, fun k => absurd k k3⟩
    . rw [whole_head m p k1 k2]
      refine ⟨⟨fun k => absurd k k2, fun k => absurd (k.1 f (by simp)).1 k2⟩, fun k => absurd k k2⟩
def MayP (p : List Fun) : Prop := (∀ f ∈ p, MayG f) /\ p.length <= 32 /\ szP p <= 4096
theorem whole_may {p : List Fun} (hn : ∀ f ∈ p, ∀ b ∈ f.2.2.2.1, ∀ x ∈ b, I64 x.2.2.1) : (wholeF 0 0 p).1 = 0 ↔ MayP p := by
  rw [(whole_iff p 0 0 (by omega) (by omega)).1]
  unfold MayP
  constructor
  . rintro ⟨a, b, c⟩
    refine ⟨fun f hf => ?_, by omega, by omega⟩
    obtain ⟨a1, a2⟩ := a f hf
    obtain ⟨b1, b2, b3, b4, b5, b6⟩ := (head_iff f).1 a1
    exact ⟨b3, b1, b6, b4, b5, b2, fun b hb x hx => (check_iff (hn f hf b hb x hx)).1 (a2 b hb x hx)⟩
  . rintro ⟨a, b, c⟩
    refine ⟨fun f hf => ?_, by omega, by omega⟩
    obtain ⟨b3, b1, b6, b4, b5, b2, b7⟩ := a f hf
    exact ⟨(head_iff f).2 ⟨b1, b2, b3, b4, b5, b6⟩, fun b hb x hx => (check_iff (hn f hf b hb x hx)).2 (b7 b hb x hx)⟩
end Go.Proofs.YtahhbckccdigoaaGreatDoor
namespace Go.Proofs.YtahhbckccdigoaaGreatDoor
open Go Go.RowKit
open G (Tok Er Ins Fun peek0 peek1 atOf MayI MayF Fits Vals Labs noI noB noF)
open L2 (Wd wordOk)
abbrev insX (x : Ins) : List (List UInt8) := G.insS dig iwF mksF x
abbrev funX (f : Fun) : List (List UInt8) := G.funS dig iwF mksF letL' f
theorem insW_eq (x : Ins) : insW x = insX x := rfl
def Gd (u : List UInt8) : Prop := wordOk u /\ u.length <= 24
theorem gd_tog {u : List UInt8} (h0 : u ≠ []) (h1 : ∀ c ∈ u, L2.togB (UInt8.toNat c) = true) (h2 : u.length <= 24) : Gd u := ⟨.inr ⟨h0, h1⟩, h2⟩
theorem gd_sign {c : UInt8} {n : Int} (hc : L2.togB c.toNat = true) (hn : I64 n) : Gd (c :: dig n) := by
  refine gd_tog (by simp) (fun d hd => ?_) (by have := dig_len hn; simp; omega)
  rcases List.mem_cons.1 hd with rfl | hd
  . exact hc
  . exact dig_tog n d hd
theorem gd_dig {n : Int} (hn : I64 n) : Gd (dig n) := gd_tog (dig_ne n).1 (dig_tog n) (by have := dig_len hn; omega)
theorem gd_opd {op n : Int} {ar tt : List Int} {nm : List UInt8} (id ty pl : Int) (hF : Fits namF shpF tksF op n ar tt nm) (hv : Vals ar) (hb : Labs tt) : ∀ s ∈ G.opdS dig (op, id, n, ty, ar, tt, nm, pl), Gd s := by
  have hn := fits_i64 hF
  have sv : ∀ m ∈ ar, Gd (37 :: dig m) := fun m hm => gd_sign (by decide) (by have := hv m hm; unfold I64; omega)
  have sl : ∀ m ∈ tt, Gd (98 :: dig m) := fun m hm => gd_sign (by decide) (by have := hb m hm; unfold I64; omega)
  intro s hs
  unfold G.opdS at hs
  dsimp only at hs
  split at hs
  . simp only [List.mem_singleton] at hs
    subst hs
    exact gd_dig hn
  split at hs
  . rename_i h10
    subst h10
    simp only [List.mem_singleton] at hs
    subst hs
    simp [Fits] at hF
    obtain ⟨k1, k2, k3⟩ := shp_parts hF.2.2.2
    exact gd_tog k1 k3 k2
  split at hs
  . simp only [List.mem_append, List.mem_map, List.mem_singleton] at hs
    rcases hs with (⟨m, hm, rfl⟩ | rfl) | ⟨m, hm, rfl⟩
    . exact sv m (List.mem_of_mem_take hm)
    . exact gd_dig hn
    . exact sv m (List.mem_of_mem_drop hm)
  split at hs
  . simp only [List.mem_flatMap, List.mem_cons, List.not_mem_nil, or_false] at hs
    obtain ⟨q, hq, rfl | rfl⟩ := hs
    . exact sl _ (List.of_mem_zip hq).1
    . exact sv _ (List.of_mem_zip hq).2
  split at hs
  . rename_i h21
    subst h21
    simp only [List.mem_append, List.mem_map, List.mem_singleton] at hs
    rcases hs with (hs | rfl) | ⟨m, hm, rfl⟩
    . split at hs
      . simp only [List.mem_singleton] at hs
        subst hs; exact gd_sign (by decide) hn
      . simp at hs
    . simp [Fits] at hF
      obtain ⟨k1, k2, k3, _⟩ := nam_parts hF.2.2.2
      exact gd_tog k1 k3 k2
    . exact sv m hm
  . simp only [List.mem_append, List.mem_map] at hs
    rcases hs with ⟨m, hm, rfl⟩ | ⟨m, hm, rfl⟩
    . exact sv m hm
    . exact sl m hm
theorem gd_ins {x : Ins} (h : MayX x) : ∀ s ∈ insX x, Gd s := by
  obtain ⟨op, id, n, ty, ar, tt, nm, pl⟩ := x
  obtain ⟨g1, g2, g3, g4, g5, g6⟩ := h
  dsimp only at g1 g2 g3 g4 g5 g6
  intro s hs
  unfold insX G.insS at hs
  dsimp only at hs
  rw [List.mem_append, List.mem_append] at hs
  rcases hs with (hs | hs) | hs
  . by_cases hm : mksF op ty = 0
    . rw [if_neg (by simpa using hm)] at hs; cases hs
    . rw [if_pos hm] at hs
      simp only [List.mem_cons, List.not_mem_nil, or_false] at hs
      rcases hs with rfl | rfl
      . exact gd_sign (by decide) (by have := g3 hm; unfold I64; omega)
      . exact ⟨.inl ⟨61, rfl, by decide, by decide⟩, by simp⟩
  . simp only [List.mem_singleton] at hs
    subst hs
    obtain ⟨k1, k2⟩ := iw_tog g1
    exact gd_tog k1 k2 (by have := iword_len op ty; unfold iwF; omega)
  . exact gd_opd id ty pl g6 g4 g5 s hs
theorem sep10 : L2.Sep 10 [] := .inl ⟨L2.bla10, rfl⟩
theorem sep32 : L2.Sep 32 [] := .inl ⟨L2.bla32, rfl⟩
theorem alo58 : L2.Alo 58 := ⟨by decide, by decide⟩
theorem alo40 : L2.Alo 40 := ⟨by decide, by decide⟩
theorem alo41 : L2.Alo 41 := ⟨by decide, by decide⟩
theorem alo123 : L2.Alo 123 := ⟨by decide, by decide⟩
theorem alo125 : L2.Alo 125 := ⟨by decide, by decide⟩
theorem lines_wd : ∀ b : List Ins, (∀ x ∈ b, MayX x) -> Wd ((b.flatMap lineW).flatten) (b.flatMap insX)
  | [], _ => Wd.nil
  | x :: b, h => by
    have h1 := (Wd.bla L2.bla32).app ((Wd.bla L2.bla32).app (Wd.join sep10 (insW x) fun u hu => (gd_ins (h x (by simp)) u hu).1))
    have h2 := lines_wd b fun y hy => h y (by simp [hy])
    have e : (lineW x ++ b.flatMap lineW).flatten = ([32] ++ ([32] ++ (jn [32] (insW x) ++ [10]))) ++ (b.flatMap lineW).flatten := by simp [lineW, insT]
    rw [List.flatMap_cons, List.flatMap_cons, e, <- insW_eq x]
    simpa using h1.app h2
theorem lab_ok {n : Int} (hn : I64 n) : wordOk (labW n) := (gd_sign (c := 98) (by decide) hn).1
theorem blks_wd : ∀ (bl : List (List Ins)) (k : Nat), k + bl.length <= 256 -> (∀ b ∈ bl, ∀ x ∈ b, MayX x) -> Wd ((blksW k bl).flatten) (G.blksS dig iwF mksF k bl)
  | [], _, _, _ => Wd.nil
  | b :: bl, k, hk, h => by
    simp only [List.length_cons] at hk
    have h1 : Wd (labW (k : Int) ++ [58]) [labW (k : Int), [58]] := Wd.word (lab_ok ⟨by omega, by omega⟩) (.inr ⟨alo58, rfl⟩)
    have h2 := (h1.app (Wd.bla L2.bla10)).app (lines_wd b (h b (by simp)))
    have h3 := blks_wd bl (k + 1) (by omega) fun c hc => h c (by simp [hc])
    have e : (blksW k (b :: bl)).flatten = (labW (k : Int) ++ [58] ++ [10] ++ (b.flatMap lineW).flatten) ++ (blksW (k + 1) bl).flatten := by
      rw [blksW, blkW_line]; simp
    rw [e]
    exact h2.app h3
theorem ltr_ok {t : Int} : wordOk (letL t) := by
  unfold letL L5.letter
  split
  . exact .inr ⟨by simp, fun c hc => by simp at hc; subst hc; decide⟩
  . split
    . exact .inr ⟨by simp, fun c hc => by simp at hc; subst hc; decide⟩
    . split
      . exact .inr ⟨by simp, fun c hc => by simp at hc; subst hc; decide⟩
      . exact .inr ⟨by simp, fun c hc => by simp at hc; subst hc; decide⟩
theorem fun_wd {f : Fun} (h : MayG f) : Wd (funT f) (funX f) := by
  obtain ⟨g1, g2, g3, g4, g5, g6, g7⟩ := h
  obtain ⟨n1, n2, n3, _⟩ := nam_parts g1
  have w1 : Wd ([102, 117, 110, 99] ++ [32]) [[102, 117, 110, 99]] := Wd.word (.inr ⟨by simp, by decide⟩) sep32
  have w2 : Wd (f.1 ++ [40]) [f.1, [40]] := Wd.word (.inr ⟨n1, n3⟩) (.inr ⟨alo40, rfl⟩)
  have w3 : Wd (parT f.2.1 ++ [41]) (f.2.1.map letL ++ [[41]]) := Wd.join (.inr ⟨alo41, rfl⟩) (f.2.1.map letL) fun u hu => by
    obtain ⟨t, _, rfl⟩ := List.mem_map.1 hu
    exact ltr_ok
  have w4 : Wd [32] [] := Wd.bla L2.bla32
  have w5 : Wd (letL f.2.2.1 ++ [32]) [letL f.2.2.1] := Wd.word ltr_ok sep32
  have w6 : Wd [123] [[123]] := Wd.alo alo123
  have w7 : Wd [10] [] := Wd.bla L2.bla10
  have w8 := blks_wd f.2.2.2.1 0 (by omega) g7
  have w9 : Wd [125] [[125]] := Wd.alo alo125
  have all := w1.app (w2.app (w3.app (w4.app (w5.app (w6.app (w7.app (w8.app (w9.app w7))))))))
  have e : funT f = [102, 117, 110, 99] ++ [32] ++ (f.1 ++ [40] ++ (parT f.2.1 ++ [41] ++ ([32] ++ (letL f.2.2.1 ++ [32] ++ ([123] ++ ([10] ++ ((blksW 0 f.2.2.2.1).flatten ++ ([125] ++ [10])))))))) := by
    unfold funT
    rw [jn_nil]
    unfold funW headW
    simp
  rw [e]
  have e2 : funX f = [[102, 117, 110, 99]] ++ ([f.1, [40]] ++ (f.2.1.map letL ++ [[41]] ++ ([] ++ ([letL f.2.2.1] ++ ([[123]] ++ ([] ++ (G.blksS dig iwF mksF 0 f.2.2.2.1 ++ ([[125]] ++ [])))))))) := by
    unfold funX G.funS
    simp
    rfl
  rw [e2]
  exact all
theorem prog_wd : ∀ p : List Fun, (∀ f ∈ p, MayG f) -> Wd (progT p) (p.flatMap funX)
  | [], _ => Wd.nil
  | f :: p, h => by
    have h1 := (fun_wd (h f (by simp))).app (prog_wd p fun g hg => h g (by simp [hg]))
    have e : progT (f :: p) = funT f ++ progT p := by unfold progT; rw [jn_nil, jn_nil]; simp
    rw [e, List.flatMap_cons]
    exact h1
theorem text_back {p : List Fun} (h : MayP p) : ∃ p', textG (bs (progT p)) = .ok p' /\ p'.map noF = p.map noF := by
  obtain ⟨ws, h1, h2⟩ := (prog_wd p h.1).words (s := bs (progT p)) (bs_data _)
  have hT : (toks (bs (progT p)) ws).map Prod.fst = p.flatMap funX := by
    rw [<- h2]
    unfold toks
    rw [List.map_map]
    refine List.map_congr_left fun q _ => ?_
    show ((bs (progT p)).extract q.1 q.2).data.toList = _
    rw [ext_list]; rfl
  obtain ⟨p', m, h3, h4⟩ := G.program_rd (E := ((bs (progT p)).size : Int)) (mks := mksF) (tks := tksF) wordsF h.1 h.2.1 h.2.2 hT
  refine ⟨p', ?_, h4⟩
  unfold textG
  rw [h1]
  show (match progG ((bs (progT p)).size : Int) (toks (bs (progT p)) ws) with | .ok ((xs, _), _) => .ok xs | .error er => .error er) = (.ok p' : Except Er (List Fun))
  unfold progG
  rw [h3]
end Go.Proofs.YtahhbckccdigoaaGreatDoor
namespace Go.Proofs.YtahhbckccdigoaaGreatDoor.G
section
variable {E : Int} {num : List UInt8 -> Int × Int} {idx : List UInt8 -> Int -> Option Int} {nam : List UInt8 -> Bool} {shp : List UInt8 -> Int} {tks : Int -> Nat} {fnd : List UInt8 -> Int × Int} {mks : Int -> Int -> Int} {prt : Nat -> List UInt8 -> Bool} {l : List Tok}
def Fit {α : Type} (E : Int) (l : List Tok) (x : Except Er (α × List Tok)) : Prop :=
  match x with
  | .ok p => p.2 <:+ l
  | .error e => e.1 ≠ 0 /\ ∃ r, r <:+ l /\ e.2 = atOf E r
end
end Go.Proofs.YtahhbckccdigoaaGreatDoor.G
namespace Go.Proofs.YtahhbckccdigoaaGreatDoor
open Go Go.RowKit
open G (Tok Er Ins Fun peek0 peek1 atOf)
end Go.Proofs.YtahhbckccdigoaaGreatDoor
