/- Layer 7: what is written word by word is read as what it was, whatever the words' own functions are. -/
import Derived.Test.YtahhbckccdigoaaGreatDoorMbAK
set_option maxHeartbeats 8000000
set_option maxRecDepth 20000
namespace Go.Proofs.YtahhbckccdigoaaGreatDoor.G
def noI (x : Ins) : Ins := (x.1, x.2.1, x.2.2.1, x.2.2.2.1, x.2.2.2.2.1, x.2.2.2.2.2.1, x.2.2.2.2.2.2.1, 0)
def noB (b : List Ins) : List Ins := b.map noI
def noF (f : Fun) : Fun := (f.1, f.2.1, f.2.2.1, f.2.2.2.1.map noB, 0)
theorem tk_cons {T : List Tok} {w : List UInt8} {ws : List (List UInt8)} (h : T.map Prod.fst = w :: ws) : ∃ p T', T = (w, p) :: T' /\ T'.map Prod.fst = ws := by
  cases T with
  | nil => cases h
  | cons t r =>
    obtain ⟨a, p⟩ := t
    simp only [List.map_cons, List.cons.injEq] at h
    obtain ⟨rfl, h⟩ := h
    exact ⟨p, r, rfl, h⟩
theorem tk_nil {T : List Tok} (h : T.map Prod.fst = []) : T = [] := by simpa using h
theorem tk_app {T : List Tok} {a b : List (List UInt8)} (h : T.map Prod.fst = a ++ b) : ∃ A B, T = A ++ B /\ A.map Prod.fst = a /\ B.map Prod.fst = b := by
  obtain ⟨A, B, e, h1, h2⟩ := List.map_eq_append_iff.1 h
  exact ⟨A, B, e, h1, h2⟩
theorem then_val {α β : Type} {v : α} {r : List Tok} {f : α -> Rd β} : andThen (.ok (v, r)) f = f v r := rfl
section
variable (dig : Int -> List UInt8) (iw : Int -> Int -> List UInt8) (mks : Int -> Int -> Int)
def opdS (x : Ins) : List (List UInt8) :=
  if x.1 = 1 \/ x.1 = 23 \/ x.1 = 29 then [dig x.2.2.1]
  else if x.1 = 10 then [x.2.2.2.2.2.2.1]
  else if x.1 = 11 \/ x.1 = 12 \/ x.1 = 15 \/ x.1 = 24 \/ x.1 = 13 \/ x.1 = 14 then (x.2.2.2.2.1.take 1).map (fun n => 37 :: dig n) ++ [dig x.2.2.1] ++ (x.2.2.2.2.1.drop 1).map (fun n => 37 :: dig n)
  else if x.1 = 20 then (x.2.2.2.2.2.1.zip x.2.2.2.2.1).flatMap fun q => [98 :: dig q.1, 37 :: dig q.2]
  else if x.1 = 21 then (if x.2.2.1 ≠ 0 then [64 :: dig x.2.2.1] else []) ++ [x.2.2.2.2.2.2.1] ++ x.2.2.2.2.1.map (fun n => 37 :: dig n)
  else x.2.2.2.2.1.map (fun n => 37 :: dig n) ++ x.2.2.2.2.2.1.map (fun n => 98 :: dig n)
def insS (x : Ins) : List (List UInt8) := (if mks x.1 x.2.2.2.1 ≠ 0 then [37 :: dig x.2.1, [61]] else []) ++ [iw x.1 x.2.2.2.1] ++ opdS dig x
def blkS (k : Nat) (b : List Ins) : List (List UInt8) := [98 :: dig (k : Int), [58]] ++ b.flatMap (insS dig iw mks)
def blksS : Nat -> List (List Ins) -> List (List UInt8)
  | _, [] => []
  | k, b :: r => blkS dig iw mks k b ++ blksS (k + 1) r
variable (ltr : Int -> List UInt8)
def funS (f : Fun) : List (List UInt8) := [[102, 117, 110, 99], f.1, [40]] ++ f.2.1.map ltr ++ [[41], ltr f.2.2.1, [123]] ++ blksS dig iw mks 0 f.2.2.2.1 ++ [[125]]
end
section
variable (nam : List UInt8 -> Bool) (shp : List UInt8 -> Int) (tks : Int -> Nat)
def Fits (op n : Int) (ar tt : List Int) (nm : List UInt8) : Prop :=
  if op = 1 then ar = [] /\ tt = [] /\ nm = [] /\ -9223372036854775808 <= n /\ n <= 9223372036854775807
  else if op = 29 then ar = [] /\ tt = [] /\ nm = [] /\ 0 <= n /\ n <= 255
  else if op = 10 then ar = [] /\ tt = [] /\ n = 0 /\ shp nm = 0
  else if op = 20 then ar.length = tt.length /\ tt ≠ [] /\ n = 0 /\ nm = []
  else if op = 21 then tt = [] /\ 0 <= n /\ n <= 1048576 /\ nam nm = true
  else if op = 28 then ar.length <= 1 /\ tt = [] /\ n = 0 /\ nm = []
  else if op = 11 \/ op = 12 \/ op = 15 then ar.length = 1 /\ tt = [] /\ nm = [] /\ 0 <= n /\ n <= 15
  else if op = 13 \/ op = 14 then ar.length = 2 /\ tt = [] /\ nm = [] /\ 0 <= n /\ n <= 15
  else if op = 23 then ar = [] /\ tt = [] /\ nm = [] /\ 0 <= n /\ n <= 1048576
  else if op = 24 then ar.length = 1 /\ tt = [] /\ nm = [] /\ 0 <= n /\ n <= 1048576
  else if op = 26 then ar = [] /\ tt.length = 1 /\ n = 0 /\ nm = []
  else if op = 27 then ar.length = 1 /\ tt.length = 2 /\ n = 0 /\ nm = []
  else ar.length = tks op /\ tt = [] /\ n = 0 /\ nm = []
def Vals (ar : List Int) : Prop := ∀ a ∈ ar, 0 <= a /\ a <= 1048576
def Labs (tt : List Int) : Prop := ∀ a ∈ tt, 0 <= a /\ a <= 255
variable (good : Int -> Int -> Bool) (mks : Int -> Int -> Int)
def MayI (x : Ins) : Prop := good x.1 x.2.2.2.1 = true /\ (mks x.1 x.2.2.2.1 = 0 -> x.2.1 = -1) /\ (mks x.1 x.2.2.2.1 ≠ 0 -> 0 <= x.2.1 /\ x.2.1 <= 1048576) /\ Vals x.2.2.2.2.1 /\ Labs x.2.2.2.2.2.1 /\ Fits nam shp tks x.1 x.2.2.1 x.2.2.2.2.1 x.2.2.2.2.2.1 x.2.2.2.2.2.2.1
def MayF (f : Fun) : Prop := nam f.1 = true /\ f.2.1.length <= 8 /\ (∀ t ∈ f.2.1, 1 <= t /\ t <= 2) /\ 0 <= f.2.2.1 /\ f.2.2.1 <= 2 /\ f.2.2.2.1.length <= 256 /\ ∀ b ∈ f.2.2.2.1, ∀ x ∈ b, MayI nam shp tks good mks x
end
def Words (num : List UInt8 -> Int × Int) (idx : List UInt8 -> Int -> Option Int) (nam : List UInt8 -> Bool) (shp : List UInt8 -> Int) (fnd : List UInt8 -> Int × Int) (prt : Nat -> List UInt8 -> Bool)
    (dig : Int -> List UInt8) (iw : Int -> Int -> List UInt8) (good : Int -> Int -> Bool) (ltr : Int -> List UInt8) : Prop :=
  (∀ n, -9223372036854775808 <= n -> n <= 9223372036854775807 -> num (dig n) = (n, 0)) /\
  (∀ n most, 0 <= n -> n <= most -> most <= 1048576 -> idx (dig n) most = some n) /\
  (∀ n, dig n ≠ [] /\ dig n ≠ [114]) /\
  ((num [61]).2 ≠ 0 /\ (num [58]).2 ≠ 0) /\
  (nam [61] = false /\ nam [58] = false /\ ∀ s, nam s = true -> s.head? ≠ some 64) /\
  (shp [61] ≠ 0 /\ shp [58] ≠ 0) /\
  (∀ op t, good op t = true -> fnd (iw op t) = (op, t)) /\
  (∀ op t, good op t = true -> op ≠ 0) /\
  (∀ op t, good op t = true -> (iw op t).head? ≠ some 37 /\ iw op t ≠ [61] /\ iw op t ≠ [58] /\ iw op t ≠ [125]) /\
  (∀ op t, good op t = true -> (iw op t).head? = some 98 -> iw op t = [98, 114]) /\
  (∀ k, k < 256 -> prt k (98 :: dig (k : Int)) = true) /\
  (∀ t, 0 <= t -> t <= 2 -> kind (ltr t) = t)
section
variable {E : Int} {num : List UInt8 -> Int × Int} {idx : List UInt8 -> Int -> Option Int} {nam : List UInt8 -> Bool} {shp : List UInt8 -> Int} {tks : Int -> Nat} {fnd : List UInt8 -> Int × Int} {mks : Int -> Int -> Int} {prt : Nat -> List UInt8 -> Bool}
variable {dig : Int -> List UInt8} {iw : Int -> Int -> List UInt8} {good : Int -> Int -> Bool} {ltr : Int -> List UInt8}
theorem Words.num_dig (W : Words num idx nam shp fnd prt dig iw good ltr) : ∀ n, -9223372036854775808 <= n -> n <= 9223372036854775807 -> num (dig n) = (n, 0) := W.1
theorem Words.idx_dig (W : Words num idx nam shp fnd prt dig iw good ltr) : ∀ n most, 0 <= n -> n <= most -> most <= 1048576 -> idx (dig n) most = some n := W.2.1
theorem Words.dig_ne (W : Words num idx nam shp fnd prt dig iw good ltr) : ∀ n, dig n ≠ [] /\ dig n ≠ [114] := W.2.2.1
theorem Words.num_bad (W : Words num idx nam shp fnd prt dig iw good ltr) : (num [61]).2 ≠ 0 /\ (num [58]).2 ≠ 0 := W.2.2.2.1
theorem Words.nam_bad (W : Words num idx nam shp fnd prt dig iw good ltr) : nam [61] = false /\ nam [58] = false /\ ∀ s, nam s = true -> s.head? ≠ some 64 := W.2.2.2.2.1
theorem Words.shp_bad (W : Words num idx nam shp fnd prt dig iw good ltr) : shp [61] ≠ 0 /\ shp [58] ≠ 0 := W.2.2.2.2.2.1
theorem Words.fnd_iw (W : Words num idx nam shp fnd prt dig iw good ltr) : ∀ op t, good op t = true -> fnd (iw op t) = (op, t) := W.2.2.2.2.2.2.1
theorem Words.op_ne (W : Words num idx nam shp fnd prt dig iw good ltr) : ∀ op t, good op t = true -> op ≠ 0 := W.2.2.2.2.2.2.2.1
theorem Words.iw_a (W : Words num idx nam shp fnd prt dig iw good ltr) : ∀ op t, good op t = true -> (iw op t).head? ≠ some 37 /\ iw op t ≠ [61] /\ iw op t ≠ [58] /\ iw op t ≠ [125] := W.2.2.2.2.2.2.2.2.1
theorem Words.iw_b (W : Words num idx nam shp fnd prt dig iw good ltr) : ∀ op t, good op t = true -> (iw op t).head? = some 98 -> iw op t = [98, 114] := W.2.2.2.2.2.2.2.2.2.1
theorem Words.prt_dig (W : Words num idx nam shp fnd prt dig iw good ltr) : ∀ k, k < 256 -> prt k (98 :: dig (k : Int)) = true := W.2.2.2.2.2.2.2.2.2.2.1
theorem Words.ltr_k (W : Words num idx nam shp fnd prt dig iw good ltr) : ∀ t, 0 <= t -> t <= 2 -> kind (ltr t) = t := W.2.2.2.2.2.2.2.2.2.2.2
theorem mark_rd (W : Words num idx nam shp fnd prt dig iw good ltr) {sign : UInt8} {most n : Int} (h0 : 0 <= n) (h1 : n <= most) (h2 : most <= 1048576) : mark idx sign most (sign :: dig n) = some n := by
  cases e : dig n with
  | nil => exact absurd e (W.dig_ne n).1
  | cons y r =>
    show (if sign = sign then idx (y :: r) most else none) = some n
    rw [if_pos rfl, <- e]; exact W.idx_dig n most h0 h1 h2
theorem index_rd (W : Words num idx nam shp fnd prt dig iw good ltr) {sign : UInt8} {most c n p : Int} {r : List Tok} (h0 : 0 <= n) (h1 : n <= most) (h2 : most <= 1048576) : index idx sign most c E ((sign :: dig n, p) :: r) = .ok (n, r) := by
  show one (mark idx sign most) (fun _ => c) E _ = _
  unfold one
  rw [show peek0 ((sign :: dig n, p) :: r) = sign :: dig n from rfl, mark_rd W h0 h1 h2]; rfl
theorem value_rd (W : Words num idx nam shp fnd prt dig iw good ltr) {n p : Int} {r : List Tok} (h0 : 0 <= n) (h1 : n <= 1048576) : value idx E ((37 :: dig n, p) :: r) = .ok (n, r) := index_rd W h0 h1 (by omega)
theorem label_rd (W : Words num idx nam shp fnd prt dig iw good ltr) {n p : Int} {r : List Tok} (h0 : 0 <= n) (h1 : n <= 255) : label idx E ((98 :: dig n, p) :: r) = .ok (n, r) := index_rd W h0 h1 (by omega)
theorem one_rd {α : Type} {f : List UInt8 -> Option α} {c : List UInt8 -> Int} {v : α} {w : List UInt8} {p : Int} {r : List Tok} (h : f w = some v) : one f c E ((w, p) :: r) = .ok (v, r) := by
  unfold one
  rw [show peek0 ((w, p) :: r) = w from rfl, h]; rfl
theorem anyNum_rd (W : Words num idx nam shp fnd prt dig iw good ltr) {n p : Int} {r : List Tok} (h0 : -9223372036854775808 <= n) (h1 : n <= 9223372036854775807) : anyNum num E ((dig n, p) :: r) = .ok (n, r) :=
  one_rd (by simp only [W.num_dig n h0 h1]; rfl)
theorem number_rd (W : Words num idx nam shp fnd prt dig iw good ltr) {n p lo hi : Int} {r : List Tok} (h0 : lo <= n) (h1 : n <= hi) (hl : -9223372036854775808 <= lo) (hh : hi <= 9223372036854775807) : number num E lo hi ((dig n, p) :: r) = .ok (n, r) := by
  refine one_rd ?_
  have : ¬ ((0 : Int) ≠ 0 \/ n < lo \/ hi < n) := by omega
  simp only [W.num_dig n (by omega) (by omega), this, if_false]
theorem want_rd {w : List UInt8} {p : Int} {r : List Tok} : want E w ((w, p) :: r) = .ok ((), r) := one_rd (by simp)
theorem name_rd {w : List UInt8} {p : Int} {r : List Tok} (h : nam w = true) : name nam E ((w, p) :: r) = .ok (w, r) := one_rd (by simp [h])
theorem shaped_rd {w : List UInt8} {p : Int} {r : List Tok} (h : shp w = 0) : shaped shp E ((w, p) :: r) = .ok (w, r) := one_rd (by simp [h])
def Fol (R : List Tok) : Prop := peek0 R ≠ [61] /\ peek0 R ≠ [58] /\ taken R = false /\ paired R = false
theorem taken_val {n p : Int} {r : List Tok} (h : peek0 r ≠ [61]) : taken ((37 :: dig n, p) :: r) = true := by
  have e : peek1 ((37 :: dig n, p) :: r) = peek0 r := by cases r <;> rfl
  unfold taken
  rw [e]
  simp [peek0]
  intro h2; exact h h2
theorem valuesW_rd (W : Words num idx nam shp fnd prt dig iw good ltr) (R : List Tok) (hR : peek0 R ≠ [61]) (hT : taken R = false) : ∀ (ar : List Int) (T : List Tok) (f : Nat) (acc : List Int), Vals ar -> T.map Prod.fst = ar.map (fun n => 37 :: dig n) -> T.length < f -> valuesW idx E f acc (T ++ R) = .ok (acc ++ ar, R) := by
  intro ar
  induction ar with
  | nil =>
    intro T f acc _ h hf
    obtain rfl := tk_nil h
    obtain ⟨f, rfl⟩ : ∃ k, f = k + 1 := ⟨f - 1, by omega⟩
    simp [valuesW, hT]
  | cons a ar ih =>
    intro T f acc hv h hf
    obtain ⟨p, T', rfl, h'⟩ := tk_cons h
    obtain ⟨f, rfl⟩ : ∃ k, f = k + 1 := ⟨f - 1, by omega⟩
    have hva := hv a (by simp)
    have hnx : peek0 (T' ++ R) ≠ [61] := by
      cases ar with
      | nil => obtain rfl := tk_nil h'; exact hR
      | cons b ar => obtain ⟨q, T2, rfl, _⟩ := tk_cons h'; simp [peek0]
    simp only [List.cons_append, valuesW]
    rw [taken_val hnx, if_pos rfl, value_rd W hva.1 hva.2]
    show valuesW idx E f (acc ++ [a]) (T' ++ R) = _
    rw [ih T' f (acc ++ [a]) (fun x hx => hv x (by simp [hx])) h' (by simp at hf; omega)]
    simp
theorem valuesN_rd (W : Words num idx nam shp fnd prt dig iw good ltr) (R : List Tok) : ∀ (ar : List Int) (T : List Tok) (acc : List Int), Vals ar -> T.map Prod.fst = ar.map (fun n => 37 :: dig n) -> valuesN idx E ar.length acc (T ++ R) = .ok (acc ++ ar, R) := by
  intro ar
  induction ar with
  | nil =>
    intro T acc _ h
    obtain rfl := tk_nil h
    simp [valuesN]
  | cons a ar ih =>
    intro T acc hv h
    obtain ⟨p, T', rfl, h'⟩ := tk_cons h
    have hva := hv a (by simp)
    simp only [List.cons_append, valuesN, List.length_cons]
    rw [value_rd W hva.1 hva.2]
    show valuesN idx E ar.length (acc ++ [a]) (T' ++ R) = _
    rw [ih T' (acc ++ [a]) (fun x hx => hv x (by simp [hx])) h']
    simp
theorem phiW_rd (W : Words num idx nam shp fnd prt dig iw good ltr) (R : List Tok) (hP : paired R = false) : ∀ (tt ar : List Int) (T : List Tok) (f : Nat) (to args : List Int), ar.length = tt.length -> Vals ar -> Labs tt -> T.map Prod.fst = (tt.zip ar).flatMap (fun q => [98 :: dig q.1, 37 :: dig q.2]) -> T.length < f -> (to = [] -> tt ≠ []) ->
    phiW idx E f to args (T ++ R) = .ok ((to ++ tt, args ++ ar), R) := by
  intro tt
  induction tt with
  | nil =>
    intro ar T f to args hl _ _ h hf hto
    have : ar = [] := List.length_eq_zero_iff.1 hl
    subst this
    obtain rfl := tk_nil h
    obtain ⟨f, rfl⟩ : ∃ k, f = k + 1 := ⟨f - 1, by omega⟩
    have h1 : ¬ (to = [] \/ paired R = true) := by
      rintro (h | h)
      . exact hto h rfl
      . rw [hP] at h; cases h
    simp only [phiW, List.nil_append, if_neg h1, List.append_nil]
  | cons b tt ih =>
    intro ar T f to args hl hv hb h hf _
    cases ar with
    | nil => simp at hl
    | cons a ar =>
      simp only [List.zip_cons_cons, List.flatMap_cons, List.cons_append, List.nil_append] at h
      obtain ⟨p, T1, rfl, h1⟩ := tk_cons h
      obtain ⟨q, T2, rfl, h2⟩ := tk_cons h1
      obtain ⟨f, rfl⟩ : ∃ k, f = k + 1 := ⟨f - 1, by omega⟩
      have hva := hv a (by simp)
      have hlb := hb b (by simp)
      have hpa : paired ((98 :: dig b, p) :: (37 :: dig a, q) :: (T2 ++ R)) = true := by
        have hm := mark_rd W (sign := 98) hlb.1 hlb.2 (by omega)
        unfold paired
        simp only [peek0, peek1, List.head?_cons, beq_self_eq_true, Bool.true_and, Bool.and_eq_true, bne_iff_ne, ne_eq]
        refine ⟨fun e => ?_, by simp⟩
        simp only [List.cons.injEq, true_and] at e
        exact (W.dig_ne b).2 e
      simp only [List.cons_append, phiW]
      rw [if_pos (.inr hpa), label_rd W hlb.1 hlb.2]
      show andThen (value idx E ((37 :: dig a, q) :: (T2 ++ R))) _ = _
      rw [value_rd W hva.1 hva.2]
      show phiW idx E f (to ++ [b]) (args ++ [a]) (T2 ++ R) = _
      rw [ih ar T2 f (to ++ [b]) (args ++ [a]) (by simpa using hl) (fun x hx => hv x (by simp [hx])) (fun x hx => hb x (by simp [hx])) h2 (by simp at hf; omega) (by simp)]
      simp
theorem list1 {l : List Int} (h : l.length = 1) : ∃ a, l = [a] := by
  match l, h with
  | [a], _ => exact ⟨a, rfl⟩
theorem list2 {l : List Int} (h : l.length = 2) : ∃ a b, l = [a, b] := by
  match l, h with
  | [a, b], _ => exact ⟨a, b, rfl⟩
theorem operands_rd (W : Words num idx nam shp fnd prt dig iw good ltr) {op n : Int} {ar tt : List Int} {nm : List UInt8} (id ty pl : Int) {T R : List Tok} (hF : Fits nam shp tks op n ar tt nm) (hv : Vals ar) (hb : Labs tt) (hT : T.map Prod.fst = opdS dig (op, id, n, ty, ar, tt, nm, pl)) (hR : Fol R) :
    operands num idx nam shp tks E op (T ++ R) = .ok ((n, ar, tt, nm), R) := by
  obtain ⟨r1, r2, r3, r4⟩ := hR
  unfold Fits at hF
  unfold opdS at hT
  dsimp only at hT
  unfold operands
  by_cases h : op = 1
  . subst h
    rw [if_pos rfl] at hF ⊢
    rw [if_pos (by simp)] at hT
    obtain ⟨rfl, rfl, rfl, h1, h2⟩ := hF
    obtain ⟨p, T', rfl, h'⟩ := tk_cons hT
    obtain rfl := tk_nil h'
    rw [List.cons_append, List.nil_append, anyNum_rd W h1 h2]; rfl
  rw [if_neg h] at hF ⊢
  by_cases h29 : op = 29
  . subst h29
    rw [if_pos rfl] at hF ⊢
    rw [if_pos (by simp)] at hT
    obtain ⟨rfl, rfl, rfl, h1, h2⟩ := hF
    obtain ⟨p, T', rfl, h'⟩ := tk_cons hT
    obtain rfl := tk_nil h'
    rw [List.cons_append, List.nil_append, number_rd W h1 h2 (by omega) (by omega)]; rfl
  rw [if_neg h29] at hF ⊢
  by_cases h10 : op = 10
  . subst h10
    rw [if_pos rfl] at hF ⊢
    rw [if_neg (by simp), if_pos rfl] at hT
    obtain ⟨rfl, rfl, rfl, h1⟩ := hF
    obtain ⟨p, T', rfl, h'⟩ := tk_cons hT
    obtain rfl := tk_nil h'
    rw [List.cons_append, List.nil_append, shaped_rd h1]; rfl
  rw [if_neg h10] at hF ⊢
  by_cases h20 : op = 20
  . subst h20
    rw [if_pos rfl] at hF ⊢
    rw [if_neg (by simp), if_neg (by simp), if_neg (by simp), if_pos rfl] at hT
    obtain ⟨h1, h2, rfl, rfl⟩ := hF
    have := phiW_rd (E := E) W R r4 tt ar T ((T ++ R).length + 1) [] [] h1 hv hb hT (by simp; omega) (fun _ => h2)
    unfold phi
    rw [this]; rfl
  rw [if_neg h20] at hF ⊢
  by_cases h21 : op = 21
  . subst h21
    rw [if_pos rfl] at hF ⊢
    rw [if_neg (by simp), if_neg (by simp), if_neg (by simp), if_neg (by simp), if_pos rfl] at hT
    obtain ⟨rfl, h1, h2, h3⟩ := hF
    have key : ∀ T2 : List Tok, T2.map Prod.fst = [nm] ++ ar.map (fun n => 37 :: dig n) -> (andThen (name nam E (T2 ++ R)) fun s r => andThen (values idx E r) fun a => done (n, a, ([] : List Int), s)) = .ok ((n, ar, [], nm), R) := by
      intro T2 hT2
      obtain ⟨p, T', rfl, h'⟩ := tk_cons hT2
      rw [List.cons_append, name_rd h3]
      show (andThen (values idx E (T' ++ R)) _) = _
      unfold values
      rw [valuesW_rd (E := E) W R r1 r3 ar T' _ [] hv h' (by simp; omega)]
      rfl
    by_cases h0 : n = 0
    . subst h0
      rw [if_neg (by simp)] at hT
      simp only [List.nil_append] at hT
      have hs : spot idx E (T ++ R) = .ok (0, T ++ R) := by
        obtain ⟨p, T', rfl, h'⟩ := tk_cons hT
        unfold spot
        rw [if_neg]
        exact W.nam_bad.2.2 nm h3
      rw [hs]
      exact key T hT
    . rw [if_pos h0] at hT
      obtain ⟨p, T', rfl, h'⟩ := tk_cons (by simpa using hT)
      have hs : spot idx E ((64 :: dig n, p) :: (T' ++ R)) = .ok (n, T' ++ R) := by
        unfold spot
        rw [if_pos (show (peek0 ((64 :: dig n, p) :: (T' ++ R))).head? = some 64 from rfl)]
        exact index_rd W h1 h2 (by omega)
      rw [List.cons_append, hs]
      exact key T' (by simpa using h')
  rw [if_neg h21] at hF ⊢
  have n1 : ¬ (op = 1 \/ op = 29) := by omega
  by_cases h28 : op = 28
  . subst h28
    rw [if_pos rfl] at hF ⊢
    rw [if_neg (by simp), if_neg (by simp), if_neg (by simp), if_neg (by simp), if_neg (by simp)] at hT
    obtain ⟨h1, rfl, rfl, rfl⟩ := hF
    match ar, h1, hv, hT with
    | [], _, _, hT =>
      obtain rfl := tk_nil hT
      unfold ret1
      rw [List.nil_append, r3, if_neg (by simp)]
    | [a], _, hv, hT =>
      obtain ⟨p, T', rfl, h'⟩ := tk_cons hT
      obtain rfl := tk_nil h'
      have ha := hv a (by simp)
      unfold ret1
      rw [List.cons_append, List.nil_append, taken_val r1, if_pos rfl, value_rd W ha.1 ha.2]; rfl
  rw [if_neg h28] at hF ⊢
  by_cases h11 : op = 11 \/ op = 12 \/ op = 15
  . rw [if_pos h11] at hF ⊢
    rw [if_neg (by omega), if_neg (by omega), if_pos (by omega)] at hT
    obtain ⟨h1, rfl, rfl, h2, h3⟩ := hF
    obtain ⟨a, rfl⟩ := list1 h1
    have ha := hv a (by simp)
    obtain ⟨p, T', rfl, h'⟩ := tk_cons (by simpa using hT)
    obtain ⟨q, T2, rfl, h''⟩ := tk_cons h'
    obtain rfl := tk_nil h''
    rw [List.cons_append, List.cons_append, List.nil_append, value_rd W ha.1 ha.2]
    show (andThen (number num E 0 15 ((dig n, q) :: R)) _) = _
    rw [number_rd W h2 h3 (by omega) (by omega)]; rfl
  rw [if_neg h11] at hF ⊢
  by_cases h13 : op = 13 \/ op = 14
  . rw [if_pos h13] at hF ⊢
    rw [if_neg (by omega), if_neg (by omega), if_pos (by omega)] at hT
    obtain ⟨h1, rfl, rfl, h2, h3⟩ := hF
    obtain ⟨a, b, rfl⟩ := list2 h1
    have ha := hv a (by simp)
    have hbb := hv b (by simp)
    obtain ⟨p, T', rfl, h'⟩ := tk_cons (by simpa using hT)
    obtain ⟨q, T2, rfl, h''⟩ := tk_cons h'
    obtain ⟨s, T3, rfl, h3'⟩ := tk_cons h''
    obtain rfl := tk_nil h3'
    rw [List.cons_append, List.cons_append, List.cons_append, List.nil_append, value_rd W ha.1 ha.2]
    show (andThen (number num E 0 15 ((dig n, q) :: (37 :: dig b, s) :: R)) _) = _
    rw [number_rd W h2 h3 (by omega) (by omega)]
    show (andThen (value idx E ((37 :: dig b, s) :: R)) _) = _
    rw [value_rd W hbb.1 hbb.2]; rfl
  rw [if_neg h13] at hF ⊢
  by_cases h23 : op = 23
  . subst h23
    rw [if_pos rfl] at hF ⊢
    rw [if_pos (by simp)] at hT
    obtain ⟨rfl, rfl, rfl, h1, h2⟩ := hF
    obtain ⟨p, T', rfl, h'⟩ := tk_cons hT
    obtain rfl := tk_nil h'
    rw [List.cons_append, List.nil_append, number_rd W h1 h2 (by omega) (by omega)]; rfl
  rw [if_neg h23] at hF ⊢
  by_cases h24 : op = 24
  . rw [if_pos h24] at hF ⊢
    rw [if_neg (by omega), if_neg (by omega), if_pos (by omega)] at hT
    obtain ⟨h1, rfl, rfl, h2, h3⟩ := hF
    obtain ⟨a, rfl⟩ := list1 h1
    have ha := hv a (by simp)
    obtain ⟨p, T', rfl, h'⟩ := tk_cons (by simpa using hT)
    obtain ⟨q, T2, rfl, h''⟩ := tk_cons h'
    obtain rfl := tk_nil h''
    rw [List.cons_append, List.cons_append, List.nil_append, value_rd W ha.1 ha.2]
    show (andThen (number num E 0 1048576 ((dig n, q) :: R)) _) = _
    rw [number_rd W h2 h3 (by omega) (by omega)]; rfl
  rw [if_neg h24] at hF ⊢
  rw [if_neg (by omega), if_neg (by omega), if_neg (by omega), if_neg (by omega), if_neg (by omega)] at hT
  by_cases h26 : op = 26
  . rw [if_pos h26] at hF ⊢
    obtain ⟨rfl, h1, rfl, rfl⟩ := hF
    obtain ⟨b, rfl⟩ := list1 h1
    have hbb := hb b (by simp)
    replace hT : T.map Prod.fst = [98 :: dig b] := hT
    obtain ⟨p, T', rfl, h'⟩ := tk_cons hT
    obtain rfl := tk_nil h'
    rw [List.cons_append, List.nil_append, label_rd W hbb.1 hbb.2]; rfl
  rw [if_neg h26] at hF ⊢
  by_cases h27 : op = 27
  . rw [if_pos h27] at hF ⊢
    obtain ⟨h1, h2, rfl, rfl⟩ := hF
    obtain ⟨a, rfl⟩ := list1 h1
    obtain ⟨b, c, rfl⟩ := list2 h2
    have ha := hv a (by simp)
    have hbb := hb b (by simp)
    have hcc := hb c (by simp)
    obtain ⟨p, T', rfl, h'⟩ := tk_cons (by simpa using hT)
    obtain ⟨q, T2, rfl, h''⟩ := tk_cons h'
    obtain ⟨s, T3, rfl, h3'⟩ := tk_cons h''
    obtain rfl := tk_nil h3'
    rw [List.cons_append, List.cons_append, List.cons_append, List.nil_append, value_rd W ha.1 ha.2]
    show (andThen (label idx E ((98 :: dig b, q) :: (98 :: dig c, s) :: R)) _) = _
    rw [label_rd W hbb.1 hbb.2]
    show (andThen (label idx E ((98 :: dig c, s) :: R)) _) = _
    rw [label_rd W hcc.1 hcc.2]; rfl
  rw [if_neg h27] at hF ⊢
  obtain ⟨h1, rfl, rfl, rfl⟩ := hF
  simp only [List.map_nil, List.append_nil] at hT
  rw [<- h1, valuesN_rd (E := E) W R ar T [] hv hT]; rfl
theorem opd_sign (W : Words num idx nam shp fnd prt dig iw good ltr) {op n : Int} {ar tt : List Int} {nm : List UInt8} (id ty pl : Int) (hF : Fits nam shp tks op n ar tt nm) : ∀ s ∈ opdS dig (op, id, n, ty, ar, tt, nm, pl), s ≠ [61] /\ s ≠ [58] := by
  have hd : ∀ m, -9223372036854775808 <= m -> m <= 9223372036854775807 -> dig m ≠ [61] /\ dig m ≠ [58] := fun m h1 h2 => by
    have e := W.num_dig m h1 h2
    refine ⟨fun h => W.num_bad.1 ?_, fun h => W.num_bad.2 ?_⟩ <;> rw [<- h, e]
  have hn : op = 1 \/ op = 23 \/ op = 29 \/ (op = 11 \/ op = 12 \/ op = 15 \/ op = 24 \/ op = 13 \/ op = 14) -> -9223372036854775808 <= n /\ n <= 9223372036854775807 := by
    intro h
    rcases h with h | h | h | h | h | h | h | h | h
    all_goals
      subst h
      simp [Fits] at hF
      omega
  intro s hs
  unfold opdS at hs
  dsimp only at hs
  have sv : ∀ m, (37 :: dig m) ≠ [61] /\ (37 :: dig m) ≠ [58] := fun m => by simp
  have sl : ∀ m, (98 :: dig m) ≠ [61] /\ (98 :: dig m) ≠ [58] := fun m => by simp
  split at hs
  . simp only [List.mem_singleton] at hs
    subst hs
    have := hn (by omega)
    exact hd n this.1 this.2
  split at hs
  . rename_i h10
    subst h10
    simp only [List.mem_singleton] at hs
    subst hs
    unfold Fits at hF
    simp only [show ¬ (10 : Int) = 1 by decide, show ¬ (10 : Int) = 29 by decide, if_false, if_true] at hF
    exact ⟨fun e => W.shp_bad.1 (e ▸ hF.2.2.2), fun e => W.shp_bad.2 (e ▸ hF.2.2.2)⟩
  split at hs
  . rename_i hm
    simp only [List.mem_append, List.mem_map, List.mem_singleton] at hs
    rcases hs with (⟨m, _, rfl⟩ | rfl) | ⟨m, _, rfl⟩
    . exact sv m
    . have := hn (by omega)
      exact hd n this.1 this.2
    . exact sv m
  split at hs
  . simp only [List.mem_flatMap, List.mem_cons, List.not_mem_nil, or_false] at hs
    obtain ⟨q, _, rfl | rfl⟩ := hs
    . exact sl _
    . exact sv _
  split at hs
  . rename_i h21
    subst h21
    simp only [List.mem_append, List.mem_map, List.mem_singleton] at hs
    rcases hs with (hs | rfl) | ⟨m, _, rfl⟩
    . split at hs
      . simp only [List.mem_singleton] at hs
        subst hs; simp
      . simp at hs
    . unfold Fits at hF
      simp only [show ¬ (21 : Int) = 1 by decide, show ¬ (21 : Int) = 29 by decide, show ¬ (21 : Int) = 10 by decide, show ¬ (21 : Int) = 20 by decide, if_false, if_true] at hF
      refine ⟨fun e => ?_, fun e => ?_⟩
      . have := W.nam_bad.1; rw [<- e, hF.2.2.2] at this; cases this
      . have := W.nam_bad.2.1; rw [<- e, hF.2.2.2] at this; cases this
    . exact sv m
  . simp only [List.mem_append, List.mem_map] at hs
    rcases hs with ⟨m, _, rfl⟩ | ⟨m, _, rfl⟩
    . exact sv m
    . exact sl m
theorem ident_no {l : List Tok} (h : peek1 l ≠ [61]) : ident idx E l = .ok (-1, l) := by
  unfold ident
  rw [if_neg h]
theorem peek1_cons {t : Tok} {r : List Tok} : peek1 (t :: r) = peek0 r := by cases r <;> rfl
theorem peek0_app {T R : List Tok} {ws : List (List UInt8)} {P : List UInt8 -> Prop} (hT : T.map Prod.fst = ws) (hw : ∀ s ∈ ws, P s) (hR : P (peek0 R)) : P (peek0 (T ++ R)) := by
  cases ws with
  | nil => obtain rfl := tk_nil hT; exact hR
  | cons s r => obtain ⟨p, T', rfl, _⟩ := tk_cons hT; exact hw s (by simp)
theorem instr_rd (W : Words num idx nam shp fnd prt dig iw good ltr) {x : Ins} {T R : List Tok} {a : Int} (hx : MayI nam shp tks good mks x) (hT : T.map Prod.fst = insS dig iw mks x) (hR : Fol R) :
    instrA num idx nam shp tks fnd mks E a (T ++ R) = .ok ((x.1, x.2.1, x.2.2.1, x.2.2.2.1, x.2.2.2.2.1, x.2.2.2.2.2.1, x.2.2.2.2.2.2.1, a), R) := by
  obtain ⟨op, id, n, ty, ar, tt, nm, pl⟩ := x
  obtain ⟨g1, g2, g3, g4, g5, g6⟩ := hx
  dsimp only at g1 g2 g3 g4 g5 g6 ⊢
  unfold insS at hT
  dsimp only at hT
  have hof := W.fnd_iw op ty g1
  have hne := W.op_ne op ty g1
  by_cases hm : mks op ty = 0
  . rw [if_neg (by simpa using hm), List.nil_append, List.singleton_append] at hT
    obtain ⟨p, T1, rfl, h1⟩ := tk_cons hT
    have hid := g2 hm
    subst hid
    have hp : peek1 ((iw op ty, p) :: (T1 ++ R)) ≠ [61] := by
      rw [peek1_cons]
      exact peek0_app (P := fun s => s ≠ [61]) h1 (fun s hs => (opd_sign W (-1) ty pl g6 s hs).1) hR.1
    have hst : start idx fnd mks E ((iw op ty, p) :: (T1 ++ R)) = .ok ((-1, op, ty), T1 ++ R) := by
      unfold start
      rw [ident_no hp]
      show (andThen (opword fnd mks E (-1) ((iw op ty, p) :: (T1 ++ R))) _) = _
      rw [show opword fnd mks E (-1) ((iw op ty, p) :: (T1 ++ R)) = .ok ((op, ty), T1 ++ R) from one_rd (by simp [hof, hne, hm])]
      rfl
    unfold instrA
    rw [List.cons_append, hst]
    show (andThen (operands num idx nam shp tks E op (T1 ++ R)) _) = _
    rw [operands_rd W (-1) ty pl g6 g4 g5 h1 hR]; rfl
  . rw [if_pos hm] at hT
    obtain ⟨p, T1, rfl, h1⟩ := tk_cons (show _ = (37 :: dig id) :: ([61] :: ([iw op ty] ++ opdS dig (op, id, n, ty, ar, tt, nm, pl))) by rw [hT]; simp)
    obtain ⟨q, T2, rfl, h2⟩ := tk_cons h1
    obtain ⟨s, T3, rfl, h3⟩ := tk_cons h2
    have hid := g3 hm
    have hst : start idx fnd mks E ((37 :: dig id, p) :: ([61], q) :: (iw op ty, s) :: (T3 ++ R)) = .ok ((id, op, ty), T3 ++ R) := by
      unfold start ident
      rw [if_pos (show peek1 ((37 :: dig id, p) :: ([61], q) :: (iw op ty, s) :: (T3 ++ R)) = [61] from rfl), value_rd W hid.1 hid.2]
      simp only [then_val, want_rd]
      show (andThen (opword fnd mks E id ((iw op ty, s) :: (T3 ++ R))) _) = _
      rw [show opword fnd mks E id ((iw op ty, s) :: (T3 ++ R)) = .ok ((op, ty), T3 ++ R) from one_rd (by simp [hof, hne, hm, hid.1])]
      rfl
    unfold instrA
    rw [List.cons_append, List.cons_append, List.cons_append, hst]
    show (andThen (operands num idx nam shp tks E op (T3 ++ R)) _) = _
    rw [operands_rd W id ty pl g6 g4 g5 h3 hR]; rfl
theorem ins_head (W : Words num idx nam shp fnd prt dig iw good ltr) {x : Ins} {T R : List Tok} (hx : MayI nam shp tks good mks x) (hT : T.map Prod.fst = insS dig iw mks x) (hR : Fol R) : Fol (T ++ R) /\ peek0 (T ++ R) ≠ [125] /\ peek1 (T ++ R) ≠ [58] /\ 1 <= T.length := by
  obtain ⟨op, id, n, ty, ar, tt, nm, pl⟩ := x
  obtain ⟨g1, g2, g3, g4, g5, g6⟩ := hx
  dsimp only at g1 g2 g3 g4 g5 g6
  unfold insS at hT
  dsimp only at hT
  obtain ⟨i1, i2, i3, i4⟩ := W.iw_a op ty g1
  by_cases hm : mks op ty = 0
  . rw [if_neg (by simpa using hm), List.nil_append, List.singleton_append] at hT
    obtain ⟨p, T1, rfl, h1⟩ := tk_cons hT
    have hp : peek1 ((iw op ty, p) :: (T1 ++ R)) ≠ [58] := by
      rw [peek1_cons]
      exact peek0_app (P := fun s => s ≠ [58]) h1 (fun s hs => (opd_sign W id ty pl g6 s hs).2) hR.2.1
    refine ⟨⟨i2, i3, ?_, ?_⟩, i4, hp, by simp⟩
    . unfold taken
      rw [show peek0 ((iw op ty, p) :: T1 ++ R) = iw op ty from rfl]
      have : ((iw op ty).head? == some 37) = false := by simpa using i1
      rw [this]; rfl
    . unfold paired
      rw [show peek0 ((iw op ty, p) :: T1 ++ R) = iw op ty from rfl]
      by_cases h98 : (iw op ty).head? = some 98
      . rw [W.iw_b op ty g1 h98]; rfl
      . have : ((iw op ty).head? == some 98) = false := by simpa using h98
        rw [this]; rfl
  . rw [if_pos hm] at hT
    obtain ⟨p, T1, rfl, h1⟩ := tk_cons (show _ = (37 :: dig id) :: ([61] :: ([iw op ty] ++ opdS dig (op, id, n, ty, ar, tt, nm, pl))) by rw [hT]; simp)
    obtain ⟨q, T2, rfl, h2⟩ := tk_cons h1
    refine ⟨⟨by simp [peek0], by simp [peek0], by simp [taken, peek0, peek1], by simp [paired, peek0]⟩, by simp [peek0], by simp [peek1], by simp⟩
def Ends (R : List Tok) : Prop := peek0 R = [125] \/ (peek1 R = [58] /\ (peek0 R).head? = some 98)
theorem Ends.fol {R : List Tok} (h : Ends R) : Fol R := by
  rcases h with h | ⟨h1, h2⟩
  . exact ⟨by rw [h]; decide, by rw [h]; decide, by unfold taken; rw [h]; rfl, by unfold paired; rw [h]; rfl⟩
  . refine ⟨fun e => ?_, fun e => ?_, ?_, ?_⟩
    . rw [e] at h2; cases h2
    . rw [e] at h2; cases h2
    . unfold taken; rw [h2]; rfl
    . unfold paired; rw [h1]; simp
theorem Ends.stop {R : List Tok} (h : Ends R) : peek0 R = [125] \/ peek1 R = [58] := by
  rcases h with h | h
  . exact .inl h
  . exact .inr h.1
theorem insW_rd (W : Words num idx nam shp fnd prt dig iw good ltr) {R : List Tok} (hR : Ends R) : ∀ (b : List Ins) (T : List Tok) (f n : Nat) (acc : List Ins), (∀ x ∈ b, MayI nam shp tks good mks x) -> T.map Prod.fst = b.flatMap (insS dig iw mks) -> T.length < f -> n + b.length <= 4096 ->
    Fol (T ++ R) /\ ∃ b', insW num idx nam shp tks fnd mks E f n acc (T ++ R) = .ok ((acc ++ b', n + b.length), R) /\ noB b' = noB b := by
  intro b
  induction b with
  | nil =>
    intro T f n acc _ hT hf _
    obtain rfl := tk_nil hT
    obtain ⟨f, rfl⟩ : ∃ k, f = k + 1 := ⟨f - 1, by omega⟩
    refine ⟨hR.fol, [], ?_, rfl⟩
    simp only [insW, List.nil_append]
    rw [if_pos hR.stop]; simp
  | cons x b ih =>
    intro T f n acc hm hT hf hn
    obtain ⟨A, B, rfl, hA, hB⟩ := tk_app (by simpa using hT)
    obtain ⟨f, rfl⟩ : ∃ k, f = k + 1 := ⟨f - 1, by omega⟩
    have hx := hm x (by simp)
    simp only [List.length_append] at hf
    have hAl : 1 <= A.length := by
      have := congrArg List.length hA
      simp [insS] at this
      omega
    have step := ih B f (n + 1) (acc ++ [(x.1, x.2.1, x.2.2.1, x.2.2.2.1, x.2.2.2.2.1, x.2.2.2.2.2.1, x.2.2.2.2.2.2.1, atOf E (A ++ (B ++ R)))]) (fun y hy => hm y (by simp [hy])) hB (by omega) (by simp at hn; omega)
    obtain ⟨hfo, b', hb', he⟩ := step
    obtain ⟨k1, k2, k3, _⟩ := ins_head W hx hA hfo
    rw [List.append_assoc]
    refine ⟨k1, (x.1, x.2.1, x.2.2.1, x.2.2.2.1, x.2.2.2.2.1, x.2.2.2.2.2.1, x.2.2.2.2.2.2.1, atOf E (A ++ (B ++ R))) :: b', ?_, ?_⟩
    . simp only [insW]
      rw [if_neg (by rintro (h | h); exact k2 h; exact k3 h), if_neg (by simp at hn; omega)]
      unfold instr
      rw [instr_rd W hx hA hfo]
      show insW num idx nam shp tks fnd mks E f (n + 1) _ (B ++ R) = _
      rw [hb']
      simp; omega
    . simp only [noB, List.map_cons] at he ⊢
      rw [he]; rfl
theorem blkW_rd (W : Words num idx nam shp fnd prt dig iw good ltr) {R : List Tok} (hR : peek0 R = [125]) : ∀ (bl : List (List Ins)) (T : List Tok) (f n : Nat) (acc : List (List Ins)), (∀ b ∈ bl, ∀ x ∈ b, MayI nam shp tks good mks x) -> T.map Prod.fst = blksS dig iw mks acc.length bl -> T.length < f -> n + (bl.map List.length).sum <= 4096 -> acc.length + bl.length <= 256 ->
    Ends (T ++ R) /\ ∃ bl', blkW num idx nam shp tks fnd mks prt E f n acc (T ++ R) = .ok ((acc ++ bl', n + (bl.map List.length).sum), R) /\ bl'.map noB = bl.map noB := by
  intro bl
  induction bl with
  | nil =>
    intro T f n acc _ hT hf _ _
    obtain rfl := tk_nil hT
    obtain ⟨f, rfl⟩ : ∃ k, f = k + 1 := ⟨f - 1, by omega⟩
    refine ⟨.inl hR, [], ?_, rfl⟩
    simp only [blkW, List.nil_append]
    rw [if_pos hR]; simp
  | cons b bl ih =>
    intro T f n acc hm hT hf hn hk
    obtain ⟨f, rfl⟩ : ∃ k, f = k + 1 := ⟨f - 1, by omega⟩
    obtain ⟨A, B, rfl, hA, hB⟩ := tk_app (show _ = blkS dig iw mks acc.length b ++ blksS dig iw mks (acc.length + 1) bl from hT)
    obtain ⟨p, A1, rfl, hA1⟩ := tk_cons hA
    obtain ⟨q, A2, rfl, hA2⟩ := tk_cons hA1
    simp only [List.map_cons, List.sum_cons, List.length_cons, List.length_append] at hn hf hk
    have step : ∀ b' : List Ins, _ := fun b' => ih B f (n + b.length) (acc ++ [b']) (fun y hy => hm y (by simp [hy])) (by simpa using hB) (by omega) (by omega) (by simp; omega)
    have hE : Ends (B ++ R) := (step []).1
    obtain ⟨_, b', hb', he⟩ := insW_rd (E := E) W hE b A2 ((A2 ++ (B ++ R)).length + 1) n [] (hm b (by simp)) (by simpa using hA2) (by simp; omega) (by omega)
    obtain ⟨_, bl', hbl', hel⟩ := step b'
    have hpr : head prt E acc.length ((98 :: dig (acc.length : Int), p) :: ([58], q) :: (A2 ++ (B ++ R))) = .ok ((), ([58], q) :: (A2 ++ (B ++ R))) := one_rd (by
      rw [if_neg]
      rintro (h | h | h)
      . omega
      . cases h
      . rw [W.prt_dig _ (by omega)] at h; cases h)
    simp only [List.cons_append, List.append_assoc]
    refine ⟨.inr ⟨rfl, rfl⟩, b' :: bl', ?_, ?_⟩
    . simp only [blkW]
      rw [if_neg (by simp [peek0])]
      unfold block body
      rw [hpr]
      simp only [then_val, want_rd]
      rw [hb']
      show blkW num idx nam shp tks fnd mks prt E f (n + b.length) (acc ++ [[] ++ b']) (B ++ R) = _
      rw [List.nil_append, hbl']
      simp; omega
    . simp only [List.map_cons]
      rw [hel, he]
theorem parW_rd (W : Words num idx nam shp fnd prt dig iw good ltr) {R : List Tok} (hR : peek0 R = [41]) : ∀ (ps : List Int) (T : List Tok) (f : Nat) (acc : List Int), (∀ t ∈ ps, 1 <= t /\ t <= 2) -> T.map Prod.fst = ps.map ltr -> T.length < f -> acc.length + ps.length <= 8 ->
    parW E f acc (T ++ R) = .ok (acc ++ ps, R) := by
  intro ps
  induction ps with
  | nil =>
    intro T f acc _ hT hf _
    obtain rfl := tk_nil hT
    obtain ⟨f, rfl⟩ : ∃ k, f = k + 1 := ⟨f - 1, by omega⟩
    simp only [parW, List.nil_append]
    rw [if_pos hR]; simp
  | cons t ps ih =>
    intro T f acc hm hT hf hk
    obtain ⟨f, rfl⟩ : ∃ k, f = k + 1 := ⟨f - 1, by omega⟩
    obtain ⟨p, T', rfl, hT'⟩ := tk_cons hT
    obtain ⟨h1, h2⟩ := hm t (by simp)
    have hkd := W.ltr_k t (by omega) h2
    simp only [List.length_cons] at hf hk
    have h41 : ltr t ≠ [41] := fun e => by
      rw [e] at hkd
      have : kind [41] = -1 := by decide
      omega
    simp only [List.cons_append, parW]
    rw [if_neg (show ¬ peek0 ((ltr t, p) :: (T' ++ R)) = [41] from h41)]
    rw [show param E acc.length ((ltr t, p) :: (T' ++ R)) = .ok (t, T' ++ R) from one_rd (by
      rw [hkd, if_neg]
      rintro (h | h) <;> omega)]
    show parW E f (acc ++ [t]) (T' ++ R) = _
    rw [ih T' f (acc ++ [t]) (fun x hx => hm x (by simp [hx])) hT' (by omega) (by simp; omega)]
    simp
theorem function_rd (W : Words num idx nam shp fnd prt dig iw good ltr) {f : Fun} {T R : List Tok} {n : Nat} (hf : MayF nam shp tks good mks f) (hT : T.map Prod.fst = funS dig iw mks ltr f) (hn : n + (f.2.2.2.1.map List.length).sum <= 4096) :
    ∃ f', function num idx nam shp tks fnd mks prt E n (T ++ R) = .ok ((f', n + (f.2.2.2.1.map List.length).sum), R) /\ noF f' = noF f := by
  obtain ⟨nm, ps, rt, bl, pl⟩ := f
  obtain ⟨g1, g2, g3, g4, g5, g6, g7⟩ := hf
  dsimp only at g1 g2 g3 g4 g5 g6 g7 hn ⊢
  unfold funS at hT
  dsimp only at hT
  obtain ⟨A, Z, rfl, hA, hZ⟩ := tk_app hT
  clear hT
  obtain ⟨A, B, rfl, hA2, hB⟩ := tk_app hA
  clear hA
  obtain ⟨A, C, rfl, hA, hC⟩ := tk_app hA2
  clear hA2
  obtain ⟨A, P, rfl, hA2, hP⟩ := tk_app hA
  clear hA
  obtain ⟨p1, A1, rfl, hA⟩ := tk_cons hA2
  clear hA2
  obtain ⟨p2, A2, rfl, hA2⟩ := tk_cons hA
  clear hA
  obtain ⟨p3, A3, rfl, hA3⟩ := tk_cons hA2
  obtain rfl := tk_nil hA3
  obtain ⟨p4, C1, rfl, hC1⟩ := tk_cons hC
  clear hC
  obtain ⟨p5, C2, rfl, hC2⟩ := tk_cons hC1
  clear hC1
  obtain ⟨p6, C3, rfl, hC3⟩ := tk_cons hC2
  obtain rfl := tk_nil hC3
  obtain ⟨p7, Z1, rfl, hZ1⟩ := tk_cons hZ
  obtain rfl := tk_nil hZ1
  simp only [List.cons_append, List.nil_append, List.append_assoc]
  obtain ⟨_, bl', hbl, hel⟩ := blkW_rd (E := E) (R := ([125], p7) :: R) W rfl bl B ((B ++ ([125], p7) :: R).length + 1) n [] g7 hB (by simp; omega) hn (by simpa using g6)
  have hpar := parW_rd (E := E) (R := ([41], p4) :: (ltr rt, p5) :: ([123], p6) :: (B ++ ([125], p7) :: R)) W rfl ps P ((P ++ ([41], p4) :: (ltr rt, p5) :: ([123], p6) :: (B ++ ([125], p7) :: R)).length + 1) [] g3 hP (by simp; omega) (by simpa using g2)
  have hans : answer E ((ltr rt, p5) :: ([123], p6) :: (B ++ ([125], p7) :: R)) = .ok (rt, ([123], p6) :: (B ++ ([125], p7) :: R)) := one_rd (by
    rw [W.ltr_k rt g4 g5, if_neg (by omega)])
  refine ⟨(nm, ps, rt, bl', p1), ?_, ?_⟩
  . unfold function params blocks
    simp only [then_val, want_rd, name_rd g1, hpar, hans, hbl, List.nil_append]
    rfl
  . show (nm, ps, rt, bl'.map noB, (0 : Int)) = (nm, ps, rt, bl.map noB, 0)
    rw [hel]
theorem funW_rd (W : Words num idx nam shp fnd prt dig iw good ltr) : ∀ (p : List Fun) (T : List Tok) (f n : Nat) (acc : List Fun), (∀ x ∈ p, MayF nam shp tks good mks x) -> T.map Prod.fst = p.flatMap (funS dig iw mks ltr) -> T.length < f -> n + (p.map fun x => (x.2.2.2.1.map List.length).sum).sum <= 4096 -> acc.length + p.length <= 32 ->
    ∃ p' m, funW num idx nam shp tks fnd mks prt E f n acc T = .ok ((acc ++ p', m), []) /\ p'.map noF = p.map noF := by
  intro p
  induction p with
  | nil =>
    intro T f n acc _ hT hf _ _
    obtain rfl := tk_nil hT
    obtain ⟨f, rfl⟩ : ∃ k, f = k + 1 := ⟨f - 1, by omega⟩
    exact ⟨[], n, by simp [funW], rfl⟩
  | cons x p ih =>
    intro T f n acc hm hT hf hn hk
    obtain ⟨f, rfl⟩ : ∃ k, f = k + 1 := ⟨f - 1, by omega⟩
    obtain ⟨A, B, rfl, hA, hB⟩ := tk_app (by simpa using hT)
    simp only [List.map_cons, List.sum_cons, List.length_cons, List.length_append] at hn hf hk
    have hAl : 1 <= A.length := by
      have := congrArg List.length hA
      simp [funS] at this
      omega
    obtain ⟨x', hx', he⟩ := function_rd (E := E) (R := B) W (hm x (by simp)) hA (n := n) (by omega)
    obtain ⟨p', m, hp', hpe⟩ := ih B f (n + (x.2.2.2.1.map List.length).sum) (acc ++ [x']) (fun y hy => hm y (by simp [hy])) hB (by omega) (by omega) (by simp; omega)
    refine ⟨x' :: p', m, ?_, ?_⟩
    . simp only [funW]
      rw [if_neg (by intro e; have := congrArg List.length e; rw [List.length_append] at this; simp only [List.length_nil] at this; omega), if_neg (by omega), hx']
      show funW num idx nam shp tks fnd mks prt E f _ (acc ++ [x']) B = _
      rw [hp']; simp
    . simp only [List.map_cons]
      rw [he, hpe]
theorem program_rd (W : Words num idx nam shp fnd prt dig iw good ltr) {p : List Fun} {T : List Tok} (hp : ∀ x ∈ p, MayF nam shp tks good mks x) (h32 : p.length <= 32) (hn : (p.map fun x => (x.2.2.2.1.map List.length).sum).sum <= 4096) (hT : T.map Prod.fst = p.flatMap (funS dig iw mks ltr)) :
    ∃ p' m, program num idx nam shp tks fnd mks prt E T = .ok ((p', m), []) /\ p'.map noF = p.map noF :=
  funW_rd W p T (T.length + 1) 0 [] hp hT (by omega) (by omega) (by simpa using h32)
end
def ms (l : List Tok) : Nat := (l.map fun t => t.1.length).sum
def Got {α : Type} (l : List Tok) (x : Except Er (α × List Tok)) (P : α -> Nat -> Prop) : Prop := ∀ v r, x = .ok (v, r) -> ∃ k, P v k /\ ms r + k <= ms l
theorem Got.done {α : Type} {l : List Tok} {v : α} {P : α -> Nat -> Prop} (h : P v 0) : Got l (done v l) P := by
  intro u r e
  cases e
  exact ⟨0, h, by omega⟩
theorem Got.ok {α : Type} {l : List Tok} {v : α} {P : α -> Nat -> Prop} (h : P v 0) : Got l (.ok (v, l)) P := Got.done h
theorem Got.mono {α : Type} {l : List Tok} {x : Except Er (α × List Tok)} {P Q : α -> Nat -> Prop} (h : Got l x P) (g : ∀ v k, P v k -> Q v k) : Got l x Q := fun v r e =>
  let ⟨k, hk, hl⟩ := h v r e
  ⟨k, g v k hk, hl⟩
def Reads (num : List UInt8 -> Int × Int) (idx : List UInt8 -> Int -> Option Int) (nam : List UInt8 -> Bool) (shp : List UInt8 -> Int) (fnd : List UInt8 -> Int × Int) (good : Int -> Int -> Bool) : Prop :=
  (∀ s, (num s).2 = 0 -> -9223372036854775808 <= (num s).1 /\ (num s).1 <= 9223372036854775807) /\
  (∀ s most n, idx s most = some n -> 0 <= n /\ n <= most) /\
  (∀ s, (fnd s).1 ≠ 0 -> good (fnd s).1 (fnd s).2 = true) /\
  ((num []).2 ≠ 0) /\
  (nam [] = false) /\
  (shp [] ≠ 0) /\
  ((fnd []).1 = 0)
section
variable {E : Int} {num : List UInt8 -> Int × Int} {idx : List UInt8 -> Int -> Option Int} {nam : List UInt8 -> Bool} {shp : List UInt8 -> Int} {tks : Int -> Nat} {fnd : List UInt8 -> Int × Int} {mks : Int -> Int -> Int} {prt : Nat -> List UInt8 -> Bool}
variable {dig : Int -> List UInt8} {iw : Int -> Int -> List UInt8} {good : Int -> Int -> Bool} {l : List Tok}
theorem Reads.num_nil (W : Reads num idx nam shp fnd good) : (num []).2 ≠ 0 := W.2.2.2.1
theorem Reads.nam_nil (W : Reads num idx nam shp fnd good) : nam [] = false := W.2.2.2.2.1
theorem Reads.shp_nil (W : Reads num idx nam shp fnd good) : shp [] ≠ 0 := W.2.2.2.2.2.1
theorem Reads.fnd_nil (W : Reads num idx nam shp fnd good) : (fnd []).1 = 0 := W.2.2.2.2.2.2
theorem pairs_len (t a : List Int) (h : a.length = t.length) : ((t.zip a).flatMap fun q => [98 :: dig q.1, 37 :: dig q.2]).length = 2 * t.length := by
  induction t generalizing a with
  | nil => simp
  | cons b t ih =>
    cases a with
    | nil => simp at h
    | cons v a =>
      have := ih a (by simpa using h)
      simp only [List.zip_cons_cons, List.flatMap_cons, List.length_append, List.length_cons, List.length_nil] at this ⊢
      omega
def wI (dig : Int -> List UInt8) (iw : Int -> Int -> List UInt8) (mks : Int -> Int -> Int) (x : Ins) : Nat := (insS dig iw mks x).length + x.2.2.2.2.1.length + x.2.2.2.2.2.1.length
def wB (dig : Int -> List UInt8) (iw : Int -> Int -> List UInt8) (mks : Int -> Int -> Int) (b : List Ins) : Nat := (b.map (wI dig iw mks)).sum + 2
def wF (dig : Int -> List UInt8) (iw : Int -> Int -> List UInt8) (mks : Int -> Int -> Int) (f : Fun) : Nat := f.2.1.length + (f.2.2.2.1.map (wB dig iw mks)).sum + 7
end
end Go.Proofs.YtahhbckccdigoaaGreatDoor.G
