/- Layer 7: what is read may be written, and has no more words and numbers than bytes were read, whatever the words' own functions are. -/
import Derived.Test.YtahhbckccdigoaaGreatDoorMgAE
import Derived.Test.YtahhbckccdigoaaGreatDoorMgAF
import Derived.Test.YtahhbckccdigoaaGreatDoorMgAL
import Derived.Test.YtahhbckccdigoaaGreatDoorMgAV
import Derived.Test.YtahhbckccdigoaaGreatDoorMgAX
import Derived.Test.YtahhbckccdigoaaGreatDoorMgBI
set_option maxHeartbeats 8000000
set_option maxRecDepth 20000
namespace Go.Proofs.YtahhbckccdigoaaGreatDoor.G
def ms (l : List Tok) : Nat := (l.map fun t => t.1.length).sum
def Got {α : Type} (l : List Tok) (x : Except Er (α × List Tok)) (P : α -> Nat -> Prop) : Prop := ∀ v r, x = .ok (v, r) -> ∃ k, P v k /\ ms r + k <= ms l
theorem Got.then {α β : Type} {l : List Tok} {x : Except Er (α × List Tok)} {f : α -> Rd β} {P : α -> Nat -> Prop} {Q : β -> Nat -> Prop} (h : Got l x P) (g : ∀ v k, P v k -> ∀ q, Got q (f v q) (fun u j => Q u (k + j))) : Got l (andThen x f) Q := by
  intro v r e
  obtain ⟨u, q, e1, e2⟩ := then_ok e
  obtain ⟨k, hk, hl⟩ := h u q e1
  obtain ⟨j, hj, hl2⟩ := g u k hk q v r e2
  exact ⟨k + j, hj, by omega⟩
theorem Got.done {α : Type} {l : List Tok} {v : α} {P : α -> Nat -> Prop} (h : P v 0) : Got l (done v l) P := by
  intro u r e
  cases e
  exact ⟨0, h, by omega⟩
theorem Got.ok {α : Type} {l : List Tok} {v : α} {P : α -> Nat -> Prop} (h : P v 0) : Got l (.ok (v, l)) P := Got.done h
theorem Got.bad {α : Type} {l : List Tok} {e : Er} {P : α -> Nat -> Prop} : Got l (.error e) P := by
  intro u r e
  cases e
theorem Got.ite {α : Type} {l : List Tok} {c : Prop} [Decidable c] {x y : Except Er (α × List Tok)} {P : α -> Nat -> Prop} (h : c -> Got l x P) (k : ¬ c -> Got l y P) : Got l (if c then x else y) P := by
  by_cases e : c
  · rw [if_pos e]; exact h e
  · rw [if_neg e]; exact k e
theorem Got.long {α : Type} {f : List UInt8 -> Option α} {c : List UInt8 -> Int} {E : Int} {l : List Tok} {P : α -> Nat -> Prop} (h0 : f [] = none) (h : ∀ s v, f s = some v -> ∃ k, P v k /\ k <= s.length) : Got l (one f c E l) P := by
  intro v r e
  obtain ⟨hl, rfl, hv⟩ := one_ok h0 e
  obtain ⟨k, hk, hle⟩ := h _ _ hv
  refine ⟨k, hk, ?_⟩
  cases l with
  | nil => exact absurd rfl hl
  | cons t r =>
    have : k <= t.1.length := hle
    simp only [ms, List.tail_cons, List.map_cons, List.sum_cons]
    omega
theorem Got.one {α : Type} {f : List UInt8 -> Option α} {c : List UInt8 -> Int} {E : Int} {l : List Tok} {P : α -> Nat -> Prop} (h0 : f [] = none) (h : ∀ s v, f s = some v -> P v 1) : Got l (one f c E l) P :=
  Got.long h0 fun s v hv => ⟨1, h s v hv, by
    cases s with
    | nil => rw [h0] at hv; cases hv
    | cons => simp⟩
theorem Got.mono {α : Type} {l : List Tok} {x : Except Er (α × List Tok)} {P Q : α -> Nat -> Prop} (h : Got l x P) (g : ∀ v k, P v k -> Q v k) : Got l x Q := fun v r e =>
  let ⟨k, hk, hl⟩ := h v r e
  ⟨k, g v k hk, hl⟩
def Reads (num : List UInt8 -> Int × Int) (idx : List UInt8 -> Int -> Option Int) (nam : List UInt8 -> Bool) (shp : List UInt8 -> Int) (fnd : List UInt8 -> Int × Int) (good : Int -> Int -> Bool) : Prop :=
  (∀ s, (num s).2 = 0 -> -9223372036854775808 <= (num s).1 /\ (num s).1 <= 9223372036854775807) /\
  (∀ s most n, idx s most = some n -> 0 <= n /\ n <= most) /\
  (∀ s, (fnd s).1 ≠ 0 -> good (fnd s).1 (fnd s).2 = true) /\
  ((num []).2 ≠ 0) /\
  (nam [] = false) /\
  (shp [] ≠ 0) /\
  ((fnd []).1 = 0)
section
variable {E : Int} {num : List UInt8 -> Int × Int} {idx : List UInt8 -> Int -> Option Int} {nam : List UInt8 -> Bool} {shp : List UInt8 -> Int} {tks : Int -> Nat} {fnd : List UInt8 -> Int × Int} {mks : Int -> Int -> Int} {prt : Nat -> List UInt8 -> Bool}
variable {dig : Int -> List UInt8} {iw : Int -> Int -> List UInt8} {good : Int -> Int -> Bool} {l : List Tok}
theorem Reads.num_in (W : Reads num idx nam shp fnd good) : ∀ s, (num s).2 = 0 -> -9223372036854775808 <= (num s).1 /\ (num s).1 <= 9223372036854775807 := W.1
theorem Reads.idx_in (W : Reads num idx nam shp fnd good) : ∀ s most n, idx s most = some n -> 0 <= n /\ n <= most := W.2.1
theorem Reads.fnd_in (W : Reads num idx nam shp fnd good) : ∀ s, (fnd s).1 ≠ 0 -> good (fnd s).1 (fnd s).2 = true := W.2.2.1
theorem Reads.num_nil (W : Reads num idx nam shp fnd good) : (num []).2 ≠ 0 := W.2.2.2.1
theorem Reads.nam_nil (W : Reads num idx nam shp fnd good) : nam [] = false := W.2.2.2.2.1
theorem Reads.shp_nil (W : Reads num idx nam shp fnd good) : shp [] ≠ 0 := W.2.2.2.2.2.1
theorem Reads.fnd_nil (W : Reads num idx nam shp fnd good) : (fnd []).1 = 0 := W.2.2.2.2.2.2
theorem mark_got (R : Reads num idx nam shp fnd good) {sign : UInt8} {most n : Int} {s : List UInt8} (h : mark idx sign most s = some n) : 0 <= n /\ n <= most /\ 2 <= s.length := by
  unfold mark at h
  split at h
  · split at h
    · have := R.idx_in _ _ _ h
      exact ⟨this.1, this.2, by simp⟩
    · cases h
  · cases h
theorem index_got (R : Reads num idx nam shp fnd good) {sign : UInt8} {most c : Int} : Got l (index idx sign most c E l) (fun n k => 0 <= n /\ n <= most /\ k = 2) :=
  Got.long (f := mark idx sign most) rfl fun _ _ h => ⟨2, ⟨(mark_got R h).1, (mark_got R h).2.1, rfl⟩, (mark_got R h).2.2⟩
theorem value_got (R : Reads num idx nam shp fnd good) : Got l (value idx E l) (fun n k => 0 <= n /\ n <= 1048576 /\ k = 2) := index_got R
theorem label_got (R : Reads num idx nam shp fnd good) : Got l (label idx E l) (fun n k => 0 <= n /\ n <= 255 /\ k = 2) := index_got R
theorem number_got (R : Reads num idx nam shp fnd good) {lo hi : Int} : Got l (number num E lo hi l) (fun n k => lo <= n /\ n <= hi /\ k = 1) :=
  Got.one (by simp [R.num_nil]) fun s v h => by
    by_cases e : (num s).2 ≠ 0 \/ (num s).1 < lo \/ hi < (num s).1
    · rw [if_pos e] at h; cases h
    · rw [if_neg e] at h; cases h
      refine ⟨?_, ?_, rfl⟩ <;> omega
theorem anyNum_got (R : Reads num idx nam shp fnd good) : Got l (anyNum num E l) (fun n k => -9223372036854775808 <= n /\ n <= 9223372036854775807 /\ k = 1) :=
  Got.one (by simp [R.num_nil]) fun s v h => by
    by_cases e : (num s).2 ≠ 0
    · rw [if_pos e] at h; cases h
    · rw [if_neg e] at h; cases h
      have := R.num_in s (by simpa using e)
      exact ⟨this.1, this.2, rfl⟩
theorem shaped_got (R : Reads num idx nam shp fnd good) : Got l (shaped shp E l) (fun s k => shp s = 0 /\ k = 1) :=
  Got.one (by simp [R.shp_nil]) fun s v h => by
    by_cases e : shp s ≠ 0
    · rw [if_pos e] at h; cases h
    · rw [if_neg e] at h; cases h
      exact ⟨by simpa using e, rfl⟩
theorem name_got (R : Reads num idx nam shp fnd good) : Got l (name nam E l) (fun s k => nam s = true /\ k = 1) :=
  Got.one (by simp [R.nam_nil]) fun s v h => by
    by_cases e : nam s = true
    · rw [if_pos e] at h; cases h; exact ⟨e, rfl⟩
    · rw [if_neg e] at h; cases h
theorem want_got {w : List UInt8} (hw : w ≠ []) : Got l (want E w l) (fun _ k => k = 1) := Got.one (want_none hw) fun _ _ _ => rfl
theorem vals_snoc {a : Int} {u : List Int} (ha : 0 <= a /\ a <= 1048576) (hu : Vals u) : Vals (a :: u) := fun x hx => by
  rcases List.mem_cons.1 hx with rfl | hx
  · exact ha
  · exact hu x hx
theorem labs_snoc {a : Int} {u : List Int} (ha : 0 <= a /\ a <= 255) (hu : Labs u) : Labs (a :: u) := fun x hx => by
  rcases List.mem_cons.1 hx with rfl | hx
  · exact ha
  · exact hu x hx
theorem vals_nil : Vals [] := fun _ h => by cases h
theorem labs_nil : Labs [] := fun _ h => by cases h
theorem valuesW_got (R : Reads num idx nam shp fnd good) : ∀ f acc l, Got l (valuesW idx E f acc l) (fun v k => ∃ u, v = acc ++ u /\ Vals u /\ k = 2 * u.length) := by
  intro f
  induction f with
  | zero => intro acc l; exact Got.ok ⟨[], by simp, vals_nil, rfl⟩
  | succ f ih =>
    intro acc l
    simp only [valuesW]
    refine Got.ite (fun _ => (value_got R).then fun v k hk q => (ih (acc ++ [v]) q).mono ?_) fun _ => Got.ok ⟨[], by simp, vals_nil, rfl⟩
    rintro w j ⟨u, rfl, hu, rfl⟩
    exact ⟨v :: u, by simp, vals_snoc ⟨hk.1, hk.2.1⟩ hu, by simp [hk.2.2]; omega⟩
theorem valuesN_got (R : Reads num idx nam shp fnd good) : ∀ f acc l, Got l (valuesN idx E f acc l) (fun v k => ∃ u, v = acc ++ u /\ Vals u /\ k = 2 * u.length /\ u.length = f) := by
  intro f
  induction f with
  | zero => intro acc l; exact Got.ok ⟨[], by simp, vals_nil, rfl, rfl⟩
  | succ f ih =>
    intro acc l
    simp only [valuesN]
    refine (value_got R).then fun v k hk q => (ih (acc ++ [v]) q).mono ?_
    rintro w j ⟨u, rfl, hu, rfl, hf⟩
    exact ⟨v :: u, by simp, vals_snoc ⟨hk.1, hk.2.1⟩ hu, by simp [hk.2.2]; omega, by simp [hf]⟩
theorem phiW_got (R : Reads num idx nam shp fnd good) : ∀ f to args l, (to = [] -> 0 < f) -> Got l (phiW idx E f to args l) (fun v k => ∃ t a, v = (to ++ t, args ++ a) /\ a.length = t.length /\ Vals a /\ Labs t /\ k = 4 * t.length /\ (to = [] -> t ≠ [])) := by
  intro f
  induction f with
  | zero => intro to args l h; exact Got.ok ⟨[], [], by simp, rfl, vals_nil, labs_nil, rfl, fun e => absurd (h e) (by omega)⟩
  | succ f ih =>
    intro to args l h
    simp only [phiW]
    refine Got.ite (fun _ => (label_got R).then fun b k hk q => (value_got R).then fun v j hj q2 => (ih (to ++ [b]) (args ++ [v]) q2 (by simp)).mono ?_) fun hc => Got.ok ⟨[], [], by simp, rfl, vals_nil, labs_nil, rfl, fun e => absurd (.inl e) hc⟩
    rintro w i ⟨t, a, rfl, h1, h2, h3, rfl, _⟩
    exact ⟨b :: t, v :: a, by simp, by simp [h1], vals_snoc ⟨hj.1, hj.2.1⟩ h2, labs_snoc ⟨hk.1, hk.2.1⟩ h3, by simp [hk.2.2, hj.2.2]; omega, by simp⟩
def FineO (dig : Int -> List UInt8) (nam : List UInt8 -> Bool) (shp : List UInt8 -> Int) (tks : Int -> Nat) (op : Int) (y : Opd) (k : Nat) : Prop :=
  Vals y.2.1 /\ Labs y.2.2.1 /\ Fits nam shp tks op y.1 y.2.1 y.2.2.1 y.2.2.2 /\ ∀ id ty pl, (opdS dig (op, id, y.1, ty, y.2.1, y.2.2.1, y.2.2.2, pl)).length + y.2.1.length + y.2.2.1.length <= k
theorem pairs_len (t a : List Int) (h : a.length = t.length) : ((t.zip a).flatMap fun q => [98 :: dig q.1, 37 :: dig q.2]).length = 2 * t.length := by
  induction t generalizing a with
  | nil => simp
  | cons b t ih =>
    cases a with
    | nil => simp at h
    | cons v a =>
      have := ih a (by simpa using h)
      simp only [List.zip_cons_cons, List.flatMap_cons, List.length_append, List.length_cons, List.length_nil] at this ⊢
      omega
theorem val1 {a : Int} (h : 0 <= a /\ a <= 1048576) : Vals [a] := vals_snoc h vals_nil
theorem lab1 {a : Int} (h : 0 <= a /\ a <= 255) : Labs [a] := labs_snoc h labs_nil
theorem operands_got (R : Reads num idx nam shp fnd good) {op : Int} (hop : op ≠ 0) : Got l (operands num idx nam shp tks E op l) (FineO dig nam shp tks op) := by
  unfold operands
  refine Got.ite (fun h => (anyNum_got R).then fun n k hk q => Got.done ?_) fun n1 => ?_
  · subst h; exact ⟨vals_nil, labs_nil, by simp [Fits]; omega, fun _ _ _ => by simp [opdS]; omega⟩
  refine Got.ite (fun h => (number_got R).then fun n k hk q => Got.done ?_) fun n2 => ?_
  · subst h; exact ⟨vals_nil, labs_nil, by simp [Fits]; omega, fun _ _ _ => by simp [opdS]; omega⟩
  refine Got.ite (fun h => (shaped_got R).then fun n k hk q => Got.done ?_) fun n3 => ?_
  · subst h; exact ⟨vals_nil, labs_nil, by simp [Fits]; exact hk.1, fun _ _ _ => by simp [opdS]; omega⟩
  refine Got.ite (fun h => (phiW_got R _ [] [] l (fun _ => by omega)).then fun x k hk q => Got.done ?_) fun n4 => ?_
  · subst h
    obtain ⟨t, a, rfl, h1, h2, h3, rfl, h4⟩ := hk
    refine ⟨by simpa using h2, by simpa using h3, ?_, fun _ _ _ => ?_⟩
    · simp only [Fits, List.nil_append]
      simpa using ⟨h1, h4 rfl⟩
    · have := pairs_len (dig := dig) t a h1
      simp only [opdS]
      simp at this ⊢
      omega
  refine Got.ite (fun h => Got.then (P := fun n k => 0 <= n /\ n <= 1048576 /\ (k = 2 \/ (k = 0 /\ n = 0))) ?_ fun n k hk q => (name_got R).then fun s j hj q2 => (valuesW_got R _ [] q2).then fun a i hi q3 => Got.done ?_) fun n5 => ?_
  · unfold spot
    refine Got.ite (fun _ => (index_got R).mono fun n k hk => ⟨hk.1, hk.2.1, .inl hk.2.2⟩) fun _ => Got.ok ⟨by omega, by omega, .inr ⟨rfl, rfl⟩⟩
  · subst h
    obtain ⟨u, rfl, hu, rfl⟩ := hi
    refine ⟨by simpa using hu, labs_nil, ?_, fun _ _ _ => ?_⟩
    · simp [Fits]
      exact ⟨hk.1, hk.2.1, hj.1⟩
    · simp only [opdS]
      rw [hj.2]
      by_cases h0 : n = 0
      · subst h0; simp; omega
      · simp [h0]
        have : k = 2 := by omega
        omega
  refine Got.ite (fun h => ?_) fun n6 => ?_
  · subst h
    unfold ret1
    refine Got.ite (fun _ => (value_got R).then fun v k hk q => Got.done ?_) fun _ => Got.ok ?_
    · exact ⟨val1 ⟨hk.1, hk.2.1⟩, labs_nil, by simp [Fits], fun _ _ _ => by simp [opdS]; omega⟩
    · exact ⟨vals_nil, labs_nil, by simp [Fits], fun _ _ _ => by simp [opdS]⟩
  refine Got.ite (fun h => (value_got R).then fun v k hk q => (number_got R).then fun x j hj q2 => Got.done ?_) fun n7 => ?_
  · refine ⟨val1 ⟨hk.1, hk.2.1⟩, labs_nil, ?_, fun _ _ _ => ?_⟩
    · rcases h with rfl | rfl | rfl <;> simp [Fits] <;> omega
    · rcases h with rfl | rfl | rfl <;> simp [opdS] <;> omega
  refine Got.ite (fun h => (value_got R).then fun v k hk q => (number_got R).then fun x j hj q2 => (value_got R).then fun u i hi q3 => Got.done ?_) fun n8 => ?_
  · refine ⟨vals_snoc ⟨hk.1, hk.2.1⟩ (val1 ⟨hi.1, hi.2.1⟩), labs_nil, ?_, fun _ _ _ => ?_⟩
    · rcases h with rfl | rfl <;> simp [Fits] <;> omega
    · rcases h with rfl | rfl <;> simp [opdS] <;> omega
  refine Got.ite (fun h => (number_got R).then fun n k hk q => Got.done ?_) fun n9 => ?_
  · subst h; exact ⟨vals_nil, labs_nil, by simp [Fits]; omega, fun _ _ _ => by simp [opdS]; omega⟩
  refine Got.ite (fun h => (value_got R).then fun v k hk q => (number_got R).then fun x j hj q2 => Got.done ?_) fun n10 => ?_
  · subst h; exact ⟨val1 ⟨hk.1, hk.2.1⟩, labs_nil, by simp [Fits]; omega, fun _ _ _ => by simp [opdS]; omega⟩
  refine Got.ite (fun h => (label_got R).then fun v k hk q => Got.done ?_) fun n11 => ?_
  · subst h; exact ⟨vals_nil, lab1 ⟨hk.1, hk.2.1⟩, by simp [Fits], fun _ _ _ => by simp [opdS]; omega⟩
  refine Got.ite (fun h => (value_got R).then fun v k hk q => (label_got R).then fun b j hj q2 => (label_got R).then fun c i hi q3 => Got.done ?_) fun n12 => ?_
  · subst h; exact ⟨val1 ⟨hk.1, hk.2.1⟩, labs_snoc ⟨hj.1, hj.2.1⟩ (lab1 ⟨hi.1, hi.2.1⟩), by simp [Fits], fun _ _ _ => by simp [opdS]; omega⟩
  refine (valuesN_got R _ [] l).then fun a k hk q => Got.done ?_
  obtain ⟨u, rfl, hu, rfl, hf⟩ := hk
  refine ⟨by simpa using hu, labs_nil, ?_, fun _ _ _ => ?_⟩
  · unfold Fits
    simp only [n1, n2, n3, n4, n5, n6, n7, n8, n9, n10, n11, n12, if_false]
    simpa using hf
  · unfold opdS
    dsimp only
    rw [if_neg (by omega), if_neg (by omega), if_neg (by omega), if_neg (by omega), if_neg (by omega)]
    simp
    omega
def wI (dig : Int -> List UInt8) (iw : Int -> Int -> List UInt8) (mks : Int -> Int -> Int) (x : Ins) : Nat := (insS dig iw mks x).length + x.2.2.2.2.1.length + x.2.2.2.2.2.1.length
def wB (dig : Int -> List UInt8) (iw : Int -> Int -> List UInt8) (mks : Int -> Int -> Int) (b : List Ins) : Nat := (b.map (wI dig iw mks)).sum + 2
def wF (dig : Int -> List UInt8) (iw : Int -> Int -> List UInt8) (mks : Int -> Int -> Int) (f : Fun) : Nat := f.2.1.length + (f.2.2.2.1.map (wB dig iw mks)).sum + 7
theorem instr_got (R : Reads num idx nam shp fnd good) {a : Int} : Got l (instrA num idx nam shp tks fnd mks E a l) (fun x k => MayI nam shp tks good mks x /\ wI dig iw mks x <= k) := by
  unfold instrA start
  refine Got.then (P := fun (x : Int × Int × Int) k => good x.2.1 x.2.2 = true /\ x.2.1 ≠ 0 /\ ((mks x.2.1 x.2.2 = 0 /\ x.1 = -1 /\ k = 1) \/ (mks x.2.1 x.2.2 ≠ 0 /\ 0 <= x.1 /\ x.1 <= 1048576 /\ k = 4))) ?_ fun x k hk q => (operands_got (dig := dig) R hk.2.1).then fun y j hj q2 => Got.done ?_
  · refine Got.then (P := fun i k => (i = -1 /\ k = 0) \/ (0 <= i /\ i <= 1048576 /\ k = 3)) ?_ fun i k hi q => Got.then (P := fun o j => good o.1 o.2 = true /\ o.1 ≠ 0 /\ decide (mks o.1 o.2 ≠ 0) = decide (0 <= i) /\ j = 1) ?_ fun o j ho q2 => Got.done ?_
    · unfold ident
      exact Got.ite (fun _ => (value_got R).then fun v k hk q => (want_got (by simp)).then fun _ j hj q2 => Got.done (.inr ⟨hk.1, hk.2.1, by omega⟩)) fun _ => Got.ok (.inl ⟨rfl, rfl⟩)
    · refine Got.one (by simp [R.fnd_nil]) fun s v h => ?_
      by_cases e : (fnd s).1 = 0 \/ decide (mks (fnd s).1 (fnd s).2 ≠ 0) ≠ decide (0 <= i)
      · rw [if_pos e] at h; cases h
      · rw [if_neg e] at h; cases h
        have e1 : (fnd s).1 ≠ 0 := fun h => e (.inl h)
        exact ⟨R.fnd_in s e1, e1, Decidable.not_not.1 fun h => e (.inr h), rfl⟩
    · obtain ⟨o1, o2, o3, o4⟩ := ho
      refine ⟨o1, o2, ?_⟩
      dsimp only
      by_cases hm : mks o.1 o.2 = 0
      · have : ¬ 0 <= i := by simpa [hm] using o3
        exact .inl ⟨hm, by omega, by omega⟩
      · have : 0 <= i := by simpa [hm] using o3
        exact .inr ⟨hm, by omega, by omega, by omega⟩
  · obtain ⟨k1, _, k3⟩ := hk
    obtain ⟨j1, j2, j3, j4⟩ := hj
    obtain ⟨i, op, ty⟩ := x
    dsimp only at k1 k3 j1 j2 j3 j4 ⊢
    have hl := j4 i ty a
    rcases k3 with ⟨m0, rfl, rfl⟩ | ⟨m0, i0, i1, rfl⟩
    · refine ⟨⟨k1, fun _ => rfl, fun h => absurd m0 h, j1, j2, j3⟩, ?_⟩
      unfold wI insS
      simp only [m0, ne_eq, not_true_eq_false, if_false, List.nil_append, List.length_append, List.length_cons, List.length_nil]
      omega
    · refine ⟨⟨k1, fun h => absurd h m0, fun _ => ⟨i0, i1⟩, j1, j2, j3⟩, ?_⟩
      unfold wI insS
      simp only [m0, ne_eq, not_false_eq_true, if_true, List.length_append, List.length_cons, List.length_nil]
      omega
theorem insW_got (R : Reads num idx nam shp fnd good) : ∀ f n acc l, Got l (insW num idx nam shp tks fnd mks E f n acc l) (fun v k => ∃ b, v.1 = acc ++ b /\ (∀ x ∈ b, MayI nam shp tks good mks x) /\ (b.map (wI dig iw mks)).sum <= k) := by
  intro f
  induction f with
  | zero => intro n acc l; exact Got.ok ⟨[], by simp, fun _ h => (by cases h), by simp⟩
  | succ f ih =>
    intro n acc l
    simp only [insW]
    refine Got.ite (fun _ => Got.ok ⟨[], by simp, fun _ h => (by cases h), by simp⟩) fun _ => Got.ite (fun _ => Got.bad) fun _ => ?_
    refine (instr_got (dig := dig) (iw := iw) R).then fun x k hk q => (ih (n + 1) (acc ++ [x]) q).mono ?_
    rintro v j ⟨b, hb, hm, hl⟩
    refine ⟨x :: b, by rw [hb]; simp, fun y hy => ?_, ?_⟩
    · rcases List.mem_cons.1 hy with rfl | hy
      · exact hk.1
      · exact hm y hy
    · rw [List.map_cons, List.sum_cons]; have := hk.2; omega
theorem blkW_got (R : Reads num idx nam shp fnd good) : ∀ f n acc l, acc.length <= 256 -> Got l (blkW num idx nam shp tks fnd mks prt E f n acc l) (fun v k => ∃ bl, v.1 = acc ++ bl /\ v.1.length <= 256 /\ (∀ b ∈ bl, ∀ x ∈ b, MayI nam shp tks good mks x) /\ (bl.map (wB dig iw mks)).sum <= k) := by
  intro f
  induction f with
  | zero => intro n acc l h; exact Got.ok ⟨[], by simp, h, fun _ h => (by cases h), by simp⟩
  | succ f ih =>
    intro n acc l h256
    simp only [blkW]
    refine Got.ite (fun _ => Got.ok ⟨[], by simp, h256, fun _ h => (by cases h), by simp⟩) fun _ => ?_
    refine Got.then (P := fun (v : List Ins × Nat) k => acc.length < 256 /\ (∀ x ∈ v.1, MayI nam shp tks good mks x) /\ wB dig iw mks v.1 <= k) ?_ fun x k hk q => ?_
    · unfold block body
      refine Got.then (P := fun _ k => acc.length < 256 /\ k = 1) (Got.one (by simp) fun s v h => ?_) fun _ k hk q => (want_got (by simp)).then fun _ j hj q2 => (insW_got (dig := dig) (iw := iw) R _ n [] q2).mono ?_
      · by_cases e : 256 <= acc.length
        · rw [if_pos (.inl e)] at h; cases h
        · exact ⟨by omega, rfl⟩
      · rintro v i ⟨b, hb, hm, hl⟩
        rw [List.nil_append] at hb
        rw [hb]
        refine ⟨hk.1, hm, ?_⟩
        unfold wB
        omega
    · refine (ih x.2 (acc ++ [x.1]) q (by simp; omega)).mono ?_
      rintro v j ⟨bl, hb, hv, hm, hl⟩
      refine ⟨x.1 :: bl, by rw [hb]; simp, hv, fun y hy => ?_, ?_⟩
      · rcases List.mem_cons.1 hy with rfl | hy
        · exact hk.2.1
        · exact hm y hy
      · rw [List.map_cons, List.sum_cons]
        have := hk.2.2
        omega
theorem kind_in (s : List UInt8) : -1 <= kind s /\ kind s <= 2 := by
  unfold kind
  split
  · omega
  · split
    · omega
    · split <;> omega
theorem parW_got : ∀ f acc l, acc.length <= 8 -> Got l (parW E f acc l) (fun v k => ∃ u, v = acc ++ u /\ v.length <= 8 /\ (∀ t ∈ u, 1 <= t /\ t <= 2) /\ k = u.length) := by
  intro f
  induction f with
  | zero => intro acc l h; exact Got.ok ⟨[], by simp, h, fun _ h => (by cases h), rfl⟩
  | succ f ih =>
    intro acc l h8
    simp only [parW]
    refine Got.ite (fun _ => Got.ok ⟨[], by simp, h8, fun _ h => (by cases h), rfl⟩) fun _ => ?_
    refine Got.then (P := fun t k => acc.length < 8 /\ 1 <= t /\ t <= 2 /\ k = 1) (Got.one (by simp [kind]) fun s v h => ?_) fun t k hk q => (ih (acc ++ [t]) q (by simp; omega)).mono ?_
    · by_cases e : kind s < 1 \/ 8 <= acc.length
      · rw [if_pos e] at h; cases h
      · rw [if_neg e] at h; cases h
        have := kind_in s
        refine ⟨?_, ?_, ?_, rfl⟩ <;> omega
    · rintro v j ⟨u, hu, h1, h2, rfl⟩
      refine ⟨t :: u, by rw [hu]; simp, h1, fun y hy => ?_, by simp [hk.2.2.2]; omega⟩
      rcases List.mem_cons.1 hy with rfl | hy
      · exact ⟨hk.2.1, hk.2.2.1⟩
      · exact h2 y hy
theorem function_got (R : Reads num idx nam shp fnd good) {n : Nat} : Got l (function num idx nam shp tks fnd mks prt E n l) (fun v k => MayF nam shp tks good mks v.1 /\ wF dig iw mks v.1 <= k) := by
  unfold function params blocks
  refine (want_got (by simp)).then fun _ k1 h1 q1 => (name_got R).then fun s k2 h2 q2 => (want_got (by simp)).then fun _ k3 h3 q3 => (parW_got _ [] q3 (by simp)).then fun ps k4 h4 q4 => (want_got (by simp)).then fun _ k5 h5 q5 => ?_
  refine Got.then (P := fun t k => 0 <= t /\ t <= 2 /\ k = 1) (Got.one (by simp [kind]) fun s v h => ?_) fun t k6 h6 q6 => (want_got (by simp)).then fun _ k7 h7 q7 => (blkW_got (dig := dig) (iw := iw) R _ n [] q7 (by simp)).then fun bl k8 h8 q8 => (want_got (by simp)).then fun _ k9 h9 q9 => Got.done ?_
  · by_cases e : kind s < 0
    · rw [if_pos e] at h; cases h
    · rw [if_neg e] at h; cases h
      have := kind_in s
      exact ⟨by omega, by omega, rfl⟩
  · obtain ⟨u, rfl, m1, m2, rfl⟩ := h4
    obtain ⟨b, hb, m3, m4, m5⟩ := h8
    rw [List.nil_append] at hb
    refine ⟨⟨h2.1, m1, m2, h6.1, h6.2.1, m3, by rw [hb]; exact m4⟩, ?_⟩
    unfold wF
    simp only [hb] at m5 ⊢
    omega
theorem funW_got (R : Reads num idx nam shp fnd good) : ∀ f n acc l, Got l (funW num idx nam shp tks fnd mks prt E f n acc l) (fun v k => ∃ p, v.1 = acc ++ p /\ (∀ x ∈ p, MayF nam shp tks good mks x) /\ (p.map (wF dig iw mks)).sum <= k) := by
  intro f
  induction f with
  | zero => intro n acc l; exact Got.ok ⟨[], by simp, fun _ h => (by cases h), by simp⟩
  | succ f ih =>
    intro n acc l
    simp only [funW]
    refine Got.ite (fun _ => Got.ok ⟨[], by simp, fun _ h => (by cases h), by simp⟩) fun _ => Got.ite (fun _ => Got.bad) fun _ => ?_
    refine (function_got (dig := dig) (iw := iw) R).then fun x k hk q => (ih x.2 (acc ++ [x.1]) q).mono ?_
    rintro v j ⟨p, hb, hm, hl⟩
    refine ⟨x.1 :: p, by rw [hb]; simp, fun y hy => ?_, ?_⟩
    · rcases List.mem_cons.1 hy with rfl | hy
      · exact hk.1
      · exact hm y hy
    · rw [List.map_cons, List.sum_cons]; have := hk.2; omega
theorem program_got (R : Reads num idx nam shp fnd good) {v : List Fun × Nat} {r : List Tok} (h : program num idx nam shp tks fnd mks prt E l = .ok (v, r)) : (∀ x ∈ v.1, MayF nam shp tks good mks x) /\ (v.1.map (wF dig iw mks)).sum <= ms l := by
  obtain ⟨k, ⟨p, hp, h1, h2⟩, h3⟩ := funW_got (dig := dig) (iw := iw) R _ 0 [] l v r h
  rw [List.nil_append] at hp
  rw [hp]
  exact ⟨h1, by omega⟩
end
end Go.Proofs.YtahhbckccdigoaaGreatDoor.G
namespace Go.Proofs.YtahhbckccdigoaaGreatDoor.L2
open Go.RowKit
def Wd (t : List UInt8) (us : List (List UInt8)) : Prop := ∀ (pre m : List UInt8) (acc : List (Nat × Nat)), ∃ qs, scan (t ++ m) pre.length acc none false = scan m (pre ++ t).length (acc ++ qs) none false /\ ∀ m', qs.map (cut (pre ++ t ++ m')) = us
theorem Wd.nil : Wd [] [] := fun pre m acc => ⟨[], by simp, fun _ => rfl⟩
theorem Wd.app {t t' : List UInt8} {us us' : List (List UInt8)} (h : Wd t us) (h' : Wd t' us') : Wd (t ++ t') (us ++ us') := by
  intro pre m acc
  obtain ⟨qs, e, c⟩ := h pre (t' ++ m) acc
  obtain ⟨qs', e', c'⟩ := h' (pre ++ t) m (acc ++ qs)
  refine ⟨qs ++ qs', ?_, fun m' => ?_⟩
  · rw [List.append_assoc, e, e']; simp
  · rw [List.map_append]
    have h1 := c (t' ++ m')
    have h2 := c' m'
    simp only [List.append_assoc] at h1 h2 ⊢
    rw [h1, h2]
def Bla (c : UInt8) : Prop := togB c.toNat = false /\ aloB c.toNat = false /\ ¬ (c.toNat : Int) = 35 /\ blaB c.toNat = true
def Alo (c : UInt8) : Prop := togB c.toNat = false /\ aloB c.toNat = true
theorem Wd.bla {c : UInt8} (h : Bla c) : Wd [c] [] := by
  intro pre m acc
  refine ⟨[], ?_, fun _ => rfl⟩
  show scan (c :: m) _ _ _ _ = _
  rw [scan_bla m _ acc none h.1 h.2.1 h.2.2.1 h.2.2.2]
  simp [shutW]
theorem cut_mid (pre u r : List UInt8) : cut (pre ++ u ++ r) (pre.length, pre.length + u.length) = u := by
  unfold cut
  rw [List.append_assoc, List.drop_left, Nat.add_sub_cancel_left, List.take_left]
theorem Wd.alo {c : UInt8} (h : Alo c) : Wd [c] [[c]] := by
  intro pre m acc
  refine ⟨[(pre.length, pre.length + 1)], ?_, fun m' => ?_⟩
  · show scan (c :: m) _ _ _ _ = _
    rw [scan_alo m _ acc none h.1 h.2]
    simp [shutW]
  · have := cut_mid pre [c] m'
    simp only [List.map_cons, List.map_nil]
    rw [show pre.length + 1 = pre.length + [c].length from rfl, this]
theorem scan_run (m : List UInt8) : ∀ (u : List UInt8) (p q : Nat) (acc : List (Nat × Nat)), (∀ c ∈ u, togB (UInt8.toNat c) = true) -> scan (u ++ m) p acc (some q) false = scan m (p + u.length) acc (some q) false := by
  intro u
  induction u with
  | nil => intro p q acc _; rfl
  | cons c u ih =>
    intro p q acc h
    rw [List.cons_append, scan_tog _ _ _ _ (h c (by simp))]
    show scan (u ++ m) (p + 1) acc (some q) false = _
    rw [ih (p + 1) q acc (fun x hx => h x (by simp [hx])), List.length_cons, show p + 1 + u.length = p + (u.length + 1) by omega]
theorem scan_word (m u : List UInt8) (p : Nat) (acc : List (Nat × Nat)) (hu : u ≠ []) (h : ∀ c ∈ u, togB (UInt8.toNat c) = true) : scan (u ++ m) p acc none false = scan m (p + u.length) acc (some p) false := by
  cases u with
  | nil => exact absurd rfl hu
  | cons c u =>
    rw [List.cons_append, scan_tog _ _ _ _ (h c (by simp))]
    show scan (u ++ m) (p + 1) acc (some p) false = _
    rw [scan_run m u (p + 1) p acc (fun x hx => h x (by simp [hx])), List.length_cons, show p + 1 + u.length = p + (u.length + 1) by omega]
def Sep (c : UInt8) (e : List (List UInt8)) : Prop := (Bla c /\ e = []) \/ (Alo c /\ e = [[c]])
theorem Sep.wd {c : UInt8} {e : List (List UInt8)} (h : Sep c e) : Wd [c] e := by
  rcases h with ⟨h, rfl⟩ | ⟨h, rfl⟩
  · exact Wd.bla h
  · exact Wd.alo h
theorem Wd.word {u : List UInt8} {c : UInt8} {e : List (List UInt8)} (hu : wordOk u) (h : Sep c e) : Wd (u ++ [c]) (u :: e) := by
  rcases hu with ⟨a, rfl, h1, h2⟩ | ⟨hu, ht⟩
  · exact (Wd.alo ⟨h1, h2⟩).app h.wd
  · intro pre m acc
    have e1 : u ++ [c] ++ m = u ++ (c :: m) := by simp
    have ec := fun m' => cut_mid pre u (c :: m')
    rcases h with ⟨h, rfl⟩ | ⟨h, rfl⟩
    · refine ⟨[(pre.length, pre.length + u.length)], ?_, fun m' => ?_⟩
      · rw [e1, scan_word _ _ _ _ hu ht, scan_bla m _ acc _ h.1 h.2.1 h.2.2.1 h.2.2.2]
        simp [shutW, Nat.add_assoc]
      · have := ec m'
        simp only [List.append_assoc] at this
        simp [this]
    · refine ⟨[(pre.length, pre.length + u.length), (pre.length + u.length, pre.length + u.length + 1)], ?_, fun m' => ?_⟩
      · rw [e1, scan_word _ _ _ _ hu ht, scan_alo m _ acc _ h.1 h.2]
        simp [shutW, Nat.add_assoc]
      · have h1 := ec m'
        have h2 := cut_mid (pre ++ u) [c] m'
        simp only [List.append_assoc, List.cons_append, List.nil_append, List.length_append, List.length_cons, List.length_nil, Nat.zero_add] at h1 h2
        simp [h1, h2]
theorem jn_two (x y : List UInt8) (r : List (List UInt8)) : jn [32] (x :: y :: r) = x ++ [32] ++ jn [32] (y :: r) := by simp [jn]
theorem bla32 : Bla 32 := by refine ⟨by decide, by decide, by decide, by decide⟩
theorem bla10 : Bla 10 := by refine ⟨by decide, by decide, by decide, by decide⟩
theorem Wd.join {c : UInt8} {e : List (List UInt8)} (h : Sep c e) : ∀ l : List (List UInt8), (∀ u ∈ l, wordOk u) -> Wd (jn [32] l ++ [c]) (l ++ e)
  | [], _ => h.wd
  | [x], hl => by simpa [jn] using Wd.word (hl x (by simp)) h
  | x :: y :: r, hl => by
    have h1 := Wd.word (hl x (by simp)) (.inl ⟨bla32, rfl⟩)
    have h2 := Wd.join h (y :: r) (fun u hu => hl u (by simp [hu]))
    rw [jn_two, List.append_assoc]
    exact h1.app h2
theorem Wd.words {t : List UInt8} {us : List (List UInt8)} (h : Wd t us) {s : ByteArray} (hs : s.data.toList = t) : ∃ ws, words s = .inr ws /\ ws.map (cut s.data.toList) = us := by
  obtain ⟨qs, e, c⟩ := h [] [] []
  refine ⟨qs, ?_, ?_⟩
  · unfold L2.words
    rw [hs]
    simp only [List.append_nil, List.nil_append, List.length_nil] at e
    rw [e]; rfl
  · have := c []
    simp only [List.append_nil, List.nil_append] at this
    rw [hs]; exact this
end Go.Proofs.YtahhbckccdigoaaGreatDoor.L2
namespace Go.Proofs.YtahhbckccdigoaaGreatDoor
open Go Go.RowKit
open G (Tok Er Ins Fun peek0 peek1 atOf)
theorem dig_chars (n : Int) : dig n ≠ [] /\ ∀ c ∈ dig n, c = 45 \/ L1.isDig c = true := by
  unfold dig Lib.itoa
  split
  · refine ⟨by simp, fun c hc => ?_⟩
    rcases List.mem_cons.1 hc with rfl | hc
    · exact .inl rfl
    · exact .inr (List.all_eq_true.1 (L1.dec_all _) c hc)
  · exact ⟨L1.dec_ne_nil _, fun c hc => .inr (List.all_eq_true.1 (L1.dec_all _) c hc)⟩
theorem isDig_tog {c : UInt8} (h : L1.isDig c = true) : L2.togB c.toNat = true := by
  have := (L1.isDig_iff c).1 h
  simp only [L2.togB, L2.digB, Bool.or_eq_true, Bool.and_eq_true, decide_eq_true_eq]
  omega
theorem dig_tog (n : Int) : ∀ c ∈ dig n, L2.togB (UInt8.toNat c) = true := fun c hc => by
  rcases (dig_chars n).2 c hc with rfl | h
  · decide
  · exact isDig_tog h
theorem dig_ne (n : Int) : dig n ≠ [] /\ dig n ≠ [114] := by
  refine ⟨(dig_chars n).1, fun e => ?_⟩
  rcases (dig_chars n).2 114 (by rw [e]; simp) with h | h
  · exact absurd h (by decide)
  · exact absurd h (by decide)
theorem num_dig (n : Int) (h0 : -9223372036854775808 <= n) (h1 : n <= 9223372036854775807) : numF (dig n) = (n, 0) := L1.read_itoa n h0 h1
theorem idx_dig (n most : Int) (h0 : 0 <= n) (h1 : n <= most) (h2 : most <= 1048576) : idxF (dig n) most = some n := by
  have e := num_dig n (by omega) (by omega)
  unfold numF at e
  unfold idxF
  rw [L1.indexNum_in (dig n) most (by rw [e]) (by rw [e]; show ¬ (n < 0 \/ most < n); omega), e]; rfl
theorem idx_in (s : List UInt8) (most n : Int) (h : idxF s most = some n) : 0 <= n /\ n <= most := by
  refine ⟨?_, idx_le s most n h⟩
  unfold idxF at h
  by_cases h1 : (L1.readNum s).2 = 0
  · by_cases h2 : (L1.readNum s).1 < 0 \/ most < (L1.readNum s).1
    · rw [L1.indexNum_out s most h1 h2, if_neg (by simp)] at h
      cases h
    · rw [L1.indexNum_in s most h1 h2, if_pos rfl] at h
      cases h
      show 0 <= (L1.readNum s).1
      omega
  · rw [L1.indexNum_bad s most h1, if_neg h1] at h
    cases h
def goodF (op t : Int) : Bool := decide (1 <= op) && decide (op <= 29) && L5.may op t
def iwF (op t : Int) : List UInt8 := (L5.iword op t).data.toList
theorem may_in {op t : Int} (h : L5.may op t = true) : 0 <= t /\ t <= 3 := by
  unfold L5.may at h
  split at h
  · simp only [decide_eq_true_eq] at h; omega
  · split at h
    · simp only [decide_eq_true_eq] at h; omega
    · split at h
      · simp only [decide_eq_true_eq] at h; omega
      · simp only [decide_eq_true_eq] at h; omega
theorem good_pair {op t : Int} (h : goodF op t = true) : ∃ k, k < 116 /\ op = ((k / 4 + 1 : Nat) : Int) /\ t = ((k % 4 : Nat) : Int) /\ L5.may ((k / 4 + 1 : Nat) : Int) ((k % 4 : Nat) : Int) = true := by
  simp only [goodF, Bool.and_eq_true, decide_eq_true_eq] at h
  obtain ⟨⟨h1, h2⟩, h3⟩ := h
  have h4 := may_in h3
  have e1 : op = (((((op - 1) * 4 + t).toNat) / 4 + 1 : Nat) : Int) := by omega
  have e2 : t = (((((op - 1) * 4 + t).toNat) % 4 : Nat) : Int) := by omega
  exact ⟨((op - 1) * 4 + t).toNat, by omega, e1, e2, by rw [<- e1, <- e2]; exact h3⟩
theorem iw_all : ∀ k, k < 116 -> L5.may ((k / 4 + 1 : Nat) : Int) ((k % 4 : Nat) : Int) = true ->
    L5.find (L5.iword ((k / 4 + 1 : Nat) : Int) ((k % 4 : Nat) : Int)) = (((k / 4 + 1 : Nat) : Int), ((k % 4 : Nat) : Int)) /\
    (iwF ((k / 4 + 1 : Nat) : Int) ((k % 4 : Nat) : Int)).head? ≠ some 37 /\ iwF ((k / 4 + 1 : Nat) : Int) ((k % 4 : Nat) : Int) ≠ [] /\
    ((iwF ((k / 4 + 1 : Nat) : Int) ((k % 4 : Nat) : Int)).head? = some 98 -> iwF ((k / 4 + 1 : Nat) : Int) ((k % 4 : Nat) : Int) = [98, 114]) /\
    (iwF ((k / 4 + 1 : Nat) : Int) ((k % 4 : Nat) : Int)).all (fun c => L2.togB c.toNat) = true := by decide +kernel
theorem iw_tog {op t : Int} (h : goodF op t = true) : iwF op t ≠ [] /\ ∀ c ∈ iwF op t, L2.togB (UInt8.toNat c) = true := by
  obtain ⟨k, hk, rfl, rfl, hm⟩ := good_pair h
  obtain ⟨_, _, h3, _, h5⟩ := iw_all k hk hm
  exact ⟨h3, List.all_eq_true.1 h5⟩
theorem tog_not {c : UInt8} {s : List UInt8} (h : ∀ c ∈ s, L2.togB (UInt8.toNat c) = true) (hc : L2.togB c.toNat = false) : s ≠ [c] := fun e => by
  have := h c (by rw [e]; simp)
  rw [hc] at this; cases this
theorem nameFrom_tog : ∀ (l : List UInt8) (p : Nat), L2.nameFrom l p = true -> ∀ c ∈ l, L2.togB (UInt8.toNat c) = true := by
  intro l
  induction l with
  | nil => intro p _ c hc; cases hc
  | cons a l ih =>
    intro p h c hc
    rw [L2.nameFrom, Bool.and_eq_true] at h
    rcases List.mem_cons.1 hc with rfl | hc
    · have h1 := h.1
      simp only [Bool.or_eq_true, Bool.and_eq_true, decide_eq_true_eq] at h1
      simp only [L2.togB, Bool.or_eq_true, decide_eq_true_eq]
      rcases h1 with h1 | ⟨_, h1 | h1⟩
      · exact .inl (.inl (.inr h1))
      · exact .inr h1
      · exact .inl (.inl (.inl (.inr h1)))
    · exact ih (p + 1) h.2 c hc
theorem nam_parts {s : List UInt8} (h : namF s = true) : s ≠ [] /\ s.length <= 24 /\ (∀ c ∈ s, L2.togB (UInt8.toNat c) = true) /\ s.head? ≠ some 64 := by
  simp only [namF, L2.nameB, Bool.and_eq_true, decide_eq_true_eq, Bool.not_eq_true'] at h
  obtain ⟨⟨h1, h2⟩, h3⟩ := h
  refine ⟨fun e => ?_, h1, nameFrom_tog s 0 h2, ?_⟩
  · subst e; cases h3
  · cases s with
    | nil => simp
    | cons c l =>
      rw [L2.nameFrom, Bool.and_eq_true] at h2
      intro e
      have : c = 64 := by simpa using e
      subst this
      exact absurd h2.1 (by decide)
theorem shp_parts {s : List UInt8} (h : shpF s = 0) : s ≠ [] /\ s.length <= 24 /\ ∀ c ∈ s, L2.togB (UInt8.toNat c) = true := by
  by_cases h46 : s = [46]
  · subst h46
    exact ⟨by simp, by simp, fun c hc => by simp at hc; subst hc; decide⟩
  · unfold shpF L3.readS at h
    rw [bs_data, if_neg h46, bs_size] at h
    by_cases hz : s.length = 0 \/ 16 < s.length
    · rw [if_pos hz] at h; cases h
    · rw [if_neg hz] at h
      unfold L3.readL at h
      cases ha : L3.allL s with
      | false => rw [ha] at h; cases h
      | true =>
        refine ⟨fun e => ?_, by omega, fun c hc => ?_⟩
        · subst e; simp at hz
        · have := List.all_eq_true.1 ha c hc
          simp only [L3.isL, Bool.or_eq_true, beq_iff_eq] at this
          rcases this with rfl | rfl <;> decide
def letL' (t : Int) : List UInt8 := (L5.letter t).data.toList
theorem wordsF : G.Words numF idxF namF shpF fndF prtF dig iwF goodF letL' := ⟨
  (num_dig),
  (idx_dig),
  (dig_ne),
  (⟨by decide, by decide⟩),
  (⟨by decide, by decide, fun s h => (nam_parts h).2.2.2⟩),
  (⟨by decide, by decide⟩),
  (fun op t h => by
    obtain ⟨k, hk, rfl, rfl, hm⟩ := good_pair h
    unfold fndF iwF
    rw [bs_of]
    exact (iw_all k hk hm).1),
  (fun op t h => by
    simp only [goodF, Bool.and_eq_true, decide_eq_true_eq] at h
    omega),
  (fun op t h => by
    have h1 := (iw_tog h).2
    obtain ⟨k, hk, rfl, rfl, hm⟩ := good_pair h
    exact ⟨(iw_all k hk hm).2.1, tog_not h1 (by decide), tog_not h1 (by decide), tog_not h1 (by decide)⟩),
  (fun op t h => by
    obtain ⟨k, hk, rfl, rfl, hm⟩ := good_pair h
    exact (iw_all k hk hm).2.2.2.1),
  (fun k hk => by
    unfold prtF
    rw [decide_eq_true_eq]
    have h1 := idx_dig (k : Int) 255 (by omega) (by omega) (by omega)
    cases e : dig (k : Int) with
    | nil => exact absurd e (dig_ne _).1
    | cons y r =>
      show (if (98 : UInt8) = 98 then idxF (y :: r) 255 else none) = _
      rw [if_pos rfl, <- e]; exact h1),
  (fun t h0 h1 => by
    rcases (show t = 0 \/ t = 1 \/ t = 2 by omega) with rfl | rfl | rfl <;> decide)⟩
theorem findN_good (s : ByteArray) : ∀ n i, n + i = 116 -> (L5.findN s n i).1 ≠ 0 -> goodF (L5.findN s n i).1 (L5.findN s n i).2 = true := by
  intro n
  induction n with
  | zero => intro i _ h; exact absurd rfl h
  | succ n ih =>
    intro i hi h
    rw [L5.findN] at h ⊢
    by_cases hh : L5.hit s i = true
    · rw [if_pos hh]
      unfold L5.hit at hh
      rw [Bool.and_eq_true] at hh
      simp only [goodF, Bool.and_eq_true, decide_eq_true_eq]
      exact ⟨⟨by omega, by omega⟩, hh.1⟩
    · rw [if_neg hh] at h ⊢
      exact ih (i + 1) (by omega) h
theorem readsF : G.Reads numF idxF namF shpF fndF goodF := ⟨
  (fun s _ => L1.readNum_range s),
  (idx_in),
  (fun s h => findN_good (bs s) 116 0 rfl h),
  (num_nil),
  (nam_nil),
  (shp_nil),
  (fnd_nil)⟩
end Go.Proofs.YtahhbckccdigoaaGreatDoor
