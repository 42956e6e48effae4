/- What is thrown is met at the end of the call: read. -/
import Derived.Test.YtahhbckccdigoaaGreatDoorMbAC
import Derived.Test.YtahhbckccdigoaaGreatDoorMbAG
import Derived.Test.YtahhbckccdigoaaGreatDoorMbAT
import Derived.Defers
import Derived.Recover
set_option maxHeartbeats 8000000
set_option maxRecDepth 20000
namespace Go.Proofs.YtahhbckccdigoaaGreatDoor
open Go Go.RowKit
open G (Tok Er Ins Fun peek0 peek1 atOf)
theorem catch_idle (p q : Nat) (w : World) : CallsD Tryz.prog 84 #[.pointer (some ⟨p, 0, none⟩), .pointer (some ⟨q, 0, none⟩)] .returning w fun e u' w' => e = .returned (.tuple #[]) /\ u' = .returning /\ w' = w := by
  refine callsD_of_wpS Tryz.func84 rfl fun c₀ cs hu => ?_
  apply wpS_seq
  apply wpS_region
  simp [wpOpsS, go_sem, recoverD, hu, Tryz.ntmps84, Exit.thenS]
  change Code.wpS _ _ _ { tmps := #[.pointer (some ⟨p, 0, none⟩), .pointer (some ⟨q, 0, none⟩), .nilIface, .nilIface, undef, undef, undef, undef, undef], defers := [] } _ _
  refine wpS_of_wp ?_
  go_wp2_with fail
  cases c₀
  simp_all [bodyPostS, results, Tryz.results84]
theorem assert_err (x : Value) (w : World) : Sem.run Tryz.prog (Instr.typeAssert (.iface 28 x) 20 28 false) w = .ok x w := rfl
def Met (p q : Nat) (c d : Int) (w w' : World) : Prop := w'.os = w.os /\ w'.tape = w.tape /\ w'.output = w.output /\ w'.heap.size = w.heap.size /\ (∀ k, k ≠ p -> k ≠ q -> w'.heap[k]? = w.heap[k]?) /\ w'.cell? ⟨p, 0, none⟩ = some (.slice none 0 0) /\ w'.cell? ⟨q, 0, none⟩ = some (.int .i64 c) /\ w'.cell? ⟨q, 1, none⟩ = some (.int .i64 d)
theorem catch_panic (p q : Nat) (c d : Int) (w : World) (h0 : w.cell? ⟨p, 0, none⟩ = some (.slice none 0 0)) (f0 : w.frozen? ⟨p, 0, none⟩ = false) (h1 : Pair w q (.int .i64 0) (.int .i64 0)) (hpq : p ≠ q) : CallsD Tryz.prog 84 #[.pointer (some ⟨p, 0, none⟩), .pointer (some ⟨q, 0, none⟩)] (.panicking [{ v := .iface 28 (.agg #[.int .i64 c, .int .i64 d]), recovered := false }]) w fun e u' w' => e = .returned (.tuple #[]) /\ u' = .panicking [{ v := .iface 28 (.agg #[.int .i64 c, .int .i64 d]), recovered := true }] /\ Met p q c d w w' := by
  obtain ⟨p0, p1, p2, p3, p4⟩ := h1
  have hta := assert_err
  have hqp : q ≠ p := Ne.symm hpq
  refine callsD_of_wpS Tryz.func84 rfl fun c₀ cs hu => ?_
  apply wpS_seq
  apply wpS_region
  simp [wpOpsS, go_sem, recoverD, hu, Tryz.ntmps84, Exit.thenS]
  change Code.wpS _ _ _ { tmps := #[.pointer (some ⟨p, 0, none⟩), .pointer (some ⟨q, 0, none⟩), .iface 28 (.agg #[.int .i64 c, .int .i64 d]), .iface 28 (.agg #[.int .i64 c, .int .i64 d]), undef, undef, undef, undef, undef], defers := [] } _ _
  refine wpS_of_wp ?_
  go_wp2_with fail
  go_region
  change bodyPostS Tryz.prog Tryz.f84 c₀ cs _ Exit.normal _ _ _
  refine ⟨rfl, _, rfl, .tuple #[], results_none rfl _ _ _, rfl, rfl, ?_⟩
  refine ⟨rfl, rfl, rfl, by simp [World.setCell, World.drew], fun k h1 h2 => ?_, ?_, ?_, ?_⟩
  . show (((w.setCell ⟨p, 0, none⟩ (.slice none 0 0)).setCell ⟨q, 0, none⟩ (.int .i64 c)).setCell ⟨q, 1, none⟩ (.int .i64 d)).heap[k]? = _
    rw [Below.heap_setCell _ _ _ _ h2, Below.heap_setCell _ _ _ _ h2, Below.heap_setCell _ _ _ _ h1]
  . show (((w.setCell ⟨p, 0, none⟩ (.slice none 0 0)).setCell ⟨q, 0, none⟩ (.int .i64 c)).setCell ⟨q, 1, none⟩ (.int .i64 d)).cell? ⟨p, 0, none⟩ = _
    rw [World.cell?_setCell_other _ _ _ _ (fun e => hpq (congrArg Addr.block e).symm), World.cell?_setCell_other _ _ _ _ (fun e => hpq (congrArg Addr.block e).symm)]
    exact World.cell?_setCell_same _ _ _ h0
  . show (((w.setCell ⟨p, 0, none⟩ (.slice none 0 0)).setCell ⟨q, 0, none⟩ (.int .i64 c)).setCell ⟨q, 1, none⟩ (.int .i64 d)).cell? ⟨q, 0, none⟩ = _
    rw [World.cell?_setCell_other _ _ _ _ (by simp)]
    exact World.cell?_setCell_same _ _ _ ((World.cell?_setCell_other _ _ _ _ (fun e => hpq (congrArg Addr.block e))).trans p0)
  . show (((w.setCell ⟨p, 0, none⟩ (.slice none 0 0)).setCell ⟨q, 0, none⟩ (.int .i64 c)).setCell ⟨q, 1, none⟩ (.int .i64 d)).cell? ⟨q, 1, none⟩ = _
    exact World.cell?_setCell_same _ _ _ ((World.cell?_setCell_other _ _ _ _ (by simp)).trans ((World.cell?_setCell_other _ _ _ _ (fun e => hpq (congrArg Addr.block e))).trans p1))
def OutR (a : Nat) (r : Except Er ((List Fun × Nat) × List Tok)) (w : World) (e : Ending) (w' : World) : Prop :=
  Kp w.heap.size a w w' /\ ((∃ xs n l' v, r = .ok ((xs, n), l') /\ e = .returned (.tuple #[.agg #[v], .agg #[.int .i64 0, .int .i64 0]]) /\ ProgVal w.heap.size xs v w') \/ ∃ er : Er, r = .error er /\ e = .returned (.tuple #[.agg #[.slice none 0 0], .agg #[.int .i64 er.1, .int .i64 er.2]]))
theorem read_any {B a : Nat} {L : List Tok} {E : Int} {l : List Tok} (w : World) (h : Rdr B a L E 0 l w) (ht : Tabs w) (h2 : 2 <= a) :
    Calls Tryz.prog 55 #[.pointer (some ⟨a, 0, none⟩)] w (OutR a (progG E l) w) := by
  have hmf := mkF
  have hBw := h.size
  have hsm := h.suffix
  have b0 := below_step (below_box w (.cells #[.slice none 0 0] 24)) (below_box (w.alloc (.cells #[.slice none 0 0] 24)) (.cells #[.int .i64 0, .int .i64 0] 28))
  have H0 := hide (h.step b0)
  have T0 := hide (ht.below b0)
  have c0 : ((w.alloc (.cells #[.slice none 0 0] 24)).alloc (.cells #[.int .i64 0, .int .i64 0] 28)).heap[w.heap.size]? = some (.cells #[.slice none 0 0] 24 (0, 0)) := (heap_alloc_old _ _ (by simp)).trans (heap_alloc_new w _)
  have P0 : Hid (Pair ((w.alloc (.cells #[.slice none 0 0] 24)).alloc (.cells #[.int .i64 0, .int .i64 0] 28)) (w.heap.size + 1) (.int .i64 0) (.int .i64 0)) := hide (by
    have := Pair.new (w.alloc (.cells #[.slice none 0 0] 24)) 28 (a := .int .i64 0) (b := .int .i64 0)
    rwa [show (w.alloc (.cells #[.slice none 0 0] 24)).heap.size = w.heap.size + 1 from by simp] at this)
  have q0 : ((w.alloc (.cells #[.slice none 0 0] 24)).alloc (.cells #[.int .i64 0, .int .i64 0] 28)).heap[w.heap.size + 1]? = some (.cells #[.int .i64 0, .int .i64 0] 28 (0, 0)) := by
    rw [show w.heap.size + 1 = (w.alloc (.cells #[.slice none 0 0] 24)).heap.size from by simp]; exact heap_alloc_new _ _
  have B0 := hide b0
  have C0 := hide c0
  have Q0 := hide q0
  clear h ht b0 c0 q0
  go_enter_defers Tryz.func55, Tryz.ntmps55
  go_wp2_with fail
  show Calls _ _ _ ((w.alloc (.cells #[.slice none 0 0] 24)).alloc (.cells #[.int .i64 0, .int .i64 0] 28)) _
  generalize (w.alloc (.cells #[.slice none 0 0] 24)).alloc (.cells #[.int .i64 0, .int .i64 0] 28) = W0 at *
  refine (program_any _ H0.out T0.out h2).mono ?_; rintro e w1 ⟨k1, ⟨xs, n, l', v, hx, rfl, hV⟩ | ⟨er, hx, rfl⟩⟩
  . obtain ⟨aoV, cV, rfl⟩ := own_len hV.choose_spec.1
    have hsz : w.heap.size + 1 < W0.heap.size := P0.out.2.2.2.2
    have C1 := hide ((k1.2.2.2.2 w.heap.size (by omega) (by omega)).trans C0.out)
    have Q1 := hide ((k1.2.2.2.2 (w.heap.size + 1) (by omega) (by omega)).trans Q0.out)
    obtain ⟨p0, p1, p2, p3, p4⟩ := P0.out.kept k1 (by omega) (by omega)
    have d0 : w1.cell? ⟨w.heap.size, 0, none⟩ = some (.slice none 0 0) := by simp [World.cell?, C1.out]
    have f0 : w1.frozen? ⟨w.heap.size, 0, none⟩ = false := by simp [World.frozen?, C1.out]
    replace hx := hide hx
    have K0 : Kp w.heap.size a w w1 := (Kp.of_belowW B0.out (Nat.le_refl _)).trans (k1.mono B0.out.size)
    have K2 := hide (((K0.setCell (p := ⟨w.heap.size, 0, none⟩) (.inr ⟨Nat.le_refl _, by show w.heap.size ≠ a; omega⟩) (.inl (Nat.le_refl _)) (.slice aoV xs.length cV)).setCell (p := ⟨w.heap.size + 1, 0, none⟩) (.inr ⟨Nat.le_succ _, by show w.heap.size + 1 ≠ a; omega⟩) (.inl (Nat.le_succ _)) (.int .i64 0)).setCell (p := ⟨w.heap.size + 1, 1, none⟩) (.inr ⟨Nat.le_succ _, by show w.heap.size + 1 ≠ a; omega⟩) (.inl (Nat.le_succ _)) (.int .i64 0))
    have V2 : Hid (ProgVal w.heap.size xs (.slice aoV xs.length cV) (((w1.setCell ⟨w.heap.size, 0, none⟩ (.slice aoV xs.length cV)).setCell ⟨w.heap.size + 1, 0, none⟩ (.int .i64 0)).setCell ⟨w.heap.size + 1, 1, none⟩ (.int .i64 0))) := hide (by
      obtain ⟨cs, o1, o2⟩ := hV
      have F1 := (Far.refl w.heap.size w1).set 0 (.slice aoV xs.length cV)
      have F2 := ((Far.refl (w.heap.size + 1) (w1.setCell ⟨w.heap.size, 0, none⟩ (.slice aoV xs.length cV))).set 0 (.int .i64 0)).set 1 (.int .i64 0)
      have key : ∀ (e s : Nat) (v : Value) (n : Nat) (xs : List Value), w1.ownsRow W0.heap.size e s v n xs -> _ := fun e s v n xs h => F2.own (F1.own h (fun e => by have := (h.lt _ e).1; omega)) (fun e => by have := (h.lt _ e).1; omega)
      have St : Stay W0.heap.size w.heap.size w1 _ := fun e s v n xs _ h => own_base (key e s v n xs h) (by omega)
      exact ⟨cs, own_base (key _ _ _ _ _ o1) (by omega), FRow.stay St _ _ o2⟩)
    clear hV K0
    go_wp2_with fail
    refine leaves_cons (f := 84) (args := #[.pointer (some ⟨w.heap.size, 0, none⟩), .pointer (some ⟨w.heap.size + 1, 0, none⟩)]) (by simp) (by simp [go_sem]) ?_
    refine (catch_idle _ _ _).mono ?_; rintro e u' w'' ⟨rfl, rfl, rfl⟩
    exact ⟨.tuple #[.agg #[.slice aoV xs.length cV], .agg #[.int .i64 0, .int .i64 0]], by simp [results, Tryz.results55, go_sem, d0, p0, p1], K2.out, .inl ⟨xs, n, l', _, hx.out, rfl, V2.out⟩⟩
  . have hsz : w.heap.size + 1 < W0.heap.size := P0.out.2.2.2.2
    have C1 := hide ((k1.2.2.2.2 w.heap.size (by omega) (by omega)).trans C0.out)
    have P1 := hide (P0.out.kept k1 (by omega) (by omega))
    have d0 : w1.cell? ⟨w.heap.size, 0, none⟩ = some (.slice none 0 0) := by simp [World.cell?, C1.out]
    have f0 : w1.frozen? ⟨w.heap.size, 0, none⟩ = false := by simp [World.frozen?, C1.out]
    replace hx := hide hx
    have K0 := hide ((Kp.of_belowW (B := w.heap.size) (a := a) B0.out (Nat.le_refl _)).trans (k1.mono B0.out.size))
    unfold thrown
    go_wp2_with fail
    refine leaves_cons (f := 84) (args := #[.pointer (some ⟨w.heap.size, 0, none⟩), .pointer (some ⟨w.heap.size + 1, 0, none⟩)]) (by simp) (by simp [go_sem]) ?_
    refine (catch_panic _ _ er.1 er.2 _ d0 f0 P1.out (by omega)).mono ?_; rintro e u' w'' ⟨rfl, rfl, hM⟩
    obtain ⟨m1, m2, m3, m4, m5, m6, m7, m8⟩ := hM
    refine ⟨.tuple #[.agg #[.slice none 0 0], .agg #[.int .i64 er.1, .int .i64 er.2]], by simp [results, Tryz.results55, go_sem, m6, m7, m8], ?_, .inr ⟨er, hx.out, rfl⟩⟩
    refine K0.out.trans ⟨⟨m1, fun k cs fz e => ?_⟩, m2, ⟨m3, fun x e => ?_⟩, by omega, fun k h1 h2 => m5 k (by omega) (by omega)⟩
    . by_cases e1 : k = w.heap.size
      . subst e1; rw [C1.out] at e; simp at e
      . by_cases e2 : k = w.heap.size + 1
        . subst e2
          have q1 := (k1.2.2.2.2 (w.heap.size + 1) (by omega) (by omega)).trans Q0.out
          rw [q1] at e; simp at e
        . exact (m5 k e1 e2).trans e
    . exact (World.cell?_of_block (m5 a (by omega) (by omega))).trans e
end Go.Proofs.YtahhbckccdigoaaGreatDoor
namespace Go.Proofs.YtahhbckccdigoaaGreatDoor.L2
open Go.RowKit
def okW : Nat -> List (Nat × Nat) -> Nat -> Prop
  | lo, [], hi => lo <= hi
  | lo, x :: r, hi => lo <= x.1 /\ x.1 < x.2 /\ okW x.2 r hi
theorem okW_snoc (ws : List (Nat × Nat)) : ∀ (lo a e hi : Nat), okW lo ws a -> a < e -> e <= hi -> okW lo (ws ++ [(a, e)]) hi := by
  induction ws with
  | nil => intro lo a e hi h h2 h3; exact ⟨h, h2, h3⟩
  | cons x r ih => intro lo a e hi h h2 h3; exact ⟨h.1, h.2.1, ih _ _ _ _ h.2.2 h2 h3⟩
theorem okW_mono (ws : List (Nat × Nat)) : ∀ (lo hi hi2 : Nat), okW lo ws hi -> hi <= hi2 -> okW lo ws hi2 := by
  induction ws with
  | nil => intro lo hi hi2 h h2; exact Nat.le_trans h h2
  | cons x r ih => intro lo hi hi2 h h2; exact ⟨h.1, h.2.1, ih _ _ _ h.2.2 h2⟩
theorem okW_shut (ws : List (Nat × Nat)) (b : Option Nat) (p : Nat) (h : okW 0 ws (b.getD p)) (hb : ∀ q, b = some q -> q < p) : okW 0 (shutW ws b p) p := by
  cases b with
  | none => exact h
  | some q => exact okW_snoc ws 0 q p p h (hb q rfl) (Nat.le_refl _)
theorem scan_stands (l : List UInt8) : ∀ (p : Nat) (ws : List (Nat × Nat)) (b : Option Nat) (n : Bool), okW 0 ws (b.getD p) -> (∀ q, b = some q -> q < p) ->
    (∀ x, scan l p ws b n = .inl x -> p <= x /\ x < p + l.length) /\ (∀ ws', scan l p ws b n = .inr ws' -> okW 0 ws' (p + l.length)) := by
  induction l with
  | nil =>
    intro p ws b n h hb
    refine ⟨fun x hx => (by rw [scan] at hx; cases hx), fun ws' hx => ?_⟩
    rw [scan] at hx
    rw [<- Sum.inr.inj hx]
    exact okW_shut ws b p h hb
  | cons c l ih =>
    intro p ws b n h hb
    have step : ∀ ws2 b2 n2, scan (c :: l) p ws b n = scan l (p + 1) ws2 b2 n2 -> okW 0 ws2 (b2.getD (p + 1)) -> (∀ q, b2 = some q -> q < p + 1) ->
        (∀ x, scan (c :: l) p ws b n = .inl x -> p <= x /\ x < p + (c :: l).length) /\ (∀ ws', scan (c :: l) p ws b n = .inr ws' -> okW 0 ws' (p + (c :: l).length)) := by
      intro ws2 b2 n2 e h2 hb2
      rw [e, List.length_cons]
      obtain ⟨i1, i2⟩ := ih (p + 1) ws2 b2 n2 h2 hb2
      refine ⟨fun x hx => ?_, fun ws' hx => ?_⟩
      . have := i1 x hx; omega
      . have := i2 ws' hx; rw [show p + (l.length + 1) = p + 1 + l.length by omega]; exact this
    have hs := okW_shut ws b p h hb
    cases n with
    | true =>
      refine step ws b _ (scan_note c l p ws b) ?_ (fun q hq => by have := hb q hq; omega)
      cases b with
      | none => exact okW_mono ws 0 p (p + 1) h (by omega)
      | some q => exact h
    | false =>
      cases ht : togB c.toNat with
      | true =>
        refine step ws (some (b.getD p)) false (scan_tog l p ws b ht) h (fun q hq => ?_)
        have e := Option.some.inj hq
        cases b with
        | none => simp at e; omega
        | some r => simp at e; have := hb r rfl; omega
      | false =>
        cases h2 : aloB c.toNat with
        | true => exact step _ none false (scan_alo l p ws b ht h2) (okW_snoc _ 0 p (p + 1) (p + 1) hs (by omega) (Nat.le_refl _)) (fun q hq => by cases hq)
        | false =>
          by_cases h3 : (c.toNat : Int) = 35
          . exact step _ none true (scan_hash l p ws b ht h2 h3) (okW_mono _ 0 p (p + 1) hs (by omega)) (fun q hq => by cases hq)
          . cases h4 : blaB c.toNat with
            | true => exact step _ none false (scan_bla l p ws b ht h2 h3 h4) (okW_mono _ 0 p (p + 1) hs (by omega)) (fun q hq => by cases hq)
            | false =>
              rw [scan_err l p ws b ht h2 h3 h4]
              exact ⟨fun x hx => by have := Sum.inl.inj hx; simp only [List.length_cons]; omega, fun ws' hx => by cases hx⟩
def joinL : List (List UInt8) -> List UInt8
  | [] => []
  | x :: r => x ++ r.flatMap fun y => 32 :: y
def wordOk (x : List UInt8) : Prop := (∃ c : UInt8, x = [c] /\ togB c.toNat = false /\ aloB c.toNat = true) \/ (x ≠ [] /\ ∀ c ∈ x, togB (UInt8.toNat c) = true)
def cut (L : List UInt8) (x : Nat × Nat) : List UInt8 := (L.drop x.1).take (x.2 - x.1)
def goodW (L : List UInt8) (x : Nat × Nat) : Prop := (x.2 = x.1 + 1 /\ ∃ c, L[x.1]? = some c /\ togB c.toNat = false /\ aloB c.toNat = true) \/ (x.1 < x.2 /\ ∀ j, x.1 <= j -> j < x.2 -> ∃ c, L[j]? = some c /\ togB c.toNat = true)
theorem good_ok {L : List UInt8} {x : Nat × Nat} (h : goodW L x) : wordOk (cut L x) := by
  rcases h with ⟨e, c, hc, h1, h2⟩ | ⟨hlt, h⟩
  . refine .inl ⟨c, ?_, h1, h2⟩
    obtain ⟨hl, rfl⟩ := List.getElem?_eq_some_iff.1 hc
    rw [cut, e, Nat.add_sub_cancel_left, List.drop_eq_getElem_cons hl]
    rfl
  . refine .inr ⟨?_, fun c hc => ?_⟩
    . obtain ⟨c, hc, _⟩ := h x.1 (Nat.le_refl _) hlt
      obtain ⟨hl, rfl⟩ := List.getElem?_eq_some_iff.1 hc
      intro e
      have := congrArg List.length e
      simp [cut] at this
      omega
    . obtain ⟨j, hj, rfl⟩ := List.getElem_of_mem hc
      have hj2 : j < x.2 - x.1 := by simp [cut] at hj; omega
      obtain ⟨c, hc2, h3⟩ := h (x.1 + j) (by omega) (by omega)
      obtain ⟨hl, rfl⟩ := List.getElem?_eq_some_iff.1 hc2
      simp only [cut, List.getElem_take, List.getElem_drop]
      exact h3
theorem good_shut {L : List UInt8} {ws : List (Nat × Nat)} {b : Option Nat} {p : Nat} (h : ∀ x ∈ ws, goodW L x) (hb : ∀ q, b = some q -> q < p /\ ∀ j, q <= j -> j < p -> ∃ c, L[j]? = some c /\ togB c.toNat = true) : ∀ x ∈ shutW ws b p, goodW L x := by
  cases b with
  | none => exact h
  | some q =>
    intro x hx
    simp only [shutW, List.mem_append, List.mem_singleton] at hx
    rcases hx with hx | rfl
    . exact h x hx
    . exact .inr (hb q rfl)
theorem scan_good (L : List UInt8) (l : List UInt8) : ∀ (p : Nat) (ws : List (Nat × Nat)) (b : Option Nat) (n : Bool), L.drop p = l -> (∀ x ∈ ws, goodW L x) ->
    (∀ q, b = some q -> q < p /\ ∀ j, q <= j -> j < p -> ∃ c, L[j]? = some c /\ togB c.toNat = true) -> (n = true -> b = none) -> ∀ ws', scan l p ws b n = .inr ws' -> ∀ x ∈ ws', goodW L x := by
  induction l with
  | nil =>
    intro p ws b n _ h hb _ ws' hx
    rw [scan] at hx
    rw [<- Sum.inr.inj hx]
    exact good_shut h hb
  | cons c l ih =>
    intro p ws b n hd h hb hn ws' hx
    have hd2 : L.drop (p + 1) = l := by rw [<- List.drop_drop, hd]; rfl
    have hc : L[p]? = some c := by
      have := congrArg (fun k => k[0]?) hd
      simpa using this
    have hs := good_shut h hb
    have nob : ∀ q, (none : Option Nat) = some q -> q < p + 1 /\ ∀ j, q <= j -> j < p + 1 -> ∃ c, L[j]? = some c /\ togB c.toNat = true := fun q hq => by cases hq
    cases n with
    | true =>
      have hb0 := hn rfl
      subst hb0
      rw [scan_note] at hx
      exact ih (p + 1) ws none _ hd2 h nob (fun _ => rfl) ws' hx
    | false =>
      cases ht : togB c.toNat with
      | true =>
        rw [scan_tog l p ws b ht] at hx
        refine ih (p + 1) ws _ false hd2 h (fun q hq => ?_) (fun k => by cases k) ws' hx
        have e := Option.some.inj hq
        cases b with
        | none =>
          simp only [Option.getD_none] at e
          subst e
          refine ⟨by omega, fun j h1 h2 => ?_⟩
          have : j = p := by omega
          subst this
          exact ⟨c, hc, ht⟩
        | some r =>
          simp only [Option.getD_some] at e
          subst e
          obtain ⟨g1, g2⟩ := hb r rfl
          refine ⟨by omega, fun j h1 h2 => ?_⟩
          by_cases hj : j < p
          . exact g2 j h1 hj
          . have : j = p := by omega
            subst this
            exact ⟨c, hc, ht⟩
      | false =>
        cases h2 : aloB c.toNat with
        | true =>
          rw [scan_alo l p ws b ht h2] at hx
          refine ih (p + 1) _ none false hd2 (fun x hx2 => ?_) nob (fun _ => rfl) ws' hx
          simp only [List.mem_append, List.mem_singleton] at hx2
          rcases hx2 with hx2 | rfl
          . exact hs x hx2
          . exact .inl ⟨rfl, c, hc, ht, h2⟩
        | false =>
          by_cases h3 : (c.toNat : Int) = 35
          . rw [scan_hash l p ws b ht h2 h3] at hx
            exact ih (p + 1) _ none true hd2 hs nob (fun _ => rfl) ws' hx
          . cases h4 : blaB c.toNat with
            | true =>
              rw [scan_bla l p ws b ht h2 h3 h4] at hx
              exact ih (p + 1) _ none false hd2 hs nob (fun _ => rfl) ws' hx
            | false =>
              rw [scan_err l p ws b ht h2 h3 h4] at hx
              cases hx
theorem words_ok {s : ByteArray} {ws : List (Nat × Nat)} (h : words s = .inr ws) : okW 0 ws s.size /\ ∀ x ∈ ws, wordOk (cut s.data.toList x) := by
  refine ⟨?_, fun x hx => good_ok (scan_good s.data.toList _ 0 [] none false rfl (fun _ k => by cases k) (fun _ k => by cases k) (fun _ => rfl) ws h x hx)⟩
  have := (scan_stands s.data.toList 0 [] none false (Nat.le_refl 0) (fun _ k => by cases k)).2 ws h
  rw [blen, Nat.zero_add] at this
  exact this
theorem join_len (L : List UInt8) (ws : List (Nat × Nat)) : ∀ lo hi, okW lo ws hi -> (joinL (ws.map (cut L))).length + lo <= hi + ws.length /\ ws.length + lo <= hi := by
  have tail : ∀ (ws : List (Nat × Nat)) lo hi, okW lo ws hi -> ((ws.map (cut L)).flatMap fun y => 32 :: y).length + lo <= hi + ws.length /\ ws.length + lo <= hi := by
    intro ws
    induction ws with
    | nil => intro lo hi h; simp; exact h
    | cons x r ih =>
      intro lo hi h
      have h1 := h.1; have h2 := h.2.1
      obtain ⟨i1, i2⟩ := ih _ _ h.2.2
      have hc : (cut L x).length <= x.2 - x.1 := by simp [cut]; omega
      simp only [List.map_cons, List.flatMap_cons, List.length_append, List.length_cons]
      omega
  intro lo hi h
  cases ws with
  | nil => simp [joinL]; exact h
  | cons x r =>
    have h1 := h.1; have h2 := h.2.1
    obtain ⟨i1, i2⟩ := tail r _ _ h.2.2
    have hc : (cut L x).length <= x.2 - x.1 := by simp [cut]; omega
    simp only [List.map_cons, joinL, List.length_append, List.length_cons]
    omega
end Go.Proofs.YtahhbckccdigoaaGreatDoor.L2
namespace Go.Proofs.YtahhbckccdigoaaGreatDoor
open Go Go.RowKit
open G (Tok Er Ins Fun peek0 peek1 atOf)
def toks (s : ByteArray) (ws : List (Nat × Nat)) : List Tok := ws.map fun q => ((s.extract q.1 q.2).data.toList, (q.1 : Int))
theorem toks_cells (s : ByteArray) (ws : List (Nat × Nat)) : L2.cellsT (ws.map (L2.tok s)) = cellsK (toks s ws) := by
  induction ws with
  | nil => rfl
  | cons q r ih =>
    show Value.string (s.extract q.1 q.2) :: Value.int .i64 (q.1 : Int) :: L2.cellsT (r.map (L2.tok s)) = Value.string (bs (s.extract q.1 q.2).data.toList) :: Value.int .i64 (q.1 : Int) :: cellsK (toks s r)
    rw [bs_of, ih]
def textG (s : ByteArray) : Except Er (List Fun) :=
  match L2.words s with
  | .inl x => .error (1, (x : Int))
  | .inr ws => match progG (s.size : Int) (toks s ws) with
    | .ok ((xs, _), _) => .ok xs
    | .error er => .error er
def OutT (r : Except Er (List Fun)) (w : World) (e : Ending) (w' : World) : Prop :=
  Below w.heap.size w w' /\ ((∃ xs v, r = .ok xs /\ e = .returned (.tuple #[.agg #[v], .agg #[.int .i64 0, .int .i64 0]]) /\ ProgVal w.heap.size xs v w') \/ ∃ er : Er, r = .error er /\ e = .returned (.tuple #[.agg #[.slice none 0 0], .agg #[.int .i64 er.1, .int .i64 er.2]]))
theorem toks_short {s : ByteArray} {ws : List (Nat × Nat)} (h : L2.words s = .inr ws) (hs : s.size <= 65536) : (toks s ws).length <= 131072 /\ ∀ t ∈ toks s ws, t.1.length <= 65536 := by
  have hok := (L2.words_ok h).1
  have hl := (L2.join_len s.data.toList ws 0 s.size hok).2
  refine ⟨by simp [toks]; omega, fun t ht => ?_⟩
  simp only [toks, List.mem_map] at ht
  obtain ⟨q, _, rfl⟩ := ht
  show (s.extract q.1 q.2).data.toList.length <= 65536
  rw [ext_list]
  have : s.data.toList.length = s.size := by simp
  simp
  omega
theorem text_any (s : ByteArray) (w : World) (hs : s.size <= 65536) (ht : Tabs w) (hw : 2 <= w.heap.size) : Calls Tryz.prog 19 #[.string s] w (OutT (textG s) w) := by
  have b0 := below_step (below_box w (.cells #[.slice none 0 0] 24)) (below_box (w.alloc (.cells #[.slice none 0 0] 24)) (.cells #[.int .i64 0, .int .i64 0] 28))
  have T0 := hide (ht.below b0)
  have c0 : ((w.alloc (.cells #[.slice none 0 0] 24)).alloc (.cells #[.int .i64 0, .int .i64 0] 28)).heap[w.heap.size]? = some (.cells #[.slice none 0 0] 24 (0, 0)) := (heap_alloc_old _ _ (by simp)).trans (heap_alloc_new w _)
  have P0 : Hid (Pair ((w.alloc (.cells #[.slice none 0 0] 24)).alloc (.cells #[.int .i64 0, .int .i64 0] 28)) (w.heap.size + 1) (.int .i64 0) (.int .i64 0)) := hide (by
    have := Pair.new (w.alloc (.cells #[.slice none 0 0] 24)) 28 (a := .int .i64 0) (b := .int .i64 0)
    rwa [show (w.alloc (.cells #[.slice none 0 0] 24)).heap.size = w.heap.size + 1 from by simp] at this)
  have B0 := hide b0
  have C0 := hide c0
  clear ht b0 c0
  go_enter Tryz.func19, Tryz.ntmps19
  go_wp2_with fail
  show Calls _ _ _ ((w.alloc (.cells #[.slice none 0 0] 24)).alloc (.cells #[.int .i64 0, .int .i64 0] 28)) _
  generalize (w.alloc (.cells #[.slice none 0 0] 24)).alloc (.cells #[.int .i64 0, .int .i64 0] 28) = W0 at *
  refine (L2.split_try s _ hs).mono ?_; rintro e w1 ⟨b1, ⟨x, hx, rfl⟩ | ⟨v, ws, hx, rfl, own⟩⟩
  . have HT : Hid (textG s = .error (1, (x : Int))) := hide (by unfold textG; rw [hx])
    obtain ⟨p0, p1, p2, p3, p4⟩ := P0.out.below b1
    have C1 := hide ((b1.block _ (Array.getElem?_eq_some_iff.1 C0.out).1).trans C0.out)
    have B1 := hide (below_step B0.out b1)
    have F2 := ((Far.refl (w.heap.size + 1) w1).set 0 (.int .i64 1)).set 1 (.int .i64 (x : Int))
    have C2 := hide ((F2.2.2.2.2 w.heap.size (by omega)).trans C1.out)
    have B2 := hide ((B1.out.setCell (p := ⟨w.heap.size + 1, 0, none⟩) (Nat.le_succ _) (.int .i64 1)).setCell (p := ⟨w.heap.size + 1, 1, none⟩) (Nat.le_succ _) (.int .i64 (x : Int)))
    have Q2 : Hid (Pair ((w1.setCell ⟨w.heap.size + 1, 0, none⟩ (.int .i64 1)).setCell ⟨w.heap.size + 1, 1, none⟩ (.int .i64 (x : Int))) (w.heap.size + 1) (.int .i64 1) (.int .i64 (x : Int))) := hide ⟨(World.cell?_setCell_other _ _ _ _ (by simp)).trans (World.cell?_setCell_same _ _ _ p0), World.cell?_setCell_same _ _ _ ((World.cell?_setCell_other _ _ _ _ (by simp)).trans p1), by rw [World.frozen?_setCell, World.frozen?_setCell]; exact p2, by rw [World.frozen?_setCell, World.frozen?_setCell]; exact p3, by rw [F2.2.2.2.1]; exact p4⟩
    clear hx F2 B1
    go_upto_region 2 with fail
    show Code.wp _ _ _ _ ((w1.setCell ⟨w.heap.size + 1, 0, none⟩ (.int .i64 1)).setCell ⟨w.heap.size + 1, 1, none⟩ (.int .i64 (x : Int)))
    generalize (w1.setCell ⟨w.heap.size + 1, 0, none⟩ (.int .i64 1)).setCell ⟨w.heap.size + 1, 1, none⟩ (.int .i64 (x : Int)) = W2 at *
    clear p0 p1 p2 p3 p4 C1 b1
    obtain ⟨p0, p1, p2, p3, p4⟩ := Q2.out
    have d0 : W2.cell? ⟨w.heap.size, 0, none⟩ = some (.slice none 0 0) := by simp [World.cell?, C2.out]
    have f0 : W2.frozen? ⟨w.heap.size, 0, none⟩ = false := by simp [World.frozen?, C2.out]
    have hne : w.heap.size ≠ w.heap.size + 1 := by omega
    have hne' : w.heap.size + 1 ≠ w.heap.size := by omega
    go_wp2_with fail
    go_region
    all_goals
      go_wp2_with fail
      exact bodyPost_ret (v := .tuple #[.agg #[.slice none 0 0], .agg #[.int .i64 1, .int .i64 x]]) (by simp [results, Tryz.results19, go_sem, d0, p0, p1]) rfl ⟨(((B2.out.setCell (p := ⟨w.heap.size, 0, none⟩) (Nat.le_refl _) _).setCell (p := ⟨w.heap.size + 1, 0, none⟩) (Nat.le_succ _) _).setCell (p := ⟨w.heap.size + 1, 1, none⟩) (Nat.le_succ _) _).drew, .inr ⟨(1, (x : Int)), HT.out, rfl⟩⟩
  . have hx := hide hx
    obtain ⟨hl1, hl2⟩ := toks_short hx.out hs
    rw [toks_cells] at own
    obtain ⟨aoW, cW, rfl⟩ := own_len own
    have hlen : (toks s ws).length = ws.length := by simp [toks]
    obtain ⟨p0, p1, p2, p3, p4⟩ := P0.out.below b1
    have C1 := hide ((b1.block _ (Array.getElem?_eq_some_iff.1 C0.out).1).trans C0.out)
    have B1 := hide (below_step B0.out b1)
    have F2 := ((Far.refl (w.heap.size + 1) w1).set 0 (.int .i64 0)).set 1 (.int .i64 0)
    have hsz0 : w.heap.size + 1 < W0.heap.size := P0.out.2.2.2.2
    have P2 := hide (P0.out.below b1)
    have own2 := hide (F2.own own (fun e => by have := (own.lt _ e).1; omega))
    have T2 := hide ((T0.out.below b1).of (by rw [F2.2.2.2.1]; exact Nat.le_refl _) (F2.2.2.2.2 0 (by omega)) (F2.2.2.2.2 1 (by omega)))
    have B2 := hide ((B1.out.setCell (p := ⟨w.heap.size + 1, 0, none⟩) (Nat.le_succ _) (.int .i64 0)).setCell (p := ⟨w.heap.size + 1, 1, none⟩) (Nat.le_succ _) (.int .i64 0))
    have C2 := hide ((F2.2.2.2.2 w.heap.size (by omega)).trans C1.out)
    have Q2 : Hid (Pair ((w1.setCell ⟨w.heap.size + 1, 0, none⟩ (.int .i64 0)).setCell ⟨w.heap.size + 1, 1, none⟩ (.int .i64 0)) (w.heap.size + 1) (.int .i64 0) (.int .i64 0)) := hide ⟨(World.cell?_setCell_other _ _ _ _ (by simp)).trans (World.cell?_setCell_same _ _ _ p0), World.cell?_setCell_same _ _ _ ((World.cell?_setCell_other _ _ _ _ (by simp)).trans p1), by rw [World.frozen?_setCell, World.frozen?_setCell]; exact p2, by rw [World.frozen?_setCell, World.frozen?_setCell]; exact p3, by rw [F2.2.2.2.1]; exact p4⟩
    have hsz2 : w.heap.size + 1 < ((w1.setCell ⟨w.heap.size + 1, 0, none⟩ (.int .i64 0)).setCell ⟨w.heap.size + 1, 1, none⟩ (.int .i64 0)).heap.size := Q2.out.2.2.2.2
    clear own F2 P0 T0
    go_upto_region 2 with fail
    show Code.wp _ _ _ _ ((w1.setCell ⟨w.heap.size + 1, 0, none⟩ (.int .i64 0)).setCell ⟨w.heap.size + 1, 1, none⟩ (.int .i64 0))
    generalize (w1.setCell ⟨w.heap.size + 1, 0, none⟩ (.int .i64 0)).setCell ⟨w.heap.size + 1, 1, none⟩ (.int .i64 0) = W2 at *
    clear p0 p1 p2 p3 p4 P2 B1 C1 b1
    obtain ⟨p0, p1, p2, p3, p4⟩ := Q2.out
    have R3 : Hid (Rdr (W2.heap.size + 1) W2.heap.size (toks s ws) (s.size : Int) 0 (toks s ws) (W2.alloc (.cells #[.slice aoW ws.length cW, .int .i64 0, .int .i64 s.size, .int .i64 0] 75))) := hide (by
      refine ⟨.slice aoW ws.length cW, ?_, ?_, by omega, fun g hg => ?_, List.suffix_refl _, ⟨hl1, hl2⟩, by omega, by simp⟩
      . rw [heap_alloc_new]; simp
      . rw [hlen]; exact own_base (own2.out.alloc _) (Nat.zero_le _)
      . have := (own2.out.lt g hg).2; omega)
    have T3 := hide (T2.out.below (below_box W2 (.cells #[.slice aoW ws.length cW, .int .i64 0, .int .i64 s.size, .int .i64 0] 75)))
    have B3 := hide (below_box W2 (.cells #[.slice aoW ws.length cW, .int .i64 0, .int .i64 s.size, .int .i64 0] 75))
    go_wp2_with fail
    show Calls _ _ _ (W2.alloc (.cells #[.slice aoW ws.length cW, .int .i64 0, .int .i64 s.size, .int .i64 0] 75)) _
    generalize hW3 : W2.alloc (.cells #[.slice aoW ws.length cW, .int .i64 0, .int .i64 s.size, .int .i64 0] 75) = W3 at *
    have hsz3 : W3.heap.size = W2.heap.size + 1 := by rw [<- hW3]; simp
    clear hW3 p0 p1 p2 p3 p4
    refine (read_any _ R3.out T3.out (by omega)).mono ?_; rintro e w4 ⟨k4, ⟨xs, n, l', v, hr, rfl, hV⟩ | ⟨er, hr, rfl⟩⟩
    all_goals
      have P4 := hide ((Q2.out.below B3.out).kept k4 (by omega) (by omega))
      have C4 := hide ((k4.2.2.2.2 w.heap.size (by omega) (by omega)).trans ((B3.out.block _ (by omega)).trans C2.out))
      have B4 : Below w.heap.size w w4 := by
        have b := (B2.out.trans (B3.out.mono (by omega)))
        exact b.trans ((k4.mono (show W2.heap.size <= W3.heap.size by omega)).below (Nat.le_refl _) |>.mono (by omega))
      have B4 := hide B4
      obtain ⟨p0, p1, p2, p3, p4⟩ := P4.out
      have d0 : w4.cell? ⟨w.heap.size, 0, none⟩ = some (.slice none 0 0) := by simp [World.cell?, C4.out]
      have f0 : w4.frozen? ⟨w.heap.size, 0, none⟩ = false := by simp [World.frozen?, C4.out]
      have hne : w.heap.size ≠ w.heap.size + 1 := by omega
      have hne' : w.heap.size + 1 ≠ w.heap.size := by omega
    . have HT : Hid (textG s = .ok xs) := hide (by unfold textG; rw [hx.out]; show (match progG _ _ with | .ok ((xs, _), _) => _ | .error er => _) = _; rw [hr])
      obtain ⟨aoV, cV, rfl⟩ := own_len hV.choose_spec.1
      have V5 : Hid (ProgVal w.heap.size xs (.slice aoV xs.length cV) (((w4.setCell ⟨w.heap.size, 0, none⟩ (.slice aoV xs.length cV)).setCell ⟨w.heap.size + 1, 0, none⟩ (.int .i64 0)).setCell ⟨w.heap.size + 1, 1, none⟩ (.int .i64 0))) := hide (by
        obtain ⟨cs, o1, o2⟩ := hV
        have F1 := (Far.refl w.heap.size w4).set 0 (.slice aoV xs.length cV)
        have F2 := ((Far.refl (w.heap.size + 1) (w4.setCell ⟨w.heap.size, 0, none⟩ (.slice aoV xs.length cV))).set 0 (.int .i64 0)).set 1 (.int .i64 0)
        have key : ∀ (e s : Nat) (v : Value) (n : Nat) (xs : List Value), w4.ownsRow W3.heap.size e s v n xs -> _ := fun e s v n xs h => F2.own (F1.own h (fun e => by have := (h.lt _ e).1; omega)) (fun e => by have := (h.lt _ e).1; omega)
        have St : Stay W3.heap.size w.heap.size w4 _ := fun e s v n xs _ h => own_base (key e s v n xs h) (by omega)
        exact ⟨cs, own_base (key _ _ _ _ _ o1) (by omega), FRow.stay St _ _ o2⟩)
      clear hV hr k4
      go_wp2_with fail
      exact bodyPost_ret (v := .tuple #[.agg #[.slice aoV xs.length cV], .agg #[.int .i64 0, .int .i64 0]]) (by simp [results, Tryz.results19, go_sem, d0, p0, p1]) rfl ⟨((B4.out.setCell (p := ⟨w.heap.size, 0, none⟩) (Nat.le_refl _) _).setCell (p := ⟨w.heap.size + 1, 0, none⟩) (Nat.le_succ _) _).setCell (p := ⟨w.heap.size + 1, 1, none⟩) (Nat.le_succ _) _, .inl ⟨xs, _, HT.out, rfl, V5.out⟩⟩
    . have HT : Hid (textG s = .error er) := hide (by unfold textG; rw [hx.out]; show (match progG _ _ with | .ok ((xs, _), _) => _ | .error er => _) = _; rw [hr])
      clear hr k4
      go_wp2_with fail
      exact bodyPost_ret (v := .tuple #[.agg #[.slice none 0 0], .agg #[.int .i64 er.1, .int .i64 er.2]]) (by simp [results, Tryz.results19, go_sem, d0, p0, p1]) rfl ⟨((B4.out.setCell (p := ⟨w.heap.size, 0, none⟩) (Nat.le_refl _) _).setCell (p := ⟨w.heap.size + 1, 0, none⟩) (Nat.le_succ _) _).setCell (p := ⟨w.heap.size + 1, 1, none⟩) (Nat.le_succ _) _, .inr ⟨er, HT.out, rfl⟩⟩
end Go.Proofs.YtahhbckccdigoaaGreatDoor
