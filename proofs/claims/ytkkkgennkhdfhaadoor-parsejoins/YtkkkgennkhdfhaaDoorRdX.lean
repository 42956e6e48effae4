/- What is thrown is met at the end of the call: read. -/
import Derived.Test.YtkkkgennkhdfhaaDoorRdW
import Derived.Defers
import Derived.Recover
namespace Go.Proofs.YtkkkgennkhdfhaaDoor
open Go Go.RowKit
open G (Tok Er Ins Fun peek0 peek1 atOf)

theorem catch_idle (p q : Nat) (w : World) : CallsD Tryd.prog 25 #[.pointer (some ⟨p, 0, none⟩), .pointer (some ⟨q, 0, none⟩)] .returning w fun e u' w' => e = .returned (.tuple #[]) ∧ u' = .returning ∧ w' = w := by
  refine callsD_of_wpS Tryd.func25 rfl fun c₀ cs hu => ?_
  apply wpS_seq
  apply wpS_region
  simp [wpOpsS, go_sem, recoverD, hu, Tryd.ntmps25, Exit.thenS]
  change Code.wpS _ _ _ { tmps := #[.pointer (some ⟨p, 0, none⟩), .pointer (some ⟨q, 0, none⟩), .nilIface, .nilIface, undef, undef, undef, undef, undef], defers := [] } _ _
  refine wpS_of_wp ?_
  go_wp2_with fail
  cases c₀
  simp_all [bodyPostS, results, Tryd.results25]
set_option maxRecDepth 20000 in
theorem assert_err (x : Value) (w : World) : Sem.run Tryd.prog (Instr.typeAssert (.iface 28 x) 20 28 false) w = .ok x w := rfl
/-- What is met is laid into both results. -/
def Met (p q : Nat) (c d : Int) (w w' : World) : Prop := w'.os = w.os ∧ w'.tape = w.tape ∧ w'.output = w.output ∧ w'.heap.size = w.heap.size ∧ (∀ k, k ≠ p → k ≠ q → w'.heap[k]? = w.heap[k]?) ∧ w'.cell? ⟨p, 0, none⟩ = some (.slice none 0 0) ∧ w'.cell? ⟨q, 0, none⟩ = some (.int .i64 c) ∧ w'.cell? ⟨q, 1, none⟩ = some (.int .i64 d)
theorem catch_panic (p q : Nat) (c d : Int) (w : World) (h0 : w.cell? ⟨p, 0, none⟩ = some (.slice none 0 0)) (f0 : w.frozen? ⟨p, 0, none⟩ = false) (h1 : Pair w q (.int .i64 0) (.int .i64 0)) (hpq : p ≠ q) : CallsD Tryd.prog 25 #[.pointer (some ⟨p, 0, none⟩), .pointer (some ⟨q, 0, none⟩)] (.panicking [{ v := .iface 28 (.agg #[.int .i64 c, .int .i64 d]), recovered := false }]) w fun e u' w' => e = .returned (.tuple #[]) ∧ u' = .panicking [{ v := .iface 28 (.agg #[.int .i64 c, .int .i64 d]), recovered := true }] ∧ Met p q c d w w' := by
  obtain ⟨p0, p1, p2, p3, p4⟩ := h1
  have hta := assert_err
  have hqp : q ≠ p := Ne.symm hpq
  refine callsD_of_wpS Tryd.func25 rfl fun c₀ cs hu => ?_
  apply wpS_seq
  apply wpS_region
  simp [wpOpsS, go_sem, recoverD, hu, Tryd.ntmps25, Exit.thenS]
  change Code.wpS _ _ _ { tmps := #[.pointer (some ⟨p, 0, none⟩), .pointer (some ⟨q, 0, none⟩), .iface 28 (.agg #[.int .i64 c, .int .i64 d]), .iface 28 (.agg #[.int .i64 c, .int .i64 d]), undef, undef, undef, undef, undef], defers := [] } _ _
  refine wpS_of_wp ?_
  go_wp2_with fail
  go_region
  change bodyPostS Tryd.prog Tryd.f25 c₀ cs _ Exit.normal _ _ _
  refine ⟨rfl, _, rfl, .tuple #[], results_none rfl _ _ _, rfl, rfl, ?_⟩
  refine ⟨rfl, rfl, rfl, by simp [World.setCell, World.drew], fun k h1 h2 => ?_, ?_, ?_, ?_⟩
  · show (((w.setCell ⟨p, 0, none⟩ (.slice none 0 0)).setCell ⟨q, 0, none⟩ (.int .i64 c)).setCell ⟨q, 1, none⟩ (.int .i64 d)).heap[k]? = _
    rw [Below.heap_setCell _ _ _ _ h2, Below.heap_setCell _ _ _ _ h2, Below.heap_setCell _ _ _ _ h1]
  · show (((w.setCell ⟨p, 0, none⟩ (.slice none 0 0)).setCell ⟨q, 0, none⟩ (.int .i64 c)).setCell ⟨q, 1, none⟩ (.int .i64 d)).cell? ⟨p, 0, none⟩ = _
    rw [World.cell?_setCell_other _ _ _ _ (fun e => hpq (congrArg Addr.block e).symm), World.cell?_setCell_other _ _ _ _ (fun e => hpq (congrArg Addr.block e).symm)]
    exact World.cell?_setCell_same _ _ _ h0
  · show (((w.setCell ⟨p, 0, none⟩ (.slice none 0 0)).setCell ⟨q, 0, none⟩ (.int .i64 c)).setCell ⟨q, 1, none⟩ (.int .i64 d)).cell? ⟨q, 0, none⟩ = _
    rw [World.cell?_setCell_other _ _ _ _ (by simp)]
    exact World.cell?_setCell_same _ _ _ ((World.cell?_setCell_other _ _ _ _ (fun e => hpq (congrArg Addr.block e))).trans p0)
  · show (((w.setCell ⟨p, 0, none⟩ (.slice none 0 0)).setCell ⟨q, 0, none⟩ (.int .i64 c)).setCell ⟨q, 1, none⟩ (.int .i64 d)).cell? ⟨q, 1, none⟩ = _
    exact World.cell?_setCell_same _ _ _ ((World.cell?_setCell_other _ _ _ _ (by simp)).trans ((World.cell?_setCell_other _ _ _ _ (fun e => hpq (congrArg Addr.block e))).trans p1))
/-- What read answers. -/
def OutR (a : Nat) (r : Except Er ((List Fun × Nat) × List Tok)) (w : World) (e : Ending) (w' : World) : Prop :=
  Kp w.heap.size a w w' ∧ ((∃ xs n l' v, r = .ok ((xs, n), l') ∧ e = .returned (.tuple #[.agg #[v], .agg #[.int .i64 0, .int .i64 0]]) ∧ ProgVal w.heap.size xs v w') ∨ ∃ er : Er, r = .error er ∧ e = .returned (.tuple #[.agg #[.slice none 0 0], .agg #[.int .i64 er.1, .int .i64 er.2]]))
theorem read_any {B a : Nat} {L : List Tok} {E : Int} {l : List Tok} (w : World) (h : Rdr B a L E 0 l w) (ht : Tabs w) (h2 : 2 ≤ a) :
    Calls Tryd.prog 15 #[.pointer (some ⟨a, 0, none⟩)] w (OutR a (progG E l) w) := by
  have hmf : ∀ (fn : Fn) (first cap : Array Value) (w : World), (Instr.makeFunc fn first cap).run Tryd.prog w = .ok (.func fn first cap) w := fun _ _ _ _ => rfl
  have hBw := h.size
  have hsm := h.suffix
  have b0 := below_step (below_box w (.cells #[.slice none 0 0] 25)) (below_box (w.alloc (.cells #[.slice none 0 0] 25)) (.cells #[.int .i64 0, .int .i64 0] 28))
  have H0 := hide (h.step b0)
  have T0 := hide (ht.below b0)
  have c0 : ((w.alloc (.cells #[.slice none 0 0] 25)).alloc (.cells #[.int .i64 0, .int .i64 0] 28)).heap[w.heap.size]? = some (.cells #[.slice none 0 0] 25 (0, 0)) := (heap_alloc_old _ _ (by simp)).trans (heap_alloc_new w _)
  have P0 : Hid (Pair ((w.alloc (.cells #[.slice none 0 0] 25)).alloc (.cells #[.int .i64 0, .int .i64 0] 28)) (w.heap.size + 1) (.int .i64 0) (.int .i64 0)) := hide (by
    have := Pair.new (w.alloc (.cells #[.slice none 0 0] 25)) 28 (a := .int .i64 0) (b := .int .i64 0)
    rwa [show (w.alloc (.cells #[.slice none 0 0] 25)).heap.size = w.heap.size + 1 from by simp] at this)
  have q0 : ((w.alloc (.cells #[.slice none 0 0] 25)).alloc (.cells #[.int .i64 0, .int .i64 0] 28)).heap[w.heap.size + 1]? = some (.cells #[.int .i64 0, .int .i64 0] 28 (0, 0)) := by
    rw [show w.heap.size + 1 = (w.alloc (.cells #[.slice none 0 0] 25)).heap.size from by simp]; exact heap_alloc_new _ _
  have B0 := hide b0
  have C0 := hide c0
  have Q0 := hide q0
  clear h ht b0 c0 q0
  go_enter_defers Tryd.func15, Tryd.ntmps15
  go_wp2_with fail
  show Calls _ _ _ ((w.alloc (.cells #[.slice none 0 0] 25)).alloc (.cells #[.int .i64 0, .int .i64 0] 28)) _
  generalize (w.alloc (.cells #[.slice none 0 0] 25)).alloc (.cells #[.int .i64 0, .int .i64 0] 28) = W0 at *
  refine (program_any _ H0.out T0.out h2).mono ?_; rintro e w1 ⟨k1, ⟨xs, n, l', v, hx, rfl, hV⟩ | ⟨er, hx, rfl⟩⟩
  · obtain ⟨aoV, cV, rfl⟩ := own_len hV.choose_spec.1
    have hsz : w.heap.size + 1 < W0.heap.size := P0.out.2.2.2.2
    have C1 := hide ((k1.2.2.2.2 w.heap.size (by omega) (by omega)).trans C0.out)
    have Q1 := hide ((k1.2.2.2.2 (w.heap.size + 1) (by omega) (by omega)).trans Q0.out)
    obtain ⟨p0, p1, p2, p3, p4⟩ := P0.out.kept k1 (by omega) (by omega)
    have d0 : w1.cell? ⟨w.heap.size, 0, none⟩ = some (.slice none 0 0) := by simp [World.cell?, C1.out]
    have f0 : w1.frozen? ⟨w.heap.size, 0, none⟩ = false := by simp [World.frozen?, C1.out]
    replace hx := hide hx
    have K0 : Kp w.heap.size a w w1 := (Kp.of_belowW B0.out (Nat.le_refl _)).trans (k1.mono B0.out.size)
    have K2 := hide (((K0.setCell (p := ⟨w.heap.size, 0, none⟩) (.inr ⟨Nat.le_refl _, by show w.heap.size ≠ a; omega⟩) (.inl (Nat.le_refl _)) (.slice aoV xs.length cV)).setCell (p := ⟨w.heap.size + 1, 0, none⟩) (.inr ⟨Nat.le_succ _, by show w.heap.size + 1 ≠ a; omega⟩) (.inl (Nat.le_succ _)) (.int .i64 0)).setCell (p := ⟨w.heap.size + 1, 1, none⟩) (.inr ⟨Nat.le_succ _, by show w.heap.size + 1 ≠ a; omega⟩) (.inl (Nat.le_succ _)) (.int .i64 0))
    have V2 : Hid (ProgVal w.heap.size xs (.slice aoV xs.length cV) (((w1.setCell ⟨w.heap.size, 0, none⟩ (.slice aoV xs.length cV)).setCell ⟨w.heap.size + 1, 0, none⟩ (.int .i64 0)).setCell ⟨w.heap.size + 1, 1, none⟩ (.int .i64 0))) := hide (by
      obtain ⟨cs, o1, o2⟩ := hV
      have F1 := (Far.refl w.heap.size w1).set 0 (.slice aoV xs.length cV)
      have F2 := ((Far.refl (w.heap.size + 1) (w1.setCell ⟨w.heap.size, 0, none⟩ (.slice aoV xs.length cV))).set 0 (.int .i64 0)).set 1 (.int .i64 0)
      have key : ∀ (e s : Nat) (v : Value) (n : Nat) (xs : List Value), w1.ownsRow W0.heap.size e s v n xs → _ := fun e s v n xs h => F2.own (F1.own h (fun e => by have := (h.lt _ e).1; omega)) (fun e => by have := (h.lt _ e).1; omega)
      have St : Stay W0.heap.size w.heap.size w1 _ := fun e s v n xs _ h => own_base (key e s v n xs h) (by omega)
      exact ⟨cs, own_base (key _ _ _ _ _ o1) (by omega), FRow.stay St _ _ o2⟩)
    clear hV K0
    go_wp2_with fail
    refine leaves_cons (f := 25) (args := #[.pointer (some ⟨w.heap.size, 0, none⟩), .pointer (some ⟨w.heap.size + 1, 0, none⟩)]) (by simp) (by simp [go_sem]) ?_
    refine (catch_idle _ _ _).mono ?_; rintro e u' w'' ⟨rfl, rfl, rfl⟩
    exact ⟨.tuple #[.agg #[.slice aoV xs.length cV], .agg #[.int .i64 0, .int .i64 0]], by simp [results, Tryd.results15, go_sem, d0, p0, p1], K2.out, .inl ⟨xs, n, l', _, hx.out, rfl, V2.out⟩⟩
  · have hsz : w.heap.size + 1 < W0.heap.size := P0.out.2.2.2.2
    have C1 := hide ((k1.2.2.2.2 w.heap.size (by omega) (by omega)).trans C0.out)
    have P1 := hide (P0.out.kept k1 (by omega) (by omega))
    have d0 : w1.cell? ⟨w.heap.size, 0, none⟩ = some (.slice none 0 0) := by simp [World.cell?, C1.out]
    have f0 : w1.frozen? ⟨w.heap.size, 0, none⟩ = false := by simp [World.frozen?, C1.out]
    replace hx := hide hx
    have K0 := hide ((Kp.of_belowW (B := w.heap.size) (a := a) B0.out (Nat.le_refl _)).trans (k1.mono B0.out.size))
    unfold thrown
    go_wp2_with fail
    refine leaves_cons (f := 25) (args := #[.pointer (some ⟨w.heap.size, 0, none⟩), .pointer (some ⟨w.heap.size + 1, 0, none⟩)]) (by simp) (by simp [go_sem]) ?_
    refine (catch_panic _ _ er.1 er.2 _ d0 f0 P1.out (by omega)).mono ?_; rintro e u' w'' ⟨rfl, rfl, hM⟩
    obtain ⟨m1, m2, m3, m4, m5, m6, m7, m8⟩ := hM
    refine ⟨.tuple #[.agg #[.slice none 0 0], .agg #[.int .i64 er.1, .int .i64 er.2]], by simp [results, Tryd.results15, go_sem, m6, m7, m8], ?_, .inr ⟨er, hx.out, rfl⟩⟩
    refine K0.out.trans ⟨⟨m1, fun k cs fz e => ?_⟩, m2, ⟨m3, fun x e => ?_⟩, by omega, fun k h1 h2 => m5 k (by omega) (by omega)⟩
    · by_cases e1 : k = w.heap.size
      · subst e1; rw [C1.out] at e; simp at e
      · by_cases e2 : k = w.heap.size + 1
        · subst e2
          have q1 := (k1.2.2.2.2 (w.heap.size + 1) (by omega) (by omega)).trans Q0.out
          rw [q1] at e; simp at e
        · exact (m5 k e1 e2).trans e
    · exact (World.cell?_of_block (m5 a (by omega) (by omega))).trans e
end Go.Proofs.YtkkkgennkhdfhaaDoor
