/- A function is read. -/
import Derived.Test.YtahhbckccdigoaaGreatDoorMbAM
set_option maxHeartbeats 8000000
set_option maxRecDepth 20000
namespace Go.Proofs.YtahhbckccdigoaaGreatDoor
open Go Go.RowKit
open G (Tok Er Ins Fun peek0 peek1 atOf)
abbrev blkG (E : Int) (f n : Nat) (acc : List (List Ins)) : G.Rd (List (List Ins) × Nat) := G.blkW numF idxF namF shpF tksF fndF mksF prtF E f n acc
abbrev funG (E : Int) (n : Nat) : G.Rd (Fun × Nat) := G.function numF idxF namF shpF tksF fndF mksF prtF E n
def OutF (B a : Nat) (L : List Tok) (E : Int) (r : Except Er ((Fun × Nat) × List Tok)) (w : World) (e : Ending) (w' : World) : Prop :=
  Kp w.heap.size a w w' /\ ((∃ x n l' v, r = .ok ((x, n), l') /\ e = .returned v /\ FunVal w.heap.size x v w' /\ Rdr B a L E n l' w') \/ ∃ er : Er, r = .error er /\ e = thrown er.1 er.2)
theorem three_new (w : World) : w.heap.size < (w.alloc (.cells #[.int .i64 0, .int .i64 1, .int .i64 2] 3)).heap.size /\ ∀ (k : Nat) (t : Int), [(0 : Int), 1, 2][k]? = some t -> (w.alloc (.cells #[.int .i64 0, .int .i64 1, .int .i64 2] 3)).cell? ⟨w.heap.size, k, none⟩ = some (.int .i64 t) := by
  refine ⟨by simp, fun k t h => ?_⟩
  match k, h with
  | 0, h => simp at h; subst h; simp [go_sem]
  | 1, h => simp at h; subst h; simp [go_sem]
  | 2, h => simp at h; subst h; simp [go_sem]
theorem typeR_some {s : List UInt8} {p t : Int} {x : Nat} {w : World} (hx : x < w.heap.size /\ ∀ k t, [(0 : Int), 1, 2][k]? = some t -> w.cell? ⟨x, k, none⟩ = some (.int .i64 t)) (h : threeKind s = some t) : Calls Tryz.prog 111 #[.agg #[.string (bs s), .int .i64 p], .slice (some ⟨x, 0, none⟩) 3 3] w fun e w' => e = .returned (.int .i64 t) /\ Below w.heap.size w w' :=
  (typeOf_three s p x w hx).mono fun e w' ⟨hb, hh⟩ => by
    rcases hh with ⟨x, hx, rfl⟩ | ⟨hx, _⟩
    . rw [h] at hx; cases hx; exact ⟨rfl, hb⟩
    . rw [h] at hx; cases hx
theorem typeR_none {s : List UInt8} {p : Int} {x : Nat} {w : World} (hx : x < w.heap.size /\ ∀ k t, [(0 : Int), 1, 2][k]? = some t -> w.cell? ⟨x, k, none⟩ = some (.int .i64 t)) (h : threeKind s = none) : Calls Tryz.prog 111 #[.agg #[.string (bs s), .int .i64 p], .slice (some ⟨x, 0, none⟩) 3 3] w fun e w' => e = thrown 9 p /\ Below w.heap.size w w' :=
  (typeOf_three s p x w hx).mono fun e w' ⟨hb, hh⟩ => by
    rcases hh with ⟨x, hx, _⟩ | ⟨_, rfl⟩
    . rw [h] at hx; cases hx
    . exact ⟨rfl, hb⟩
theorem answer_none {E : Int} {l : List Tok} (h : threeKind (peek0 l) = none) : G.answer E l = .error (9, atOf E l) := by
  unfold threeKind at h
  split at h
  . rename_i hc; exact one_none (if_pos hc)
  . cases h
theorem answer_some {E t : Int} {l : List Tok} (h : threeKind (peek0 l) = some t) : G.answer E l = .ok (t, l.tail) := by
  unfold threeKind at h
  split at h
  . cases h
  . rename_i hc; cases h; exact one_some (if_neg hc)
theorem three_ne {l : List Tok} {t : Int} (h : threeKind (peek0 l) = some t) : l ≠ [] := fun e => by subst e; cases h
theorem blk_stop {E : Int} {f n : Nat} {acc : List (List Ins)} {l : List Tok} (h : peek0 l = [125]) : blkG E (f + 1) n acc l = .ok ((acc, n), l) := by
  unfold blkG G.blkW; rw [if_pos h]
theorem blk_bad {E : Int} {f n : Nat} {acc : List (List Ins)} {l : List Tok} {er : Er} (h : ¬ peek0 l = [125]) (hb : blockG E acc.length n l = .error er) : blkG E (f + 1) n acc l = .error er := by
  unfold blkG G.blkW; rw [if_neg h]; show G.andThen (blockG E acc.length n l) _ = _; rw [hb]; rfl
theorem blk_go {E : Int} {f n n' : Nat} {acc : List (List Ins)} {b : List Ins} {l l' : List Tok} (h : ¬ peek0 l = [125]) (hb : blockG E acc.length n l = .ok ((b, n'), l')) : blkG E (f + 1) n acc l = blkG E f n' (acc ++ [b]) l' := by
  conv => lhs; unfold blkG G.blkW
  rw [if_neg h]; show G.andThen (blockG E acc.length n l) _ = _; rw [hb]; rfl
theorem block_many {E : Int} {k n : Nat} {l : List Tok} (hk : 256 <= k) : blockG E k n l = .error (6, atOf E l) := by
  refine block_head ((one_none (if_pos (.inl hk))).trans ?_)
  show Except.error ((if 256 <= k then (6 : Int) else 7), atOf E l) = _
  rw [if_pos hk]
theorem ins_len {E : Int} : ∀ (f n : Nat) (acc : List Ins) (l : List Tok) (v : List Ins × Nat) (r : List Tok), insG E f n acc l = .ok (v, r) -> r.length <= l.length := by
  intro f
  induction f with
  | zero => intro n acc l v r h; cases h; exact Nat.le_refl _
  | succ f ih =>
    intro n acc l v r h
    by_cases hc : peek0 l = [125] \/ peek1 l = [58]
    . rw [ins_stop hc] at h; cases h; exact Nat.le_refl _
    . by_cases hn : 4096 <= n
      . rw [ins_many hc hn] at h; cases h
      . cases hi : instrP E l with
        | error er => rw [ins_bad hc (by omega) hi] at h; cases h
        | ok p =>
          obtain ⟨x, l1⟩ := p
          rw [ins_go hc (by omega) hi] at h
          have := ih _ _ _ _ _ h
          have := instr_less hi
          omega
theorem block_less {E : Int} {k n n' : Nat} {b : List Ins} {l l' : List Tok} (h : blockG E k n l = .ok ((b, n'), l')) : l'.length < l.length := by
  obtain ⟨u, q, h1, h2⟩ := G.then_ok h
  obtain ⟨u2, q2, h3, h4⟩ := G.then_ok h2
  obtain ⟨g1, g2, _⟩ := G.head_ok h1
  obtain ⟨g3, g4, _⟩ := G.want_ok (by simp) h3
  have := tail_bulk g1
  have := tail_bulk g3
  have := ins_len _ _ _ _ _ _ h4
  rw [g4, g2] at *
  omega
def F9 (E at' : Int) (s : List UInt8) (p : List Int) (t : Int) (b : List (List Ins) × Nat) : G.Rd (Fun × Nat) := fun r => G.andThen (G.want E [125] r) fun _ => G.done ((s, p, t, b.1, at'), b.2)
def F8 (E at' : Int) (n : Nat) (s : List UInt8) (p : List Int) (t : Int) : G.Rd (Fun × Nat) := fun r => G.andThen (blkG E (r.length + 1) n [] r) fun b => F9 E at' s p t b
def F7 (E at' : Int) (n : Nat) (s : List UInt8) (p : List Int) (t : Int) : G.Rd (Fun × Nat) := fun r => G.andThen (G.want E [123] r) fun _ => F8 E at' n s p t
def F6 (E at' : Int) (n : Nat) (s : List UInt8) (p : List Int) : G.Rd (Fun × Nat) := fun r => G.andThen (G.answer E r) fun t => F7 E at' n s p t
def F5 (E at' : Int) (n : Nat) (s : List UInt8) (p : List Int) : G.Rd (Fun × Nat) := fun r => G.andThen (G.want E [41] r) fun _ => F6 E at' n s p
def F4 (E at' : Int) (n : Nat) (s : List UInt8) : G.Rd (Fun × Nat) := fun r => G.andThen (G.params E r) fun p => F5 E at' n s p
def F3 (E at' : Int) (n : Nat) (s : List UInt8) : G.Rd (Fun × Nat) := fun r => G.andThen (G.want E [40] r) fun _ => F4 E at' n s
def F2 (E at' : Int) (n : Nat) : G.Rd (Fun × Nat) := fun r => G.andThen (G.name namF E r) fun s => F3 E at' n s
def F1 (E at' : Int) (n : Nat) : G.Rd (Fun × Nat) := fun r => G.andThen (G.want E [102, 117, 110, 99] r) fun _ => F2 E at' n
theorem fun_start (E : Int) (n : Nat) (l : List Tok) : funG E n l = F1 E (atOf E l) n l := rfl
theorem then_go {α β : Type} {x : Except Er (α × List Tok)} {f : α -> G.Rd β} {v : α} {r : List Tok} (h : x = .ok (v, r)) : G.andThen x f = f v r := by rw [h]; rfl
theorem then_no {α β : Type} {x : Except Er (α × List Tok)} {f : α -> G.Rd β} {er : Er} (h : x = .error er) : G.andThen x f = .error er := by rw [h]; rfl
theorem stay2_blk {B B' : Nat} {w w' : World} (hs : ∀ (e s : Nat) (v : Value) (n : Nat) (xs : List Value), e = 3 \/ e = 39 -> w.ownsRow B e s v n xs -> w'.ownsRow B' e s v n xs) : ∀ xs v, BlkVal B xs v w -> BlkVal B' xs v w' := by
  rintro xs v ⟨cs, h1, h2⟩
  exact ⟨cs, hs _ _ _ _ _ (by simp) h1, InsRow.keep (fun v n xs h => hs 3 1 v n xs (by simp) h) _ _ h2⟩
theorem fun_append {B c gg cap : Nat} {x : Fun} {b : List Ins} {v va vp : Value} {vs : List Value} {u w3 : World} (hc : u.heap[c]? = some (.cells (funCells x vp va).toArray 34 (0, 0))) (hp : u.ownsRow B 3 1 vp x.2.1.length (ints x.2.1)) (oB : u.ownsRow B 36 1 va x.2.2.2.1.length vs) (hR : BRow B u x.2.2.2.1 vs) (hb : BlkVal B b v u) (hBc : B <= c)
    (hown : w3.ownsRow B 36 1 (.slice (some ⟨gg, 0, none⟩) (x.2.2.2.1.length + 1) cap) (x.2.2.2.1.length + 1) (vs ++ [v])) (hg : u.grownBy w3 va.ownBlock) : FunAt B c (fBlock x b) (w3.setCell ⟨c, 3, none⟩ (.slice (some ⟨gg, 0, none⟩) (x.2.2.2.1.length + 1) cap)) := by
  have s1 : ∀ (e s : Nat) (v : Value) (n : Nat) (xs : List Value), e = 3 \/ e = 39 -> u.ownsRow B e s v n xs -> w3.ownsRow B e s v n xs := fun e s v n xs he h => own_other hg oB (by rcases he with rfl | rfl <;> decide) v n xs h
  have hc3 : w3.heap[c]? = some (.cells (funCells x vp va).toArray 34 (0, 0)) := (hg.block c (Array.getElem?_eq_some_iff.1 hc).1 (fun e => own_ne oB hc (by decide) e.symm)).trans hc
  have s2 : Stay B B w3 (w3.setCell ⟨c, 3, none⟩ (.slice (some ⟨gg, 0, none⟩) (x.2.2.2.1.length + 1) cap)) := far_kind ((Far.refl c w3).set 3 _) hc3 (by decide)
  refine ⟨vp, _, (heap_setCell_same w3 c 3 _ 34 _ hc3).trans rfl, s2 _ _ _ _ _ (by simp) (s1 _ _ _ _ _ (by simp) hp), ?_, hBc⟩
  refine BlksVal.stay ⟨vs ++ [v], ?_, BRow.snoc (stay2_blk s1 _ _ hb) _ _ (BRow.keep (stay2_blk s1) _ _ hR)⟩ s2
  show w3.ownsRow B 36 1 _ (x.2.2.2.1 ++ [b]).length _
  rw [List.length_append]; exact hown
theorem block_ok {B a : Nat} {L : List Tok} {E : Int} {n n' k : Nat} {l l' : List Tok} {b : List Ins} {w : World} (h : Rdr B a L E n l w) (ht : Tabs w) (h2 : 2 <= a) (hk : k < 256) (hr : blockG E k n l = .ok ((b, n'), l')) :
    Calls Tryz.prog 113 #[.pointer (some ⟨a, 0, none⟩), .int .i64 k] w fun e w' => ∃ ao cap, e = .returned (.slice ao b.length cap) /\ BlkVal w.heap.size b (.slice ao b.length cap) w' /\ Kp w.heap.size a w w' /\ Rdr B a L E n' l' w' :=
  (block_any w h ht h2 hk).mono fun e w' ⟨k1, hh⟩ => by
    rcases hh with ⟨xs, m, l2, v, hx, rfl, hV, r⟩ | ⟨er, hx, _⟩
    . rw [hr] at hx
      cases hx
      obtain ⟨ao, cap, rfl⟩ := own_len hV.choose_spec.1
      exact ⟨ao, cap, rfl, hV, k1, r⟩
    . rw [hr] at hx; cases hx
theorem block_err {B a : Nat} {L : List Tok} {E : Int} {n k : Nat} {l : List Tok} {er : Er} {w : World} (h : Rdr B a L E n l w) (ht : Tabs w) (h2 : 2 <= a) (hk : k < 256) (hr : blockG E k n l = .error er) :
    Calls Tryz.prog 113 #[.pointer (some ⟨a, 0, none⟩), .int .i64 k] w fun e w' => e = thrown er.1 er.2 /\ Kp w.heap.size a w w' :=
  (block_any w h ht h2 hk).mono fun e w' ⟨k1, hh⟩ => by
    rcases hh with ⟨xs, m, l2, v, hx, _⟩ | ⟨er2, hx, rfl⟩
    . rw [hr] at hx; cases hx
    . rw [hr] at hx; cases hx; exact ⟨rfl, k1⟩
theorem Tryz.info36 : (Tryz.prog.info? 36).map (fun i => (i.zero, i.size, i.bytes)) = some (some (.slice none 0 0), 1, 24) := by kernel_rfl
theorem one_slice {ao : Option Addr} {n c : Nat} : ∀ u ∈ [Value.slice ao n c], u.oneCell' = true := by
  intro u hu
  simp only [List.mem_singleton] at hu
  subst hu; rfl
def RES5 (g : Nat) (w : World) : Prop := w.cell? ⟨g, 0, none⟩ = some (.string ⟨#[]⟩) /\ w.cell? ⟨g, 1, none⟩ = some (.slice none 0 0) /\ w.cell? ⟨g, 2, none⟩ = some (.int .i64 0) /\ w.cell? ⟨g, 3, none⟩ = some (.slice none 0 0) /\ w.cell? ⟨g, 4, none⟩ = some (.int .i64 0) /\
  w.frozen? ⟨g, 0, none⟩ = false /\ w.frozen? ⟨g, 1, none⟩ = false /\ w.frozen? ⟨g, 2, none⟩ = false /\ w.frozen? ⟨g, 3, none⟩ = false /\ w.frozen? ⟨g, 4, none⟩ = false
theorem res5 {g : Nat} {w : World} (h : w.heap[g]? = some (.cells #[.string ⟨#[]⟩, .slice none 0 0, .int .i64 0, .slice none 0 0, .int .i64 0] 34 (0, 0))) : RES5 g w := by
  unfold RES5
  simp [World.cell?, World.frozen?, h]
theorem function_any {B a : Nat} {L : List Tok} {E : Int} {n : Nat} {l : List Tok} (w : World) (h : Rdr B a L E n l w) (ht : Tabs w) (h2 : 2 <= a) :
    Calls Tryz.prog 103 #[.pointer (some ⟨a, 0, none⟩)] w (OutF B a L E (funG E n l) w) := by
  have hfd : ∀ (t a : Value) (w : World), Sem.run Tryz.prog (Instr.field 96 (.agg #[t, a]) 0) w = .ok t w := field_tok
  have hfd1 : ∀ (t a : Value) (w : World), Sem.run Tryz.prog (Instr.field 96 (.agg #[t, a]) 1) w = .ok a w := fun _ _ _ => rfl
  have HR0 := hide h
  have hsm := h.suffix
  have hBw := h.size
  have hb0 := below_box w (.cells #[.string ⟨#[]⟩, .slice none 0 0, .int .i64 0, .slice none 0 0, .int .i64 0] 34)
  have H0 := hide (((h.mono hBw (Nat.le_refl _)).step hb0).mono (Nat.le_succ _) (by simp))
  have T0 := hide (ht.below hb0)
  have HB0 := hide hb0
  have S0 : Hid ((w.alloc (.cells #[.string ⟨#[]⟩, .slice none 0 0, .int .i64 0, .slice none 0 0, .int .i64 0] 34)).heap[w.heap.size]? = some (.cells #[.string ⟨#[]⟩, .slice none 0 0, .int .i64 0, .slice none 0 0, .int .i64 0] 34 (0, 0))) := hide (heap_alloc_new w _)
  have HP := hide (fun_start E n l)
  clear h ht hb0
  go_enter Tryz.func103, Tryz.ntmps103
  go_upto_region 1 with fail
  show Code.wp _ _ _ _ (w.alloc (.cells #[.string ⟨#[]⟩, .slice none 0 0, .int .i64 0, .slice none 0 0, .int .i64 0] 34))
  generalize w.alloc (.cells #[.string ⟨#[]⟩, .slice none 0 0, .int .i64 0, .slice none 0 0, .int .i64 0] 34) = W0 at *
  go_wp2_with fail
  refine (peek0_any _ H0.out).mono ?_; rintro e w1 ⟨rfl, b1⟩
  have hz1 : w.heap.size + 1 <= w1.heap.size := Nat.le_trans H0.out.size b1.size
  have M : Hid (MidF w a w1.heap.size L E n ([], [], 0, [], atOf E l) l (w1.alloc (.cells #[.string ⟨#[]⟩, .slice none 0 0, .int .i64 0, .slice none 0 0, .int .i64 (atOf E l)] 34))) :=
    hide ⟨(H0.out.step b1).step (below_box w1 _), FunAt.new hz1 _, ((below_step b1 (below_box w1 _)).block _ (Array.getElem?_eq_some_iff.1 S0.out).1).trans S0.out, Kp.of_belowW (below_step HB0.out (below_step b1 (below_box w1 _))) (Nat.le_refl _), T0.out.below (below_step b1 (below_box w1 _)), h2⟩
  clear H0 T0 HB0 S0 b1
  go_upto_region 2 with fail
  show Code.wp _ _ _ _ (w1.alloc (.cells #[.string ⟨#[]⟩, .slice none 0 0, .int .i64 0, .slice none 0 0, .int .i64 (atOf E l)] 34))
  generalize w1.alloc (.cells #[.string ⟨#[]⟩, .slice none 0 0, .int .i64 0, .slice none 0 0, .int .i64 (atOf E l)] 34) = W1 at *
  generalize w1.heap.size = c at *
  go_wp2_with fail
  refine (itself_any [102, 117, 110, 99] (by simp) _ M.out.1).mono ?_; rintro e w2 ⟨k2, ⟨u2, l2, hx, rfl, r2⟩ | ⟨er, hx, rfl⟩⟩
  rotate_left
  . have HE := hide (HP.out.trans (then_no hx))
    have KE := hide (M.out.2.2.2.1.trans (k2.mono M.out.2.2.2.1.size))
    unfold thrown
    go_wp2_with fail
    exact bodyPost_thrown ⟨KE.out, .inr ⟨er, HE.out, rfl⟩⟩
  replace HP := hide (HP.out.trans (then_go hx))
  replace M := hide (M.out.kp k2 r2)
  clear k2 r2 hx
  go_wp2_with fail
  refine (name_any _ M.out.1).mono ?_; rintro e w3 ⟨k3, ⟨s, l3, hx, rfl, r3⟩ | ⟨er, hx, rfl⟩⟩
  rotate_left
  . have HE := hide (HP.out.trans (then_no hx))
    have KE := hide (M.out.2.2.2.1.trans (k3.mono M.out.2.2.2.1.size))
    unfold thrown
    go_wp2_with fail
    exact bodyPost_thrown ⟨KE.out, .inr ⟨er, HE.out, rfl⟩⟩
  replace HP := hide (HP.out.trans (then_go hx))
  replace M := hide (M.out.kp k3 r3)
  clear k3 r3 hx
  obtain ⟨⟨u0, c0⟩, _, _, z⟩ := M.out.cel
  have z0 := z 0
  clear z
  replace M := hide (M.out.put (M.out.2.1.name s))
  go_upto_region 4 with fail
  show Code.wp _ _ _ _ (w3.setCell ⟨c, 0, none⟩ (.string (bs s)))
  generalize w3.setCell ⟨c, 0, none⟩ (.string (bs s)) = W3 at *
  clear c0 z0
  go_wp2_with fail
  refine (itself_any [40] (by simp) _ M.out.1).mono ?_; rintro e w4 ⟨k4, ⟨u4, l4, hx, rfl, r4⟩ | ⟨er, hx, rfl⟩⟩
  rotate_left
  . have HE := hide (HP.out.trans (then_no hx))
    have KE := hide (M.out.2.2.2.1.trans (k4.mono M.out.2.2.2.1.size))
    unfold thrown
    go_wp2_with fail
    exact bodyPost_thrown ⟨KE.out, .inr ⟨er, HE.out, rfl⟩⟩
  replace HP := hide (HP.out.trans (then_go hx))
  replace M := hide (M.out.kp k4 r4)
  clear k4 r4 hx
  go_wp2_with fail
  refine (params_any _ M.out.1).mono ?_; rintro e w5 ⟨k5, ⟨p, l5, vp, hx, rfl, op, r5⟩ | ⟨er, hx, rfl⟩⟩
  rotate_left
  . have HE := hide (HP.out.trans (then_no hx))
    have KE := hide (M.out.2.2.2.1.trans (k5.mono M.out.2.2.2.1.size))
    unfold thrown
    go_wp2_with fail
    exact bodyPost_thrown ⟨KE.out, .inr ⟨er, HE.out, rfl⟩⟩
  replace HP := hide (HP.out.trans (then_go hx))
  have hlt5 := M.out.lt
  obtain ⟨aoP, mP, cP, rfl⟩ := own_slice op
  have op := own_base op (show w.heap.size + 1 <= _ by omega)
  replace M := hide (M.out.kp k5 r5)
  clear k5 r5 hx hlt5
  obtain ⟨_, ⟨u1, c1⟩, _, z⟩ := M.out.cel
  have z1 := z 1
  clear z
  replace M := hide (M.out.put (M.out.2.1.params op))
  clear op
  go_upto_region 6 with fail
  show Code.wp _ _ _ _ (w5.setCell ⟨c, 1, none⟩ (.slice aoP mP cP))
  generalize w5.setCell ⟨c, 1, none⟩ (.slice aoP mP cP) = W5 at *
  clear c1 z1
  go_wp2_with fail
  refine (itself_any [41] (by simp) _ M.out.1).mono ?_; rintro e w6 ⟨k6, ⟨u6, l6, hx, rfl, r6⟩ | ⟨er, hx, rfl⟩⟩
  rotate_left
  . have HE := hide (HP.out.trans (then_no hx))
    have KE := hide (M.out.2.2.2.1.trans (k6.mono M.out.2.2.2.1.size))
    unfold thrown
    go_wp2_with fail
    exact bodyPost_thrown ⟨KE.out, .inr ⟨er, HE.out, rfl⟩⟩
  replace HP := hide (HP.out.trans (then_go hx))
  replace M := hide (M.out.kp k6 r6)
  clear k6 r6 hx
  go_wp2_with fail
  refine (take_any _ M.out.1).mono ?_; rintro e w7 ⟨rfl, k7, r7⟩
  have X7 := hide (three_new w7)
  have B7 := hide (below_box w7 (.cells #[.int .i64 0, .int .i64 1, .int .i64 2] 3))
  have K7 := hide (M.out.2.2.2.1.trans (k7.mono M.out.2.2.2.1.size))
  go_wp2_with fail
  show Calls _ _ _ (w7.alloc (.cells #[.int .i64 0, .int .i64 1, .int .i64 2] 3)) _
  generalize w7.alloc (.cells #[.int .i64 0, .int .i64 1, .int .i64 2] 3) = W7 at *
  cases hk : threeKind (peek0 l6) with
  | none =>
    have HE := hide (HP.out.trans (then_no (answer_none hk)))
    refine (typeR_none X7.out hk).mono ?_; rintro e w8 ⟨rfl, b8⟩
    unfold thrown
    go_wp2_with fail
    exact bodyPost_thrown ⟨K7.out.trans (Kp.of_belowW (below_step B7.out b8) K7.out.size), .inr ⟨_, HE.out, rfl⟩⟩
  | some t =>
  have hl6 := three_ne hk
  replace HP := hide (HP.out.trans (then_go (answer_some hk)))
  refine (typeR_some X7.out hk).mono ?_; rintro e w8 ⟨rfl, b8⟩
  replace M := hide ((M.out.kp k7 (r7 hl6)).step (below_step B7.out b8))
  clear k7 r7 X7 B7 K7 b8 hk
  obtain ⟨_, _, ⟨u2, c2⟩, z⟩ := M.out.cel
  have z2 := z 2
  clear z
  replace M := hide (M.out.put (M.out.2.1.ret t))
  go_upto_region 8 with fail
  show Code.wp _ _ _ _ (w8.setCell ⟨c, 2, none⟩ (.int .i64 t))
  generalize w8.setCell ⟨c, 2, none⟩ (.int .i64 t) = W8 at *
  clear c2 z2
  go_wp2_with fail
  refine (itself_any [123] (by simp) _ M.out.1).mono ?_; rintro e w9 ⟨k9, ⟨u9, l9, hx, rfl, r9⟩ | ⟨er, hx, rfl⟩⟩
  rotate_left
  . have HE := hide (HP.out.trans (then_no hx))
    have KE := hide (M.out.2.2.2.1.trans (k9.mono M.out.2.2.2.1.size))
    unfold thrown
    go_wp2_with fail
    exact bodyPost_thrown ⟨KE.out, .inr ⟨er, HE.out, rfl⟩⟩
  replace HP := hide (HP.out.trans (then_go hx))
  replace M := hide (M.out.kp k9 r9)
  clear k9 r9 hx
  have hll9 := M.out.1.suffix.1.length_le
  obtain ⟨i0, hi0, hz0, hz1, hz2⟩ := info_parts Tryz.info36
  go_wp2_with fail
  go_loopw [] (fun wr => ∃ (f m : Nat) (acc : List (List Ins)) (l' : List Tok), MidF w a c L E m (s, p, t, acc, atOf E l) l' wr /\ acc.length <= 256 /\ l'.length < f /\ Hid (blkG E (l9.length + 1) n [] l9 = blkG E f m acc l')) (fun wr => L.length - readAt a wr)
  case atStart => exact ⟨l9.length + 1, n, [], l9, M.out, by simp, by omega, rfl⟩
  case round =>
    obtain ⟨f, m, acc, l', M5, h256, hlf, HM⟩ := hrel
    have hra := M5.1.readAt
    have hll := M5.1.suffix.1.length_le
    have M5 := hide M5
    obtain ⟨f, rfl⟩ : ∃ q, f = q + 1 := ⟨f - 1, by omega⟩
    have HN1 := hide (is_text (peek0 l') [125])
    go_wp2_with fail
    refine (peek0_any _ M5.out.1).mono ?_; rintro e w5 ⟨rfl, b5⟩
    have M6 := hide (M5.out.step b5)
    clear M5 b5
    by_cases hc1 : peek0 l' = [125]
    . have HE := hide (HP.out.trans (then_go (HM.out.trans (blk_stop hc1))))
      have hne : ((bs (peek0 l')).toList == [125]) = true := HN1.out.trans (decide_eq_true hc1)
      have hne2 : ((bs (peek0 l')).toList != [125]) = false := by rw [bne, hne]; rfl
      clear hc1 HN1
      go_wp2_with fail
      refine (itself_any [125] (by simp) _ M6.out.1).mono ?_; rintro e w6 ⟨k6, ⟨u6, l10, hx, rfl, r6⟩ | ⟨er, hx, rfl⟩⟩
      . have HF := hide (HE.out.trans (then_go hx))
        have M7 := hide (M6.out.kp k6 r6)
        clear M6 k6 r6 hx
        obtain ⟨vp, vb, HC, HZ, o1, o2⟩ := M7.out.2.1.cells
        have y0 := HC 0 _ rfl
        have y1 := HC 1 _ rfl
        have y2 := HC 2 _ rfl
        have y3 := HC 3 _ rfl
        have y4 := HC 4 _ rfl
        obtain ⟨aoA, mA, cA, rfl⟩ := own_slice o1
        obtain ⟨aoT, mT, cT, rfl⟩ := own_slice o2.choose_spec.1
        have hS := hide M7.out.2.2.1
        obtain ⟨s0, s1, s2, s3, s4, f0, f1, f2, f3, f4⟩ := res5 hS.out
        have hlt7 := M7.out.lt
        have hcn : c ≠ w.heap.size := by omega
        have FF := hide ((((((Far.refl w.heap.size w6).set 0 (.string (bs s))).set 1 (.slice aoA mA cA)).set 2 (.int .i64 t)).set 3 (.slice aoT mT cT)).set 4 (.int .i64 (atOf E l)))
        have KK := hide (M7.out.2.2.2.1.trans (FF.out.kp (B := w.heap.size) (a := a) (Nat.le_refl _) (by omega) (fun cs fz hc => by rw [hS.out] at hc; simp at hc)))
        have RR := hide (FF.out.rdr (HR0.out.lower M7.out.2.2.2.1 M7.out.1) hBw)
        have SS := (far_kind (B := w.heap.size + 1) FF.out hS.out (by decide)).trans (stay_base (Nat.le_succ _))
        have OO := hide (SS _ _ _ _ _ (by simp) o1)
        have OB := hide (o2.stay SS)
        clear HC HZ o1 o2 SS
        go_wp2_with fail
        exact bodyPost_ret (v := .agg (funCells (s, p, t, acc, atOf E l) (.slice aoA mA cA) (.slice aoT mT cT)).toArray) (by simp [results, Tryz.results103, go_sem, funCells, s0, s1, s2, s3, s4]) rfl ⟨KK.out, .inl ⟨(s, p, t, acc, atOf E l), m, l10, _, HF.out, rfl, ⟨_, _, rfl, OO.out, OB.out⟩, RR.out⟩⟩
      . have HF := hide (HE.out.trans (then_no hx))
        have KE := hide (M6.out.2.2.2.1.trans (k6.mono M6.out.2.2.2.1.size))
        unfold thrown
        go_wp2_with fail
        exact bodyPost_thrown ⟨KE.out, .inr ⟨er, HF.out, rfl⟩⟩
    have hne : ((bs (peek0 l')).toList == [125]) = false := HN1.out.trans (decide_eq_false hc1)
    have hne2 : ((bs (peek0 l')).toList != [125]) = true := by rw [bne, hne]; rfl
    replace hc1 := hide hc1
    clear HN1
    have hlt6 := M6.out.lt
    obtain ⟨vp, vb, hc6, hp6, ⟨vs, oB6, hR6⟩, hBc⟩ := M6.out.2.1
    obtain ⟨aoB, cB, rfl⟩ := own_len oB6
    have c3 : w5.cell? ⟨c, 3, none⟩ = some (.slice aoB acc.length cB) := by simp [World.cell?, hc6, funCells]
    have z3 : w5.frozen? ⟨c, 3, none⟩ = false := by simp [World.frozen?, hc6]
    clear hc6 hp6 oB6 hR6 vs
    by_cases h9 : acc.length < 256
    rotate_left
    . have HE := hide (HP.out.trans (then_no (HM.out.trans (blk_bad hc1.out (block_many (by omega))))))
      have h9a : ¬ (acc.length : Int) < 256 := by omega
      have h9b : (256 : Int) <= acc.length := by omega
      have h9c : decide ((acc.length : Int) < 256) = false := by simpa using h9b
      go_wp2_with fail
      go_region_with ((first
        | (go_at_call 102; refine (peek0_any _ M6.out.1.drew).mono ?_; rintro e w7 ⟨rfl, b7⟩; have c37 := (b7.cell (p := ⟨c, 3, none⟩) hlt6.2.2.1).trans c3)
        | (go_at_call 101; refine (need_no _ _ _ _).mono ?_; rintro e w8 ⟨rfl, b8⟩; refine step_done (P := Tryz.prog) (by exact bodyPost_thrown (P := Tryz.prog) (fn := Tryz.f103) ⟨M6.out.2.2.2.1.trans (Kp.of_belowW (below_step (Below.undrew (w := w5) b7) b8) M6.out.2.2.2.1.size), .inr ⟨_, HE.out, rfl⟩⟩) ?_)))
      all_goals trivial
    have h9a : (acc.length : Int) < 256 := by omega
    go_wp2_with fail
    go_region_held3 (fun w' => w'.cell? ⟨c, 3, none⟩ = some (.slice aoB acc.length cB))
      (first
        | (go_keep; done)
        | (exact (b7.cell (p := ⟨c, 3, none⟩) hlt6.2.2.1).trans (by assumption))
        | (exact (b8.cell (p := ⟨c, 3, none⟩) hcw7).trans (by assumption)))
      ((first
        | (go_at_call 102; refine (peek0_any _ M6.out.1.drew).mono ?_; rintro e w7 ⟨rfl, b7⟩; have hcw7 : c < w7.heap.size := Nat.lt_of_lt_of_le hlt6.2.2.1 b7.size)
        | (go_at_call 101; refine (need_ok _ _ _ _).mono ?_; rintro e w8 ⟨rfl, b8⟩)))
    have b7' : Below w5.heap.size w5 w7 := Below.undrew b7
    have M8 := hide (M6.out.step (below_step b7' b8))
    have c38 := ((below_step b7' b8).cell (p := ⟨c, 3, none⟩) hlt6.2.2.1).trans c3
    clear M6 c3 z3 b7 b7' b8 hcw7 hlt6 hBc vp
    have hlt8 := M8.out.lt
    obtain ⟨vp, vb, hc6, hp6, ⟨vs, oB6, hR6⟩, hBc⟩ := M8.out.2.1
    have evb : vb = .slice aoB acc.length cB := by
      have e : w8.cell? ⟨c, 3, none⟩ = some vb := by simp [World.cell?, hc6, funCells]
      rw [c38] at e
      exact (Option.some.inj e).symm
    subst evb
    have c3 := c38
    have z3 : w8.frozen? ⟨c, 3, none⟩ = false := by simp [World.frozen?, hc6]
    have hc6 := hide hc6
    have hp6 := hide hp6
    have oB6 := hide oB6
    have hR6 := hide hR6
    cases hblk : blockG E acc.length m l' with
    | error er =>
      have HE := hide (HP.out.trans (then_no (HM.out.trans (blk_bad hc1.out hblk))))
      go_wp2_with fail
      go_region_with ((first
        | (go_at_call 113; refine (block_err M8.out.1.drew (M8.out.2.2.2.2.1.below (below_drew w8)) h2 h9 hblk).mono ?_; rintro e w9 ⟨rfl, k9⟩; refine step_done (P := Tryz.prog) (by exact bodyPost_thrown (P := Tryz.prog) (fn := Tryz.f103) ⟨M8.out.2.2.2.1.trans (k9.undrew.mono M8.out.2.2.2.1.size), .inr ⟨er, HE.out, rfl⟩⟩) ?_)))
      all_goals trivial
    | ok q =>
      obtain ⟨⟨b, m'⟩, l''⟩ := q
      have hless := block_less hblk
      have HE := hide (HM.out.trans (blk_go hc1.out hblk))
      have hva2 : (Value.slice aoB acc.length cB).ownBlock ≠ some c := own_ne oB6.out hc6.out (by decide)
      go_wp2_with fail
      go_region_law ((first
        | (refine step_append_lies _ (by rfl) _ _ _ (by rfl) (w.heap.size + 1) 36 i0 _ 1 24 Tryz.underlying32 hi0 hz0 hz1 hz2 rfl (by omega) (.slice aoB acc.length cB) acc.length vs (by rfl) ((stay_kp k9.undrew (by omega) 36 1 _ _ _ (by simp) oB6.out).alloc _)
            ⟨w9.heap.size, 0, none⟩ 1 1 [.slice ao9 b.length cap9] (by rfl) (by rfl) one_cell one_slice (by omega) (by unfold maxLen; omega) (by omega) (by simp; omega) (w9.heap.size + 1) (by simp) ?_; intro gg cap w10 hown hgrow hat hlt; obtain ⟨c3b, z3b⟩ := Cel.grown hgrow (by simp; omega) hva2 c3a z3a)
        | (go_simp; go_at_call 113; refine (block_ok M8.out.1.drew (M8.out.2.2.2.2.1.below (below_drew w8)) h2 h9 hblk).mono ?_; rintro e w9 ⟨ao9, cap9, rfl, V9, k9, r9⟩; have s9 : w8.heap.size <= w9.heap.size := k9.size; obtain ⟨c39, z39⟩ := Cel.kp k9 (c := c) (i := 3) hlt8.2.2.1 (by omega) c3 z3; obtain ⟨c3a, z3a⟩ := Cel.below (below_box w9 (.cells #[.slice ao9 b.length cap9] 36)) (by omega) c39 z39)))
      all_goals
        have K9 : Kp w8.heap.size a w8 w9 := k9.undrew
        have St := (stay_kp (B := w.heap.size + 1) K9 (by omega)).trans (stay_below (below_box w9 (.cells #[.slice ao9 b.length cap9] 36)))
        have V9b : BlkVal (w.heap.size + 1) b (.slice ao9 b.length cap9) w9 := V9.base (by show w.heap.size + 1 <= w8.heap.size; omega)
        have FA := fun_append (x := (s, p, t, acc, atOf E l)) (b := b) ((heap_alloc_old w9 (.cells #[.slice ao9 b.length cap9] 36) (by omega)).trans ((K9.2.2.2.2 c hlt8.2.2.1 (by omega)).trans hc6.out)) (St 3 1 _ _ _ (by simp) hp6.out) (St 36 1 _ _ _ (by simp) oB6.out) (BRow.keep (fun _ _ h => h.stay St) _ _ hR6.out) (V9b.stay (stay_below (below_box w9 _))) hBc hown hgrow
        have RA := ((r9.step (below_box w9 (.cells #[.slice ao9 b.length cap9] 36))).grown hgrow (fun q hq => ((St 36 1 _ _ _ (by simp) oB6.out).lt q hq).1)).set (p := ⟨c, 3, none⟩) (by show _ <= c; omega) (.slice (some ⟨gg, 0, none⟩) (acc.length + 1) cap)
        have K10 := ((K9.andBelow (below_box w9 (.cells #[.slice ao9 b.length cap9] 36))).mono (show w.heap.size <= _ by omega)).grown hgrow (by simp; omega) (fun q hq => by have := ((St 36 1 _ _ _ (by simp) oB6.out).lt q hq).1; omega) (own_not80 (St 36 1 _ _ _ (by simp) oB6.out) (by decide))
        have hc9 := (heap_alloc_old w9 (.cells #[.slice ao9 b.length cap9] 36) (by omega)).trans ((K9.2.2.2.2 c hlt8.2.2.1 (by omega)).trans hc6.out)
        have hc10 := (hgrow.block c (by simp; omega) (fun e => hva2 e.symm)).trans hc9
        have F10 := (Far.refl c w10).set 3 (.slice (some ⟨gg, 0, none⟩) (acc.length + 1) cap)
        have K11 := (M8.out.2.2.2.1.trans K10).trans (F10.kp (B := w.heap.size) (a := a) (by omega) (by omega) (fun cs fz hc => by rw [hc10] at hc; simp at hc))
        have T9 := M8.out.2.2.2.2.1.kp K9 h2 (by omega)
        have hrow : ∀ q, (Value.slice aoB acc.length cB).ownBlock = some q -> w.heap.size + 1 <= q := fun q hq => ((St 36 1 _ _ _ (by simp) oB6.out).lt q hq).1
        have T10 := T9.grew (below_box w9 _) hgrow (fun q hq => by have := hrow q hq; omega)
        have T11 := T10.of (by rw [F10.2.2.2.1]; exact Nat.le_refl _) (F10.2.2.2.2 0 (by omega)) (F10.2.2.2.2 1 (by omega))
        have S9 := (heap_alloc_old w9 (.cells #[.slice ao9 b.length cap9] 36) (by omega)).trans ((K9.2.2.2.2 w.heap.size (by omega) (by omega)).trans M8.out.2.2.1)
        have S10 := (hgrow.block w.heap.size (by simp; omega) (fun e => by have := hrow _ e.symm; omega)).trans S9
        have S11 := (F10.2.2.2.2 w.heap.size (by omega)).trans S10
        have M11 : Hid (MidF w a c L E m' (s, p, t, acc ++ [b], atOf E l) l'' _) := hide ⟨RA, FA, S11, K11, T11, h2⟩
        have hra2 := M11.out.1.readAt
        have hll2 := M11.out.1.suffix.1.length_le
        clear RA FA S9 S10 S11 K9 K10 K11 T9 T10 T11 hc9 hc10 F10 V9 V9b k9 r9 hown hgrow c39 z39 c3a z3a
        go_wp2_with fail
        go_roundw
        case rel => exact ⟨f, m', acc ++ [b], l'', M11.out, by simp; omega, by omega, HE⟩
        case measure => rw [hra, hra2]; omega
end Go.Proofs.YtahhbckccdigoaaGreatDoor
namespace Go.Proofs.YtahhbckccdigoaaGreatDoor
open Go Go.RowKit
open G (Tok Er Ins Fun peek0 peek1 atOf)
def FRow (B : Nat) (w : World) : List Fun -> List Value -> Prop
  | [], cs => cs = []
  | x :: r, cs => ∃ vp vb rest, cs = funCells x vp vb ++ rest /\ w.ownsRow B 3 1 vp x.2.1.length (ints x.2.1) /\ BlksVal B x.2.2.2.1 vb w /\ FRow B w r rest
theorem FRow.stay {B B' : Nat} {w w' : World} (hs : Stay B B' w w') : ∀ (l : List Fun) (cs : List Value), FRow B w l cs -> FRow B' w' l cs := by
  intro l
  induction l with
  | nil => intro cs h; exact h
  | cons x r ih =>
    rintro cs ⟨vp, vb, rest, h1, h2, h3, h4⟩
    exact ⟨vp, vb, rest, h1, hs _ _ _ _ _ (by simp) h2, h3.stay hs, ih rest h4⟩
theorem FRow.snoc {B : Nat} {w : World} {x : Fun} {vp vb : Value} (h1 : w.ownsRow B 3 1 vp x.2.1.length (ints x.2.1)) (h2 : BlksVal B x.2.2.2.1 vb w) : ∀ (l : List Fun) (cs : List Value), FRow B w l cs -> FRow B w (l ++ [x]) (cs ++ funCells x vp vb) := by
  intro l
  induction l with
  | nil => intro cs h; cases h; exact ⟨vp, vb, [], by simp, h1, h2, rfl⟩
  | cons y r ih =>
    rintro cs ⟨ua, ut, rest, rfl, h4, h5, h6⟩
    exact ⟨ua, ut, rest ++ funCells x vp vb, by simp, h4, h5, ih rest h6⟩
def ProgVal (B : Nat) (xs : List Fun) (v : Value) (w : World) : Prop := ∃ cs, w.ownsRow B 34 5 v xs.length cs /\ FRow B w xs cs
abbrev fwG (E : Int) (f n : Nat) (acc : List Fun) : G.Rd (List Fun × Nat) := G.funW numF idxF namF shpF tksF fndF mksF prtF E f n acc
abbrev progG (E : Int) : G.Rd (List Fun × Nat) := G.program numF idxF namF shpF tksF fndF mksF prtF E
theorem fw_stop {E : Int} {f n : Nat} {acc : List Fun} : fwG E (f + 1) n acc [] = .ok ((acc, n), []) := by
  unfold fwG G.funW; rw [if_pos rfl]
theorem fw_many {E : Int} {f n : Nat} {acc : List Fun} {l : List Tok} (h : l ≠ []) (hn : 32 <= acc.length) : fwG E (f + 1) n acc l = .error (6, atOf E l) := by
  unfold fwG G.funW; rw [if_neg h, if_pos hn]
theorem fw_bad {E : Int} {f n : Nat} {acc : List Fun} {l : List Tok} {er : Er} (h : l ≠ []) (hn : acc.length < 32) (hi : funG E n l = .error er) : fwG E (f + 1) n acc l = .error er := by
  unfold fwG G.funW; rw [if_neg h, if_neg (by omega)]; show G.andThen (funG E n l) _ = _; rw [hi]; rfl
theorem fw_go {E : Int} {f n n' : Nat} {acc : List Fun} {l l' : List Tok} {x : Fun} (h : l ≠ []) (hn : acc.length < 32) (hi : funG E n l = .ok ((x, n'), l')) : fwG E (f + 1) n acc l = fwG E f n' (acc ++ [x]) l' := by
  conv => lhs; unfold fwG G.funW
  rw [if_neg h, if_neg (by omega)]; show G.andThen (funG E n l) _ = _; rw [hi]; rfl
theorem fun_ok {B a : Nat} {L : List Tok} {E : Int} {n n' : Nat} {l l' : List Tok} {x : Fun} {w : World} (h : Rdr B a L E n l w) (ht : Tabs w) (h2 : 2 <= a) (hr : funG E n l = .ok ((x, n'), l')) :
    Calls Tryz.prog 103 #[.pointer (some ⟨a, 0, none⟩)] w fun e w' => ∃ ao m c ap m2 c2, e = .returned (.agg (funCells x (.slice ao m c) (.slice ap m2 c2)).toArray) /\ w'.ownsRow w.heap.size 3 1 (.slice ao m c) x.2.1.length (ints x.2.1) /\ BlksVal w.heap.size x.2.2.2.1 (.slice ap m2 c2) w' /\ Kp w.heap.size a w w' /\ Rdr B a L E n' l' w' :=
  (function_any w h ht h2).mono fun e w' ⟨k1, hh⟩ => by
    rcases hh with ⟨y, m, l2, v, hx, rfl, ⟨vp, vb, rfl, o1, o2⟩, r⟩ | ⟨er, hx, _⟩
    . rw [hr] at hx
      cases hx
      obtain ⟨ao, m, c, rfl⟩ := own_slice o1
      obtain ⟨ap, m2, c2, rfl⟩ := own_slice o2.choose_spec.1
      exact ⟨ao, m, c, ap, m2, c2, rfl, o1, o2, k1, r⟩
    . rw [hr] at hx; cases hx
theorem fun_err {B a : Nat} {L : List Tok} {E : Int} {n : Nat} {l : List Tok} {er : Er} {w : World} (h : Rdr B a L E n l w) (ht : Tabs w) (h2 : 2 <= a) (hr : funG E n l = .error er) :
    Calls Tryz.prog 103 #[.pointer (some ⟨a, 0, none⟩)] w fun e w' => e = thrown er.1 er.2 /\ Kp w.heap.size a w w' :=
  (function_any w h ht h2).mono fun e w' ⟨k1, hh⟩ => by
    rcases hh with ⟨y, m, l2, v, hx, _⟩ | ⟨er2, hx, rfl⟩
    . rw [hr] at hx; cases hx
    . rw [hr] at hx; cases hx; exact ⟨rfl, k1⟩
theorem Tryz.info34 : (Tryz.prog.info? 34).map (fun i => (i.zero, i.size, i.bytes)) = some (some (.agg #[.string ⟨#[]⟩, .slice none 0 0, .int .i64 0, .slice none 0 0, .int .i64 0]), 5, 80) := by kernel_rfl
theorem five_cell {w : World} {x : Fun} {vp vb : Value} : ∀ (j : Nat) (u : Value), (funCells x vp vb)[j]? = some u -> (w.alloc (.cells (funCells x vp vb).toArray 34)).cell? ((⟨w.heap.size, 0, none⟩ : Addr).add j) = some u :=
  World.news_of_block (cs := (funCells x vp vb).toArray) (heap_alloc_new w _)
theorem five_one {x : Fun} {ao ap : Option Addr} {m n c d : Nat} : ∀ u ∈ funCells x (.slice ao m c) (.slice ap n d), u.oneCell' = true := by
  intro u hu
  simp only [funCells, List.mem_cons, List.not_mem_nil, or_false] at hu
  rcases hu with rfl | rfl | rfl | rfl | rfl <;> rfl
theorem blk_len {E : Int} : ∀ (f n : Nat) (acc : List (List Ins)) (l : List Tok) (v : List (List Ins) × Nat) (r : List Tok), blkG E f n acc l = .ok (v, r) -> r.length <= l.length := by
  intro f
  induction f with
  | zero => intro n acc l v r h; cases h; exact Nat.le_refl _
  | succ f ih =>
    intro n acc l v r h
    by_cases hc : peek0 l = [125]
    . rw [blk_stop hc] at h; cases h; exact Nat.le_refl _
    . cases hi : blockG E acc.length n l with
      | error er => rw [blk_bad hc hi] at h; cases h
      | ok q =>
        obtain ⟨⟨b, n'⟩, l1⟩ := q
        rw [blk_go hc hi] at h
        have := ih _ _ _ _ _ h
        have := block_less hi
        omega
theorem fun_less {E : Int} {n n' : Nat} {l l' : List Tok} {x : Fun} (h : funG E n l = .ok ((x, n'), l')) : l'.length < l.length := by
  obtain ⟨u1, l1, h1, h⟩ := G.then_ok h
  obtain ⟨s, l2, h2, h⟩ := G.then_ok h
  obtain ⟨u3, l3, h3, h⟩ := G.then_ok h
  obtain ⟨p, l4, h4, h⟩ := G.then_ok h
  obtain ⟨u5, l5, h5, h⟩ := G.then_ok h
  obtain ⟨t, l6, h6, h⟩ := G.then_ok h
  obtain ⟨u7, l7, h7, h⟩ := G.then_ok h
  obtain ⟨b, l8, h8, h⟩ := G.then_ok h
  obtain ⟨u9, l9, h9, h⟩ := G.then_ok h
  cases h
  have s1 := (G.want_sim (d := 0) (m := []) (E' := E) (by simp) l u1 l1 h1).1.length_le
  have s2 := (G.name_sim (d := 0) (m := []) (E' := E) nam_nil l1 s l2 h2).1.length_le
  have s3 := (G.want_sim (d := 0) (m := []) (E' := E) (by simp) l2 u3 l3 h3).1.length_le
  have s4 := (G.params_sim (d := 0) (m := []) (E' := E) l3 p l4 h4).1.length_le
  have s5 := (G.want_sim (d := 0) (m := []) (E' := E) (by simp) l4 u5 l5 h5).1.length_le
  have s6 := (G.answer_sim (d := 0) (m := []) (E' := E) l5 t l6 h6).1.length_le
  have s7 := (G.want_sim (d := 0) (m := []) (E' := E) (by simp) l6 u7 l7 h7).1.length_le
  obtain ⟨g1, g2, _⟩ := G.want_ok (by simp) h9
  have s8 := blk_len _ _ _ _ _ _ h8
  have := tail_bulk g1
  rw [g2] at *
  omega
def MidP (w : World) (a c : Nat) (L : List Tok) (E : Int) (n : Nat) (xs : List Fun) (l : List Tok) (wk : World) : Prop :=
  Rdr (w.heap.size + 1) a L E n l wk /\ (∃ v, wk.heap[c]? = some (.cells #[v] 24 (0, 0)) /\ ProgVal (w.heap.size + 1) xs v wk) /\ wk.heap[w.heap.size]? = some (.cells #[.slice none 0 0] 24 (0, 0)) /\ Kp w.heap.size a w wk /\ Tabs wk /\ 2 <= a /\ w.heap.size < c
theorem MidP.lt {w : World} {a c : Nat} {L : List Tok} {E : Int} {n : Nat} {xs : List Fun} {l : List Tok} {wk : World} (h : MidP w a c L E n xs l wk) : a < w.heap.size /\ w.heap.size < c /\ c < wk.heap.size /\ w.heap.size < wk.heap.size := by
  obtain ⟨h1, ⟨v, h2, _⟩, h3, h4, h5, h6, h7⟩ := h
  have := h1.suffix.2.2.2
  have := (Array.getElem?_eq_some_iff.1 h2).1
  have hne : a ≠ w.heap.size := by
    intro e
    obtain ⟨v, hv, _⟩ := h1
    rw [e, h3] at hv
    simp at hv
  have := (Array.getElem?_eq_some_iff.1 h3).1
  omega
theorem MidP.kp {w : World} {a c : Nat} {L : List Tok} {E : Int} {n n' : Nat} {xs : List Fun} {l l' : List Tok} {wk wk' : World} (h : MidP w a c L E n xs l wk) (k : Kp wk.heap.size a wk wk') (r : Rdr (w.heap.size + 1) a L E n' l' wk') : MidP w a c L E n' xs l' wk' := by
  have hl := h.lt
  obtain ⟨h1, ⟨v, h2, cs, h8, h9⟩, h3, h4, h5, h6, h7⟩ := h
  exact ⟨r, ⟨v, (k.2.2.2.2 _ (by omega) (by omega)).trans h2, cs, own_kept k (by omega) _ _ _ _ _ h8, FRow.stay (stay_kp k (by omega)) _ _ h9⟩, (k.2.2.2.2 _ (by omega) (by omega)).trans h3, h4.trans (k.mono h4.size), h5.kp k h6 (by omega), h6, h7⟩
theorem MidP.step {w : World} {a c : Nat} {L : List Tok} {E : Int} {n : Nat} {xs : List Fun} {l : List Tok} {wk wk' : World} (h : MidP w a c L E n xs l wk) (b : Below wk.heap.size wk wk') : MidP w a c L E n xs l wk' :=
  h.kp (Kp.of_belowW b (Nat.le_refl _)) (h.1.step b)
def OutP (a : Nat) (r : Except Er ((List Fun × Nat) × List Tok)) (w : World) (e : Ending) (w' : World) : Prop :=
  Kp w.heap.size a w w' /\ ((∃ xs n l' v, r = .ok ((xs, n), l') /\ e = .returned (.agg #[v]) /\ ProgVal w.heap.size xs v w') \/ ∃ er : Er, r = .error er /\ e = thrown er.1 er.2)
theorem Rdr.words {B a : Nat} {L : List Tok} {E : Int} {n : Nat} {l : List Tok} {w : World} (h : Rdr B a L E n l w) : ∃ ao cap, w.cell? ⟨a, 0, none⟩ = some (.slice ao L.length cap) /\ w.cell? ⟨a, 1, none⟩ = some (.int .i64 ((L.length - l.length : Nat) : Int)) := by
  obtain ⟨v, h1, h2, _⟩ := h
  obtain ⟨ao, cap, rfl⟩ := own_len h2
  exact ⟨ao, cap, by simp [World.cell?, h1], by simp [World.cell?, h1]⟩
end Go.Proofs.YtahhbckccdigoaaGreatDoor
