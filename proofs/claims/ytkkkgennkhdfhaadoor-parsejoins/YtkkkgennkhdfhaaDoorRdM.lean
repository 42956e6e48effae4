/- An instruction is read: behind its value. -/
import Derived.Test.YtkkkgennkhdfhaaDoorRdL
namespace Go.Proofs.YtkkkgennkhdfhaaDoor
open Go Go.RowKit
open G (Tok Er Ins Fun peek0 peek1 atOf)

/-- What the reading of an instruction answers. -/
def OutI (B a : Nat) (L : List Tok) (E : Int) (n : Nat) (r : Except Er (Ins × List Tok)) (w : World) (e : Ending) (w' : World) : Prop :=
  Kp w.heap.size a w w' ∧ ((∃ x l' v, r = .ok (x, l') ∧ e = .returned v ∧ InsVal w.heap.size x v w' ∧ Rdr B a L E n l' w') ∨ ∃ er : Er, r = .error er ∧ e = thrown er.1 er.2)
set_option maxHeartbeats 2000000 in
set_option maxRecDepth 20000 in
theorem instr_no {B a : Nat} {L : List Tok} {E : Int} {n : Nat} {l : List Tok} (w : World) (h : Rdr B a L E n l w) (ht : Tabs w) (h2 : 2 ≤ a) (hn : ¬ peek1 l = [61]) :
    Calls Tryd.prog 45 #[.pointer (some ⟨a, 0, none⟩)] w (OutI B a L E n (instrP E l) w) := by
  have hfd : ∀ (t a : Value) (w : World), Sem.run Tryd.prog (Instr.field 53 (.agg #[t, a]) 0) w = .ok t w := field_tok
  have hfd1 : ∀ (t a : Value) (w : World), Sem.run Tryd.prog (Instr.field 53 (.agg #[t, a]) 1) w = .ok a w := fun _ _ _ => rfl
  have hsm := h.suffix
  have hBw := h.size
  have hb0 := below_box w (.cells #[.int .i64 0, .int .i64 0, .int .i64 0, .int .i64 0, .slice none 0 0, .slice none 0 0, .string ⟨#[]⟩, .int .i64 0] 38)
  have H0 := hide (((h.mono hBw (Nat.le_refl _)).step hb0).mono (Nat.le_succ _) (by simp))
  have T0 := hide (ht.below hb0)
  have HB0 := hide hb0
  have S0 : Hid ((w.alloc (.cells #[.int .i64 0, .int .i64 0, .int .i64 0, .int .i64 0, .slice none 0 0, .slice none 0 0, .string ⟨#[]⟩, .int .i64 0] 38)).heap[w.heap.size]? = some (.cells #[.int .i64 0, .int .i64 0, .int .i64 0, .int .i64 0, .slice none 0 0, .slice none 0 0, .string ⟨#[]⟩, .int .i64 0] 38 (0, 0))) := hide (heap_alloc_new w _)
  have HN : ((bs (peek1 l)).toList == [61]) = false := (is_text (peek1 l) [61]).trans (decide_eq_false hn)
  have HP : Hid (instrP E l = instrQ E (atOf E l) (-1) l) := hide (by unfold instrP; rw [ident_no hn]; rfl)
  have HR0 := hide h
  clear h ht hb0 hn
  go_enter Tryd.func45, Tryd.ntmps45
  go_upto_region 1 with fail
  show Code.wp _ _ _ _ (w.alloc (.cells #[.int .i64 0, .int .i64 0, .int .i64 0, .int .i64 0, .slice none 0 0, .slice none 0 0, .string ⟨#[]⟩, .int .i64 0] 38))
  generalize w.alloc (.cells #[.int .i64 0, .int .i64 0, .int .i64 0, .int .i64 0, .slice none 0 0, .slice none 0 0, .string ⟨#[]⟩, .int .i64 0] 38) = W0 at *
  go_wp2_with fail
  refine (peek0_any _ H0.out).mono ?_; rintro e w1 ⟨rfl, b1⟩
  have hz1 : w.heap.size + 1 ≤ w1.heap.size := Nat.le_trans H0.out.size b1.size
  have M0 : Hid (Mid w a w1.heap.size L E n (0, -1, 0, 0, [], [], [], atOf E l) l (w1.alloc (.cells #[.int .i64 0, .int .i64 (-1), .int .i64 0, .int .i64 0, .slice none 0 0, .slice none 0 0, .string ⟨#[]⟩, .int .i64 (atOf E l)] 38))) :=
    hide ⟨(H0.out.step b1).step (below_box w1 _), InsAt.new hz1 _, ((below_step b1 (below_box w1 _)).block _ (Array.getElem?_eq_some_iff.1 S0.out).1).trans S0.out, Kp.of_belowW (below_step HB0.out (below_step b1 (below_box w1 _))) (Nat.le_refl _), T0.out.below (below_step b1 (below_box w1 _)), by have := hsm.1.length_le; simp [bulk]; omega, h2⟩
  clear H0 T0 HB0 S0 b1
  go_upto_region 2 with fail
  show Code.wp _ _ _ _ (w1.alloc (.cells #[.int .i64 0, .int .i64 (-1), .int .i64 0, .int .i64 0, .slice none 0 0, .slice none 0 0, .string ⟨#[]⟩, .int .i64 (atOf E l)] 38))
  generalize w1.alloc (.cells #[.int .i64 0, .int .i64 (-1), .int .i64 0, .int .i64 0, .slice none 0 0, .slice none 0 0, .string ⟨#[]⟩, .int .i64 (atOf E l)] 38) = W1 at *
  generalize w1.heap.size = c at *
  go_wp2_with fail
  refine (peek1_any _ M0.out.1).mono ?_; rintro e w1 ⟨z, rfl, b1⟩
  have M := hide (M0.out.step b1)
  clear M0 b1
  have hlt := M.out.lt
  have hbi : Hid (false = decide ((0 : Int) ≤ -1)) := hide (by decide)

  go_wp2_with fail
  refine (take_any _ M.out.1).mono ?_; rintro e w1 ⟨rfl, k1, r1⟩
  have P1 := hide (Pair.new w1 53 (a := .string (bs (peek0 l))) (b := .int .i64 (atOf E l)))
  have K1 := hide (M.out.2.2.2.1.trans ((k1.andBelow (below_box w1 (tokBox l E))).mono M.out.2.2.2.1.size))
  have M1 := hide (fun hl : l ≠ [] => ((M.out.took k1 (r1 hl) (by have := tail_bulk hl; omega)).step (below_box w1 (tokBox l E))))
  have I1 := hide ((M.out.2.1.kp k1 (by omega)).step (below_box w1 (tokBox l E)))
  have T1 := hide ((M.out.2.2.2.2.1.kp k1 h2 (by omega)).below (below_box w1 (tokBox l E)))
  have hcw : c < w1.heap.size := Nat.lt_of_lt_of_le hlt.2.2.1 k1.size
  have hsh := M.out.1.short
  clear k1 r1 M
  go_upto_region 7 with fail
  show Code.wp _ _ _ _ (w1.alloc (tokBox l E))
  generalize w1.alloc (tokBox l E) = W1 at *
  generalize w1.heap.size = tb at *
  obtain ⟨o, ho⟩ : ∃ o, fndF (peek0 l) = o := ⟨_, rfl⟩
  have hor := fnd_range (peek0 l)
  rw [ho] at hor
  obtain ⟨op, ty⟩ := o
  have ho := hide ho
  obtain ⟨p0, p1, p2, p3, p4⟩ := P1.out
  go_wp2_with fail
  refine (find_as (peek0 l) (op, ty) _ T1.out.2 ho.out).mono ?_; rintro e w2 ⟨rfl, b2⟩
  have P2 := hide (P1.out.below b2)
  have I2 := hide (I1.out.step b2)
  have M2 := hide (fun hl => (M1.out hl).step b2)
  have K2 := hide (K1.out.trans (Kp.of_belowW b2 K1.out.size))
  have T2 := hide (T1.out.below b2)
  clear P1 I1 M1 K1 T1 p0 p1 p2 p3 p4
  obtain ⟨va, vt, HC, HZ, _⟩ := I2.out.cells
  have c0 := HC 0 _ rfl
  have c3 := HC 3 _ rfl
  have z0 := HZ 0
  have z3 := HZ 3
  have hc2 : c < w2.heap.size := I2.out.lt.1
  have F3 := (Far.refl c w2).set 0 (.int .i64 op) |>.set 3 (.int .i64 ty)
  have P3 := hide (P2.out.far F3 (by omega))
  have I3 := hide ((I2.out.setOp op).setTy ty)
  have M3 := hide (fun hl => ((M2.out hl).put ((M2.out hl).2.1.setOp op) rfl).put (((M2.out hl).2.1.setOp op).setTy ty) rfl)
  have K3 := hide (K2.out.trans (F3.kp (B := w.heap.size) (a := a) (by omega) (by omega) (I2.out.never80)))
  have T3 := hide (T2.out.of (by rw [F3.2.2.2.1]; exact Nat.le_refl _) (F3.2.2.2.2 0 (by omega)) (F3.2.2.2.2 1 (by omega)))
  clear HC HZ F3 I2 M2 K2 T2
  go_upto_region 8 with fail
  show Code.wp _ _ _ _ ((w2.setCell ⟨c, 0, none⟩ (.int .i64 op)).setCell ⟨c, 3, none⟩ (.int .i64 ty))
  generalize (w2.setCell ⟨c, 0, none⟩ (.int .i64 op)).setCell ⟨c, 3, none⟩ (.int .i64 ty) = W3 at *
  clear c0 c3 z0 z3 hc2 b2
  have d0 : W3.cell? ⟨c, 0, none⟩ = some (.int .i64 op) := by
    obtain ⟨_, _, HC, _⟩ := I3.out.cells
    exact HC 0 _ rfl
  obtain ⟨p0, p1, p2, p3, p4⟩ := P3.out
  by_cases hop : op = 0
  · have HPz := hide (HP.out.trans (instrQ_zero ho.out hop))
    subst hop
    go_wp2_with fail
    refine (need_no _ _ _ _).mono ?_; rintro e w4 ⟨rfl, b4⟩
    unfold thrown
    go_wp2_with fail
    exact bodyPost_thrown ⟨K3.out.trans (Kp.of_belowW b4 K3.out.size), .inr ⟨_, HPz.out, rfl⟩⟩
  have hop' : (op == 0) = false := by simpa using hop
  have hop2 : (op != 0) = true := by simpa using hop
  have hop3 : decide (op = 0) = false := by simpa using hop
  have hor' : 1 ≤ op ∧ op ≤ 29 := by
    rcases hor with h | h
    · exact absurd h hop
    · exact h
  clear hor
  have hl1 : l ≠ [] := good_ne l op ty ho.out hop
  go_wp2_with fail
  refine (need_ok _ _ _ _).mono ?_; rintro e w4 ⟨rfl, b4⟩
  have P4 := hide (P3.out.below b4)
  have M4 := hide ((M3.out hl1).step b4)
  have K4 := hide (K3.out.trans (Kp.of_belowW b4 K3.out.size))
  clear P3 I3 M3 K3 T3 d0 p0 p1 p2 p3 p4 b4
  obtain ⟨va, vt, HC, HZ, _⟩ := M4.out.2.1.cells
  have x0 : w4.cell? ⟨c, 0, none⟩ = some (.int .i64 op) := HC 0 _ rfl
  have x1 : w4.cell? ⟨c, 1, none⟩ = some (.int .i64 (-1)) := HC 1 _ rfl
  have x2 : w4.cell? ⟨c, 2, none⟩ = some (.int .i64 0) := HC 2 _ rfl
  have x3 : w4.cell? ⟨c, 3, none⟩ = some (.int .i64 ty) := HC 3 _ rfl
  have x4 : w4.cell? ⟨c, 4, none⟩ = some va := HC 4 _ rfl
  have x5 : w4.cell? ⟨c, 5, none⟩ = some vt := HC 5 _ rfl
  have x6 : w4.cell? ⟨c, 6, none⟩ = some (.string (bs [])) := HC 6 _ rfl
  have x7 : w4.cell? ⟨c, 7, none⟩ = some (.int .i64 (atOf E l)) := HC 7 _ rfl
  obtain ⟨p0, p1, p2, p3, p4⟩ := P4.out
  have hc4 : c < w4.heap.size := M4.out.lt.2.2.1
  clear HC HZ
  obtain ⟨mk, hmk⟩ : ∃ mk, mksF op ty = mk := ⟨_, rfl⟩
  by_cases hm : mk = 0
  · -- the word fits
    have HPg := hide (HP.out.trans (instrQ_good ho.out hop hmk (by rw [← hbi.out]; simp [hm])))
    have hmb : (mk == 0) = true := by rw [hm]; rfl
    have hmb2 : (mk != 0) = false := by rw [hm]; rfl
    replace hm := hide hm
    go_wp2_with fail
    go_region_with ((first
      | (go_at_call 49; refine (makes_as op ty mk _ _ _ _ _ _ _ (M4.out.2.2.2.2.1.below (below_drew w4)).2 hmk).mono ?_; rintro e w5 ⟨rfl, b5⟩; obtain ⟨q0, q1, q2, q3, q4⟩ := P4.out.below (Below.undrew b5))
      | (go_at_call 31; refine (need_ok _ _ _ _).mono ?_; rintro e w6 ⟨rfl, b6⟩)))
    all_goals
      have M6 := hide (M4.out.step (below_step (Below.undrew b5) b6))
      clear b5 b6 q0 q1 q2 q3 q4
      have y0 := M6.out.cells.1
      go_wp2_with fail
      refine (operands_any op hor' a _ M6.out.2.2.2.2.1.2).mono ?_; rintro e w7 ⟨b7, g, cap, cs, fz, rfl, hm1, hm2, hm3, HG, hcs⟩
      replace HG := hide HG
      replace hcs := hide hcs
      have M7 := hide (M6.out.step b7)
      clear M6 b7 y0
      have hml : ((waysN op).map (fv a)).length = (waysN op).length := List.length_map _
      rw [hml] at hm1
      rw [hml]
      have hm8 : (waysN op).length ≤ 8 := Nat.le_trans hm1 hm2
      clear P4 M4 K4 x0 x1 x2 x3 x4 x5 x6 x7 p0 p1 p2 p3 p4 hc4 hmb hmb2 hop' hop2 hop3 hml hm3
      go_wp2_with fail
      go_loopw [50] (fun i wr => ∃ (k : Nat) (x' : Ins) (l' : List Tok), i = .int .i64 k ∧ k ≤ (waysN op).length ∧ Mid w a c L E n x' l' wr ∧ Hid (wr.heap[g]? = some (.cells cs 80 fz)) ∧ Hid (instrP E l = runW E ((waysN op).drop k) x' l')) (fun i _ => (waysN op).length - (intOf i).toNat)
      case atStart => exact ⟨0, _, _, rfl, Nat.zero_le _, M7.out, HG, HPg⟩
      case round =>
        obtain ⟨k, x', l', rfl, hk, M8, HG8, HP8⟩ := hrel
        have M8 := hide M8
        by_cases hlk : k < (waysN op).length
        · obtain ⟨kk, hkk⟩ : ∃ kk, (waysN op)[k]? = some kk := ⟨_, List.getElem?_eq_getElem hlk⟩
          have hr := waysN_range op hor' kk (List.mem_of_getElem? hkk)
          have hcell : wr.cell? ⟨g, k, none⟩ = some (.func (Fn.func kk) #[.pointer (some ⟨a, 0, none⟩)] #[]) := by
            simp only [World.cell?, HG8.out]
            exact hcs.out k _ (by rw [List.getElem?_map, hkk]; rfl)
          have HP9 := hide (HP8.out.trans (run_drop hkk))
          have hlk' : (k : Int) < (waysN op).length := by omega
          have hlk2 : k < cap := by omega
          have hcf := enter_way kk hr
          go_wp2_with fail
          refine (way_any kk hr _ M8.out.1 M8.out.2.1 M8.out.2.2.2.2.1 h2 M8.out.2.2.2.2.2.1).mono ?_; rintro e w8 ⟨k8, ⟨x8, l8, hx, rfl, r8, i8⟩ | ⟨er, hx, rfl⟩⟩ <;> replace hx := hide hx
          · have hb8 := Nat.le_trans (wayW_bulk hx.out) M8.out.2.2.2.2.2.1
            have M9 := hide (M8.out.stepped k8 r8 i8 hb8)
            have HG9 := hide (k8.1.2 _ _ _ HG8.out)
            have HP10 := hide (HP9.out.trans (by rw [hx.out]; first | done | rfl))
            clear k8 r8 i8
            go_wp2_with fail
            go_roundw
            case rel => exact ⟨k + 1, x8, l8, by go_num, by omega, M9.out, HG9, HP10⟩
            case measure => simp [intOf]; omega
          · have HP10 := hide (HP9.out.trans (by rw [hx.out]; rfl : _ = Except.error er))
            have K9 := hide (M8.out.2.2.2.1.trans (k8.mono (Nat.le_succ _)))
            unfold thrown
            go_wp2_with fail
            exact bodyPost_thrown ⟨K9.out, .inr ⟨er, HP10.out, rfl⟩⟩
        · have hk2 : k = (waysN op).length := by omega
          have HPd : Hid (instrP E l = .ok (x', l')) := hide (HP8.out.trans (by rw [hk2, List.drop_length]; rfl))
          obtain ⟨va', vt', HC, HZ, o1, o2, o3⟩ := M8.out.2.1.cells
          obtain ⟨aoA, mA, cA, rfl⟩ := own_slice o1
          obtain ⟨aoT, mT, cT, rfl⟩ := own_slice o2
          have y0 := HC 0 _ rfl
          have y1 := HC 1 _ rfl
          have y2 := HC 2 _ rfl
          have y3 := HC 3 _ rfl
          have y4 := HC 4 _ rfl
          have y5 := HC 5 _ rfl
          have y6 := HC 6 _ rfl
          have y7 := HC 7 _ rfl
          have hS := M8.out.2.2.1
          obtain ⟨o3a, o3b⟩ := o3 w.heap.size ⟨_, _, hS⟩
          have hS := hide hS
          have o1 := hide o1
          have o2 := hide o2
          clear HC HZ o3
          have hres : RES8 w.heap.size wr := res8 hS.out
          obtain ⟨s0, s1, s2, s3, s4, s5, s6, s7, f0, f1, f2, f3, f4, f5, f6, f7⟩ := hres
          have hcn : c ≠ w.heap.size := by have := M8.out.lt; omega
          have FF := hide (((((((((Far.refl w.heap.size wr).set 0 (.int .i64 x'.1)).set 1 (.int .i64 x'.2.1)).set 2 (.int .i64 x'.2.2.1)).set 3 (.int .i64 x'.2.2.2.1)).set 4 (.slice aoA mA cA)).set 5 (.slice aoT mT cT)).set 6 (.string (bs x'.2.2.2.2.2.2.1))).set 7 (.int .i64 x'.2.2.2.2.2.2.2))
          have KK := hide (M8.out.2.2.2.1.trans (FF.out.kp (B := w.heap.size) (a := a) (Nat.le_refl _) (by omega) (fun cs fz hc => by rw [hS.out] at hc; simp at hc)))
          have RR := hide (FF.out.rdr (HR0.out.lower M8.out.2.2.2.1 M8.out.1) hBw)
          have OO := hide (⟨own_base (FF.out.own o1.out o3a) (Nat.le_succ _), own_base (FF.out.own o2.out o3b) (Nat.le_succ _)⟩ : _ ∧ _)
          go_wp2_with fail
          exact bodyPost_ret (v := .agg (insCells x' (.slice aoA mA cA) (.slice aoT mT cT)).toArray) (by simp [results, Tryd.results45, go_sem, insCells, s0, s1, s2, s3, s4, s5, s6, s7]) rfl ⟨KK.out, .inl ⟨x', l', _, HPd.out, rfl, ⟨_, _, rfl, OO.out.1, OO.out.2⟩, RR.out⟩⟩
  · -- the word does not fit
    have HPz := hide (HP.out.trans (instrQ_bad ho.out hop hmk (by rw [← hbi.out]; simp [hm])))
    have hmb : (mk == 0) = false := by simpa using hm
    have hmb2 : (mk != 0) = true := by simpa using hm
    replace hm := hide hm
    go_wp2_with fail
    go_region_with ((first
      | (go_at_call 49; refine (makes_as op ty mk _ _ _ _ _ _ _ (M4.out.2.2.2.2.1.below (below_drew w4)).2 hmk).mono ?_; rintro e w5 ⟨rfl, b5⟩; obtain ⟨q0, q1, q2, q3, q4⟩ := P4.out.below (Below.undrew b5))
      | (go_at_call 31; refine (need_no _ _ _ _).mono ?_; rintro e w6 ⟨rfl, b6⟩; refine step_done (P := Tryd.prog) (by exact bodyPost_thrown ⟨K4.out.trans (Kp.of_belowW (below_step (Below.undrew b5) b6) K4.out.size), .inr ⟨_, HPz.out, rfl⟩⟩) ?_)))
    all_goals trivial
end Go.Proofs.YtkkkgennkhdfhaaDoor
