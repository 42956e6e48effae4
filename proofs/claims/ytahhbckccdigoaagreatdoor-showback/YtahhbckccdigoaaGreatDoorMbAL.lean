/- An instruction is read: with a value ahead. -/
import Derived.Test.YtahhbckccdigoaaGreatDoorMbAK
set_option maxHeartbeats 8000000
set_option maxRecDepth 20000
namespace Go.Proofs.YtahhbckccdigoaaGreatDoor
open Go Go.RowKit
open G (Tok Er Ins Fun peek0 peek1 atOf)
theorem instr_yes {B a : Nat} {L : List Tok} {E : Int} {n : Nat} {l : List Tok} (w : World) (h : Rdr B a L E n l w) (ht : Tabs w) (h2 : 2 <= a) (hn : peek1 l = [61]) :
    Calls Tryz.prog 125 #[.pointer (some ⟨a, 0, none⟩)] w (OutI B a L E n (instrP E l) w) := by
  have hfd : ∀ (t a : Value) (w : World), Sem.run Tryz.prog (Instr.field 96 (.agg #[t, a]) 0) w = .ok t w := field_tok
  have hfd1 : ∀ (t a : Value) (w : World), Sem.run Tryz.prog (Instr.field 96 (.agg #[t, a]) 1) w = .ok a w := fun _ _ _ => rfl
  have hsm := h.suffix
  have hBw := h.size
  have hb0 := below_box w (.cells #[.int .i64 0, .int .i64 0, .int .i64 0, .int .i64 0, .slice none 0 0, .slice none 0 0, .string ⟨#[]⟩, .int .i64 0] 39)
  have H0 := hide (((h.mono hBw (Nat.le_refl _)).step hb0).mono (Nat.le_succ _) (by simp))
  have T0 := hide (ht.below hb0)
  have HB0 := hide hb0
  have S0 : Hid ((w.alloc (.cells #[.int .i64 0, .int .i64 0, .int .i64 0, .int .i64 0, .slice none 0 0, .slice none 0 0, .string ⟨#[]⟩, .int .i64 0] 39)).heap[w.heap.size]? = some (.cells #[.int .i64 0, .int .i64 0, .int .i64 0, .int .i64 0, .slice none 0 0, .slice none 0 0, .string ⟨#[]⟩, .int .i64 0] 39 (0, 0))) := hide (heap_alloc_new w _)
  have HN : ((bs (peek1 l)).toList == [61]) = true := (is_text (peek1 l) [61]).trans (decide_eq_true hn)
  have HJ := hide hn
  have hsh0 := h.short
  have HR0 := hide h
  clear h ht hb0 hn
  go_enter Tryz.func125, Tryz.ntmps125
  go_upto_region 1 with fail
  show Code.wp _ _ _ _ (w.alloc (.cells #[.int .i64 0, .int .i64 0, .int .i64 0, .int .i64 0, .slice none 0 0, .slice none 0 0, .string ⟨#[]⟩, .int .i64 0] 39))
  generalize w.alloc (.cells #[.int .i64 0, .int .i64 0, .int .i64 0, .int .i64 0, .slice none 0 0, .slice none 0 0, .string ⟨#[]⟩, .int .i64 0] 39) = W0 at *
  go_wp2_with fail
  refine (peek0_any _ H0.out).mono ?_; rintro e w1 ⟨rfl, b1⟩
  have hz1 : w.heap.size + 1 <= w1.heap.size := Nat.le_trans H0.out.size b1.size
  have M0 : Hid (Mid w a w1.heap.size L E n (0, -1, 0, 0, [], [], [], atOf E l) l (w1.alloc (.cells #[.int .i64 0, .int .i64 (-1), .int .i64 0, .int .i64 0, .slice none 0 0, .slice none 0 0, .string ⟨#[]⟩, .int .i64 (atOf E l)] 39))) :=
    hide ⟨(H0.out.step b1).step (below_box w1 _), InsAt.new hz1 _, ((below_step b1 (below_box w1 _)).block _ (Array.getElem?_eq_some_iff.1 S0.out).1).trans S0.out, Kp.of_belowW (below_step HB0.out (below_step b1 (below_box w1 _))) (Nat.le_refl _), T0.out.below (below_step b1 (below_box w1 _)), by have := hsm.1.length_le; simp [bulk]; omega, h2⟩
  clear H0 T0 HB0 S0 b1
  go_upto_region 2 with fail
  show Code.wp _ _ _ _ (w1.alloc (.cells #[.int .i64 0, .int .i64 (-1), .int .i64 0, .int .i64 0, .slice none 0 0, .slice none 0 0, .string ⟨#[]⟩, .int .i64 (atOf E l)] 39))
  generalize w1.alloc (.cells #[.int .i64 0, .int .i64 (-1), .int .i64 0, .int .i64 0, .slice none 0 0, .slice none 0 0, .string ⟨#[]⟩, .int .i64 (atOf E l)] 39) = W1 at *
  generalize w1.heap.size = c at *
  go_wp2_with fail
  refine (peek1_any _ M0.out.1).mono ?_; rintro e w1 ⟨z, rfl, b1⟩
  have M := hide (M0.out.step b1)
  clear M0 b1
  have hlt := M.out.lt
  go_wp2_with fail
  refine (take_any _ M.out.1).mono ?_; rintro e w1 ⟨rfl, k1, r1⟩
  cases hk : G.mark idxF 37 1048576 (peek0 l) with
  | none =>
    have HP : Hid (instrP E l = .error (8, atOf E l)) := hide (by unfold instrP; rw [ident_bad HJ.out (value_bad hk)]; rfl)
    have K1 := hide (M.out.2.2.2.1.trans (k1.mono M.out.2.2.2.1.size))
    go_wp2_with fail
    refine (valueOf_none hsh0 hk).mono ?_; rintro e w2 ⟨rfl, b2⟩
    unfold thrown
    go_wp2_with fail
    exact bodyPost_thrown ⟨K1.out.trans (Kp.of_belowW b2 K1.out.size), .inr ⟨_, HP.out, rfl⟩⟩
  | some v =>
  have hl0 : l ≠ [] := fun e => by subst e; cases hk
  have hv0 := mark_nonneg hk
  have M1 := hide (M.out.took k1 (r1 hl0) (by have := tail_bulk hl0; omega))
  clear M k1 r1
  go_wp2_with fail
  refine (valueOf_some hsh0 hk).mono ?_; rintro e w2 ⟨rfl, b2⟩
  have M2 := hide (M1.out.step b2)
  have HV := hide (value_ok (E := E) hk)
  clear M1 b2 hk
  obtain ⟨_, c1, _, _, z1, _⟩ := M2.out.cells
  have M3 := hide (M2.out.put (M2.out.2.1.setId v) rfl)
  clear M2
  go_upto_region 5 with fail
  show Code.wp _ _ _ _ (w2.setCell ⟨c, 1, none⟩ (.int .i64 v))
  generalize w2.setCell ⟨c, 1, none⟩ (.int .i64 v) = W4 at *
  clear c1 z1
  go_wp2_with fail
  refine (itself_any [61] (by simp) _ M3.out.1).mono ?_; rintro e w3 ⟨k3, ⟨u, l', hx, rfl, r3⟩ | ⟨er, hx, rfl⟩⟩
  . replace hx := hide hx
    have hsl := (G.want_ok (by simp) hx.out)
    have M := hide (M3.out.took k3 r3 (by rw [hsl.2.1]; simp))
    have hlt := M.out.lt
    have HP : Hid (instrP E l = instrQ E (atOf E l) v l') := hide (by unfold instrP; rw [ident_yes HJ.out HV.out hx.out]; rfl)
    have hbi : Hid (true = decide (0 <= v)) := hide (decide_eq_true hv0).symm
    clear M3 k3 r3 hx hsl HV
    go_wp2_with fail
    refine (take_any _ M.out.1).mono ?_; rintro e w1 ⟨rfl, k1, r1⟩
    have P1 := hide (Pair.new w1 96 (a := .string (bs (peek0 l'))) (b := .int .i64 (atOf E l')))
    have K1 := hide (M.out.2.2.2.1.trans ((k1.andBelow (below_box w1 (tokBox l' E))).mono M.out.2.2.2.1.size))
    have M1 := hide (fun hl : l' ≠ [] => ((M.out.took k1 (r1 hl) (by have := tail_bulk hl; omega)).step (below_box w1 (tokBox l' E))))
    have I1 := hide ((M.out.2.1.kp k1 (by omega)).step (below_box w1 (tokBox l' E)))
    have T1 := hide ((M.out.2.2.2.2.1.kp k1 h2 (by omega)).below (below_box w1 (tokBox l' E)))
    have hcw : c < w1.heap.size := Nat.lt_of_lt_of_le hlt.2.2.1 k1.size
    have hsh := M.out.1.short
    clear k1 r1 M
    go_upto_region 7 with fail
    show Code.wp _ _ _ _ (w1.alloc (tokBox l' E))
    generalize w1.alloc (tokBox l' E) = W1 at *
    generalize w1.heap.size = tb at *
    obtain ⟨o, ho⟩ : ∃ o, fndF (peek0 l') = o := ⟨_, rfl⟩
    have hor := fnd_range (peek0 l')
    rw [ho] at hor
    obtain ⟨op, ty⟩ := o
    have ho := hide ho
    obtain ⟨p0, p1, p2, p3, p4⟩ := P1.out
    go_wp2_with fail
    refine (find_as (peek0 l') (op, ty) _ T1.out.2 ho.out).mono ?_; rintro e w2 ⟨rfl, b2⟩
    have P2 := hide (P1.out.below b2)
    have I2 := hide (I1.out.step b2)
    have M2 := hide (fun hl => (M1.out hl).step b2)
    have K2 := hide (K1.out.trans (Kp.of_belowW b2 K1.out.size))
    have T2 := hide (T1.out.below b2)
    clear P1 I1 M1 K1 T1 p0 p1 p2 p3 p4
    obtain ⟨va, vt, HC, HZ, _⟩ := I2.out.cells
    have c0 := HC 0 _ rfl
    have c3 := HC 3 _ rfl
    have z0 := HZ 0
    have z3 := HZ 3
    have hc2 : c < w2.heap.size := I2.out.lt.1
    have F3 := (Far.refl c w2).set 0 (.int .i64 op) |>.set 3 (.int .i64 ty)
    have P3 := hide (P2.out.far F3 (by omega))
    have I3 := hide ((I2.out.setOp op).setTy ty)
    have M3 := hide (fun hl => ((M2.out hl).put ((M2.out hl).2.1.setOp op) rfl).put (((M2.out hl).2.1.setOp op).setTy ty) rfl)
    have K3 := hide (K2.out.trans (F3.kp (B := w.heap.size) (a := a) (by omega) (by omega) (I2.out.never80)))
    have T3 := hide (T2.out.of (by rw [F3.2.2.2.1]; exact Nat.le_refl _) (F3.2.2.2.2 0 (by omega)) (F3.2.2.2.2 1 (by omega)))
    clear HC HZ F3 I2 M2 K2 T2
    go_upto_region 8 with fail
    show Code.wp _ _ _ _ ((w2.setCell ⟨c, 0, none⟩ (.int .i64 op)).setCell ⟨c, 3, none⟩ (.int .i64 ty))
    generalize (w2.setCell ⟨c, 0, none⟩ (.int .i64 op)).setCell ⟨c, 3, none⟩ (.int .i64 ty) = W3 at *
    clear c0 c3 z0 z3 hc2 b2
    have d0 : W3.cell? ⟨c, 0, none⟩ = some (.int .i64 op) := by
      obtain ⟨_, _, HC, _⟩ := I3.out.cells
      exact HC 0 _ rfl
    obtain ⟨p0, p1, p2, p3, p4⟩ := P3.out
    by_cases hop : op = 0
    . have HPz := hide (HP.out.trans (instrQ_zero ho.out hop))
      subst hop
      go_wp2_with fail
      refine (need_no _ _ _ _).mono ?_; rintro e w4 ⟨rfl, b4⟩
      unfold thrown
      go_wp2_with fail
      exact bodyPost_thrown ⟨K3.out.trans (Kp.of_belowW b4 K3.out.size), .inr ⟨_, HPz.out, rfl⟩⟩
    have hop' : (op == 0) = false := by simpa using hop
    have hop2 : (op != 0) = true := by simpa using hop
    have hop3 : decide (op = 0) = false := by simpa using hop
    have hor' : 1 <= op /\ op <= 29 := by
      rcases hor with h | h
      . exact absurd h hop
      . exact h
    clear hor
    have hl1 : l' ≠ [] := good_ne l' op ty ho.out hop
    go_wp2_with fail
    refine (need_ok _ _ _ _).mono ?_; rintro e w4 ⟨rfl, b4⟩
    have P4 := hide (P3.out.below b4)
    have M4 := hide ((M3.out hl1).step b4)
    have K4 := hide (K3.out.trans (Kp.of_belowW b4 K3.out.size))
    clear P3 I3 M3 K3 T3 d0 p0 p1 p2 p3 p4 b4
    obtain ⟨va, vt, HC, HZ, _⟩ := M4.out.2.1.cells
    have x0 : w4.cell? ⟨c, 0, none⟩ = some (.int .i64 op) := HC 0 _ rfl
    have x1 : w4.cell? ⟨c, 1, none⟩ = some (.int .i64 v) := HC 1 _ rfl
    have x2 : w4.cell? ⟨c, 2, none⟩ = some (.int .i64 0) := HC 2 _ rfl
    have x3 : w4.cell? ⟨c, 3, none⟩ = some (.int .i64 ty) := HC 3 _ rfl
    have x4 : w4.cell? ⟨c, 4, none⟩ = some va := HC 4 _ rfl
    have x5 : w4.cell? ⟨c, 5, none⟩ = some vt := HC 5 _ rfl
    have x6 : w4.cell? ⟨c, 6, none⟩ = some (.string (bs [])) := HC 6 _ rfl
    have x7 : w4.cell? ⟨c, 7, none⟩ = some (.int .i64 (atOf E l)) := HC 7 _ rfl
    obtain ⟨p0, p1, p2, p3, p4⟩ := P4.out
    have hc4 : c < w4.heap.size := M4.out.lt.2.2.1
    clear HC HZ
    obtain ⟨mk, hmk⟩ : ∃ mk, mksF op ty = mk := ⟨_, rfl⟩
    by_cases hm : mk = 0
    . -- the word does not fit
      have HPz := hide (HP.out.trans (instrQ_bad ho.out hop hmk (by rw [<- hbi.out]; simp [hm])))
      have hmb : (mk == 0) = true := by rw [hm]; rfl
      have hmb2 : (mk != 0) = false := by rw [hm]; rfl
      replace hm := hide hm
      go_wp2_with fail
      go_region_with ((first
        | (go_at_call 31; refine (makes_as op ty mk _ _ _ _ _ _ _ (M4.out.2.2.2.2.1.below (below_drew w4)).2 hmk).mono ?_; rintro e w5 ⟨rfl, b5⟩; obtain ⟨q0, q1, q2, q3, q4⟩ := P4.out.below (Below.undrew b5))
        | (go_at_call 101; refine (need_no _ _ _ _).mono ?_; rintro e w6 ⟨rfl, b6⟩; refine step_done (P := Tryz.prog) (by exact bodyPost_thrown ⟨K4.out.trans (Kp.of_belowW (below_step (Below.undrew b5) b6) K4.out.size), .inr ⟨_, HPz.out, rfl⟩⟩) ?_)))
      all_goals trivial
    . -- the word fits
      have HPg := hide (HP.out.trans (instrQ_good ho.out hop hmk (by rw [<- hbi.out]; simp [hm])))
      have hmb : (mk == 0) = false := by simpa using hm
      have hmb2 : (mk != 0) = true := by simpa using hm
      replace hm := hide hm
      go_wp2_with fail
      go_region_with ((first
        | (go_at_call 31; refine (makes_as op ty mk _ _ _ _ _ _ _ (M4.out.2.2.2.2.1.below (below_drew w4)).2 hmk).mono ?_; rintro e w5 ⟨rfl, b5⟩; obtain ⟨q0, q1, q2, q3, q4⟩ := P4.out.below (Below.undrew b5))
        | (go_at_call 101; refine (need_ok _ _ _ _).mono ?_; rintro e w6 ⟨rfl, b6⟩)))
      all_goals
        have M6 := hide (M4.out.step (below_step (Below.undrew b5) b6))
        clear b5 b6 q0 q1 q2 q3 q4
        have y0 := M6.out.cells.1
        go_wp2_with fail
        refine (operands_any op hor' a _ M6.out.2.2.2.2.1.2).mono ?_; rintro e w7 ⟨b7, g, cap, cs, fz, rfl, hm1, hm2, hm3, HG, hcs⟩
        replace HG := hide HG
        replace hcs := hide hcs
        have M7 := hide (M6.out.step b7)
        clear M6 b7 y0
        have hml : ((waysN op).map (fv a)).length = (waysN op).length := List.length_map _
        rw [hml] at hm1
        rw [hml]
        have hm8 : (waysN op).length <= 8 := Nat.le_trans hm1 hm2
        clear P4 M4 K4 x0 x1 x2 x3 x4 x5 x6 x7 p0 p1 p2 p3 p4 hc4 hmb hmb2 hop' hop2 hop3 hml hm3
        go_wp2_with fail
        go_loopw [50] (fun i wr => ∃ (k : Nat) (x' : Ins) (l9 : List Tok), i = .int .i64 k /\ k <= (waysN op).length /\ Mid w a c L E n x' l9 wr /\ Hid (wr.heap[g]? = some (.cells cs 152 fz)) /\ Hid (instrP E l = runW E ((waysN op).drop k) x' l9)) (fun i _ => (waysN op).length - (intOf i).toNat)
        case atStart => exact ⟨0, _, _, rfl, Nat.zero_le _, M7.out, HG, HPg⟩
        case round =>
          obtain ⟨k, x', l9, rfl, hk, M8, HG8, HP8⟩ := hrel
          have M8 := hide M8
          by_cases hlk : k < (waysN op).length
          . obtain ⟨kk, hkk⟩ : ∃ kk, (waysN op)[k]? = some kk := ⟨_, List.getElem?_eq_getElem hlk⟩
            have hr := waysN_range op hor' kk (List.mem_of_getElem? hkk)
            have hcell : wr.cell? ⟨g, k, none⟩ = some (.func (Fn.func kk) #[.pointer (some ⟨a, 0, none⟩)] #[]) := by
              simp only [World.cell?, HG8.out]
              exact hcs.out k _ (by rw [List.getElem?_map, hkk]; rfl)
            have HP9 := hide (HP8.out.trans (run_drop hkk))
            have hlk' : (k : Int) < (waysN op).length := by omega
            have hlk2 : k < cap := by omega
            have hcf := enter_way kk hr
            go_wp2_with fail
            refine (way_any kk hr _ M8.out.1 M8.out.2.1 M8.out.2.2.2.2.1 h2 M8.out.2.2.2.2.2.1).mono ?_; rintro e w8 ⟨k8, ⟨x8, l8, hx, rfl, r8, i8⟩ | ⟨er, hx, rfl⟩⟩ <;> replace hx := hide hx
            . have hb8 := Nat.le_trans (wayW_bulk hx.out) M8.out.2.2.2.2.2.1
              have M9 := hide (M8.out.stepped k8 r8 i8 hb8)
              have HG9 := hide (k8.1.2 _ _ _ HG8.out)
              have HP10 := hide (HP9.out.trans (by rw [hx.out]; first | done | rfl))
              clear k8 r8 i8
              go_wp2_with fail
              go_roundw
              case rel => exact ⟨k + 1, x8, l8, by go_num, by omega, M9.out, HG9, HP10⟩
              case measure => simp [intOf]; omega
            . have HP10 := hide (HP9.out.trans (by rw [hx.out]; rfl : _ = Except.error er))
              have K9 := hide (M8.out.2.2.2.1.trans (k8.mono (Nat.le_succ _)))
              unfold thrown
              go_wp2_with fail
              exact bodyPost_thrown ⟨K9.out, .inr ⟨er, HP10.out, rfl⟩⟩
          . have hk2 : k = (waysN op).length := by omega
            have HPd : Hid (instrP E l = .ok (x', l9)) := hide (HP8.out.trans (by rw [hk2, List.drop_length]; rfl))
            obtain ⟨va', vt', HC, HZ, o1, o2, o3⟩ := M8.out.2.1.cells
            obtain ⟨aoA, mA, cA, rfl⟩ := own_slice o1
            obtain ⟨aoT, mT, cT, rfl⟩ := own_slice o2
            have y0 := HC 0 _ rfl
            have y1 := HC 1 _ rfl
            have y2 := HC 2 _ rfl
            have y3 := HC 3 _ rfl
            have y4 := HC 4 _ rfl
            have y5 := HC 5 _ rfl
            have y6 := HC 6 _ rfl
            have y7 := HC 7 _ rfl
            have hS := M8.out.2.2.1
            obtain ⟨o3a, o3b⟩ := o3 w.heap.size ⟨_, _, hS⟩
            have hS := hide hS
            have o1 := hide o1
            have o2 := hide o2
            clear HC HZ o3
            have hres : RES8 w.heap.size wr := res8 hS.out
            obtain ⟨s0, s1, s2, s3, s4, s5, s6, s7, f0, f1, f2, f3, f4, f5, f6, f7⟩ := hres
            have hcn : c ≠ w.heap.size := by have := M8.out.lt; omega
            have FF := hide (((((((((Far.refl w.heap.size wr).set 0 (.int .i64 x'.1)).set 1 (.int .i64 x'.2.1)).set 2 (.int .i64 x'.2.2.1)).set 3 (.int .i64 x'.2.2.2.1)).set 4 (.slice aoA mA cA)).set 5 (.slice aoT mT cT)).set 6 (.string (bs x'.2.2.2.2.2.2.1))).set 7 (.int .i64 x'.2.2.2.2.2.2.2))
            have KK := hide (M8.out.2.2.2.1.trans (FF.out.kp (B := w.heap.size) (a := a) (Nat.le_refl _) (by omega) (fun cs fz hc => by rw [hS.out] at hc; simp at hc)))
            have RR := hide (FF.out.rdr (HR0.out.lower M8.out.2.2.2.1 M8.out.1) hBw)
            have OO := hide (⟨own_base (FF.out.own o1.out o3a) (Nat.le_succ _), own_base (FF.out.own o2.out o3b) (Nat.le_succ _)⟩ : _ /\ _)
            go_wp2_with fail
            exact bodyPost_ret (v := .agg (insCells x' (.slice aoA mA cA) (.slice aoT mT cT)).toArray) (by simp [results, Tryz.results125, go_sem, insCells, s0, s1, s2, s3, s4, s5, s6, s7]) rfl ⟨KK.out, .inl ⟨x', l9, _, HPd.out, rfl, ⟨_, _, rfl, OO.out.1, OO.out.2⟩, RR.out⟩⟩
  . replace hx := hide hx
    have HP : Hid (instrP E l = .error er) := hide (by unfold instrP; rw [ident_word HJ.out HV.out hx.out]; rfl)
    have K3 := hide (M3.out.2.2.2.1.trans (k3.mono M3.out.2.2.2.1.size))
    unfold thrown
    go_wp2_with fail
    exact bodyPost_thrown ⟨K3.out, .inr ⟨er, HP.out, rfl⟩⟩
theorem instr_any {B a : Nat} {L : List Tok} {E : Int} {n : Nat} {l : List Tok} (w : World) (h : Rdr B a L E n l w) (ht : Tabs w) (h2 : 2 <= a) :
    Calls Tryz.prog 125 #[.pointer (some ⟨a, 0, none⟩)] w (OutI B a L E n (instrP E l) w) := by
  by_cases hn : peek1 l = [61]
  . exact instr_yes w h ht h2 hn
  . exact instr_no w h ht h2 hn
end Go.Proofs.YtahhbckccdigoaaGreatDoor
namespace Go.Proofs.YtahhbckccdigoaaGreatDoor
open Go Go.RowKit
open G (Tok Er Ins Fun peek0 peek1 atOf)
theorem then_assoc {α β γ : Type} (x : Except Er (α × List Tok)) (f : α -> G.Rd β) (g : β -> G.Rd γ) : G.andThen (G.andThen x f) g = G.andThen x fun v r => G.andThen (f v r) g := by
  cases x with
  | error e => rfl
  | ok p => rfl
theorem then_ok {α β : Type} (v : α) (l : List Tok) (f : α -> G.Rd β) : G.andThen (.ok (v, l)) f = f v l := rfl
theorem then_congr {α β : Type} {x : Except Er (α × List Tok)} {f g : α -> G.Rd β} (h : ∀ v r, x = .ok (v, r) -> f v r = g v r) : G.andThen x f = G.andThen x g := by
  cases x with
  | error e => rfl
  | ok p => exact h p.1 p.2 rfl
def fill (x : Ins) (y : G.Opd) : Ins := (x.1, x.2.1, y.1, x.2.2.2.1, y.2.1, y.2.2.1, y.2.2.2, x.2.2.2.2.2.2.2)
abbrev opsG (E op : Int) : G.Rd G.Opd := G.operands numF idxF namF shpF tksF E op
abbrev bare (op id ty p : Int) : Ins := (op, id, 0, ty, [], [], [], p)
theorem moreV_eq {E : Int} : ∀ (f f' : Nat) (x : Ins) (l : List Tok), l.length < f -> l.length < f' -> moreV E f x l = G.andThen (G.valuesW idxF E f' x.2.2.2.2.1 l) fun a r => .ok ((x.1, x.2.1, x.2.2.1, x.2.2.2.1, a, x.2.2.2.2.2.1, x.2.2.2.2.2.2.1, x.2.2.2.2.2.2.2), r) := by
  intro f
  induction f with
  | zero => intro f' x l h; omega
  | succ f ih =>
    intro f' x l h h'
    obtain ⟨f', rfl⟩ : ∃ k, f' = k + 1 := ⟨f' - 1, by omega⟩
    cases ht : G.taken l with
    | false => rw [moreV_stop ht]; unfold G.valuesW; rw [ht]; rfl
    | true =>
      conv => lhs; unfold moreV
      conv => rhs; unfold G.valuesW
      rw [ht, if_pos rfl, if_pos rfl]
      unfold valueW byWord
      rw [then_assoc, then_assoc]
      refine then_congr fun v r hv => ?_
      obtain ⟨h1, h2, _⟩ := G.value_ok hv
      have := tail_bulk h1
      show moreV E f (addArg x v) r = _
      rw [ih f' (addArg x v) r (by rw [h2]; omega) (by rw [h2]; omega)]
      rfl
theorem pairV_eq {E : Int} : ∀ (f f' : Nat) (x : Ins) (l : List Tok), l.length < f -> l.length < f' -> x.2.2.2.2.2.1 ≠ [] -> pairV E f x l = G.andThen (G.phiW idxF E f' x.2.2.2.2.2.1 x.2.2.2.2.1 l) fun a r => .ok ((x.1, x.2.1, x.2.2.1, x.2.2.2.1, a.2, a.1, x.2.2.2.2.2.2.1, x.2.2.2.2.2.2.2), r) := by
  intro f
  induction f with
  | zero => intro f' x l h; omega
  | succ f ih =>
    intro f' x l h h' hx
    obtain ⟨f', rfl⟩ : ∃ k, f' = k + 1 := ⟨f' - 1, by omega⟩
    cases ht : G.paired l with
    | false => rw [pairV_stop ht]; unfold G.phiW; rw [if_neg (by simp [ht, hx])]; rfl
    | true =>
      conv => lhs; unfold pairV
      conv => rhs; unfold G.phiW
      rw [ht, if_pos rfl, if_pos (.inr rfl)]
      unfold labelW byWord
      rw [then_assoc, then_assoc]
      refine then_congr fun b r hb => ?_
      obtain ⟨h1, h2, _⟩ := G.label_ok hb
      have := tail_bulk h1
      show (G.andThen (valueW E (addTo x b) r) fun x'' l'' => pairV E f x'' l'') = G.andThen (G.andThen (G.value idxF E r) _) _
      unfold valueW byWord
      rw [then_assoc, then_assoc]
      refine then_congr fun v q hv => ?_
      obtain ⟨h3, h4, _⟩ := G.value_ok hv
      have := tail_bulk h3
      show pairV E f (addArg (addTo x b) v) q = _
      rw [ih f' (addArg (addTo x b) v) q (by rw [h4]; rw [h2] at *; omega) (by rw [h4]; rw [h2] at *; omega) (by simp [addArg, addTo])]
      rfl
theorem ops_1 (E id ty p : Int) (l : List Tok) : runW E (waysN 1) (bare 1 id ty p) l = G.andThen (opsG E 1 l) fun y r => .ok (fill (bare 1 id ty p) y, r) := by
  show G.andThen (numberW E (bare 1 id ty p) l) (fun x1 l1 => .ok (x1, l1)) = G.andThen (G.andThen (G.anyNum numF E l) (fun v1 r1 => G.done (v1, [], [], []) r1)) _
  simp only [numberW, byWord, then_assoc, then_ok, G.done]
  rfl
theorem ops_10 (E id ty p : Int) (l : List Tok) : runW E (waysN 10) (bare 10 id ty p) l = G.andThen (opsG E 10 l) fun y r => .ok (fill (bare 10 id ty p) y, r) := by
  show G.andThen (lettersW E (bare 10 id ty p) l) (fun x1 l1 => .ok (x1, l1)) = G.andThen (G.andThen (G.shaped shpF E l) (fun v1 r1 => G.done (0, [], [], v1) r1)) _
  simp only [lettersW, byWord, then_assoc, then_ok, G.done]
  rfl
theorem ops_11 (E id ty p : Int) (l : List Tok) : runW E (waysN 11) (bare 11 id ty p) l = G.andThen (opsG E 11 l) fun y r => .ok (fill (bare 11 id ty p) y, r) := by
  show G.andThen (valueW E (bare 11 id ty p) l) (fun x1 l1 => G.andThen (uptoW E 15 x1 l1) (fun x2 l2 => .ok (x2, l2))) = G.andThen (G.andThen (G.value idxF E l) (fun v1 r1 => G.andThen (G.number numF E 0 15 r1) (fun v2 r2 => G.done (v2, [v1], [], []) r2))) _
  simp only [uptoW, valueW, byWord, then_assoc, then_ok, G.done]
  rfl
theorem ops_12 (E id ty p : Int) (l : List Tok) : runW E (waysN 12) (bare 12 id ty p) l = G.andThen (opsG E 12 l) fun y r => .ok (fill (bare 12 id ty p) y, r) := by
  show G.andThen (valueW E (bare 12 id ty p) l) (fun x1 l1 => G.andThen (uptoW E 15 x1 l1) (fun x2 l2 => .ok (x2, l2))) = G.andThen (G.andThen (G.value idxF E l) (fun v1 r1 => G.andThen (G.number numF E 0 15 r1) (fun v2 r2 => G.done (v2, [v1], [], []) r2))) _
  simp only [uptoW, valueW, byWord, then_assoc, then_ok, G.done]
  rfl
theorem ops_13 (E id ty p : Int) (l : List Tok) : runW E (waysN 13) (bare 13 id ty p) l = G.andThen (opsG E 13 l) fun y r => .ok (fill (bare 13 id ty p) y, r) := by
  show G.andThen (valueW E (bare 13 id ty p) l) (fun x1 l1 => G.andThen (uptoW E 15 x1 l1) (fun x2 l2 => G.andThen (valueW E x2 l2) (fun x3 l3 => .ok (x3, l3)))) = G.andThen (G.andThen (G.value idxF E l) (fun v1 r1 => G.andThen (G.number numF E 0 15 r1) (fun v2 r2 => G.andThen (G.value idxF E r2) (fun v3 r3 => G.done (v2, [v1, v3], [], []) r3)))) _
  simp only [uptoW, valueW, byWord, then_assoc, then_ok, G.done]
  rfl
theorem ops_14 (E id ty p : Int) (l : List Tok) : runW E (waysN 14) (bare 14 id ty p) l = G.andThen (opsG E 14 l) fun y r => .ok (fill (bare 14 id ty p) y, r) := by
  show G.andThen (valueW E (bare 14 id ty p) l) (fun x1 l1 => G.andThen (uptoW E 15 x1 l1) (fun x2 l2 => G.andThen (valueW E x2 l2) (fun x3 l3 => .ok (x3, l3)))) = G.andThen (G.andThen (G.value idxF E l) (fun v1 r1 => G.andThen (G.number numF E 0 15 r1) (fun v2 r2 => G.andThen (G.value idxF E r2) (fun v3 r3 => G.done (v2, [v1, v3], [], []) r3)))) _
  simp only [uptoW, valueW, byWord, then_assoc, then_ok, G.done]
  rfl
theorem ops_15 (E id ty p : Int) (l : List Tok) : runW E (waysN 15) (bare 15 id ty p) l = G.andThen (opsG E 15 l) fun y r => .ok (fill (bare 15 id ty p) y, r) := by
  show G.andThen (valueW E (bare 15 id ty p) l) (fun x1 l1 => G.andThen (uptoW E 15 x1 l1) (fun x2 l2 => .ok (x2, l2))) = G.andThen (G.andThen (G.value idxF E l) (fun v1 r1 => G.andThen (G.number numF E 0 15 r1) (fun v2 r2 => G.done (v2, [v1], [], []) r2))) _
  simp only [uptoW, valueW, byWord, then_assoc, then_ok, G.done]
  rfl
theorem ops_23 (E id ty p : Int) (l : List Tok) : runW E (waysN 23) (bare 23 id ty p) l = G.andThen (opsG E 23 l) fun y r => .ok (fill (bare 23 id ty p) y, r) := by
  show G.andThen (uptoW E 1048576 (bare 23 id ty p) l) (fun x1 l1 => .ok (x1, l1)) = G.andThen (G.andThen (G.number numF E 0 1048576 l) (fun v1 r1 => G.done (v1, [], [], []) r1)) _
  simp only [uptoW, byWord, then_assoc, then_ok, G.done]
  rfl
theorem ops_24 (E id ty p : Int) (l : List Tok) : runW E (waysN 24) (bare 24 id ty p) l = G.andThen (opsG E 24 l) fun y r => .ok (fill (bare 24 id ty p) y, r) := by
  show G.andThen (valueW E (bare 24 id ty p) l) (fun x1 l1 => G.andThen (uptoW E 1048576 x1 l1) (fun x2 l2 => .ok (x2, l2))) = G.andThen (G.andThen (G.value idxF E l) (fun v1 r1 => G.andThen (G.number numF E 0 1048576 r1) (fun v2 r2 => G.done (v2, [v1], [], []) r2))) _
  simp only [uptoW, valueW, byWord, then_assoc, then_ok, G.done]
  rfl
theorem ops_26 (E id ty p : Int) (l : List Tok) : runW E (waysN 26) (bare 26 id ty p) l = G.andThen (opsG E 26 l) fun y r => .ok (fill (bare 26 id ty p) y, r) := by
  show G.andThen (labelW E (bare 26 id ty p) l) (fun x1 l1 => .ok (x1, l1)) = G.andThen (G.andThen (G.label idxF E l) (fun v1 r1 => G.done (0, [], [v1], []) r1)) _
  simp only [labelW, byWord, then_assoc, then_ok, G.done]
  rfl
theorem ops_27 (E id ty p : Int) (l : List Tok) : runW E (waysN 27) (bare 27 id ty p) l = G.andThen (opsG E 27 l) fun y r => .ok (fill (bare 27 id ty p) y, r) := by
  show G.andThen (valueW E (bare 27 id ty p) l) (fun x1 l1 => G.andThen (labelW E x1 l1) (fun x2 l2 => G.andThen (labelW E x2 l2) (fun x3 l3 => .ok (x3, l3)))) = G.andThen (G.andThen (G.value idxF E l) (fun v1 r1 => G.andThen (G.label idxF E r1) (fun v2 r2 => G.andThen (G.label idxF E r2) (fun v3 r3 => G.done (0, [v1], [v2, v3], []) r3)))) _
  simp only [labelW, valueW, byWord, then_assoc, then_ok, G.done]
  rfl
theorem ops_29 (E id ty p : Int) (l : List Tok) : runW E (waysN 29) (bare 29 id ty p) l = G.andThen (opsG E 29 l) fun y r => .ok (fill (bare 29 id ty p) y, r) := by
  show G.andThen (uptoW E 255 (bare 29 id ty p) l) (fun x1 l1 => .ok (x1, l1)) = G.andThen (G.andThen (G.number numF E 0 255 l) (fun v1 r1 => G.done (v1, [], [], []) r1)) _
  simp only [uptoW, byWord, then_assoc, then_ok, G.done]
  rfl
theorem ops_2 (E id ty p : Int) (l : List Tok) : runW E (waysN 2) (bare 2 id ty p) l = G.andThen (opsG E 2 l) fun y r => .ok (fill (bare 2 id ty p) y, r) := by
  have e : opsG E 2 l = G.andThen (G.valuesN idxF E 2 [] l) fun a => G.done (0, a, [], []) := by
    have h : tksF 2 = 2 := by decide
    rw [<- h]; rfl
  rw [e]
  show G.andThen (valueW E (bare 2 id ty p) l) (fun x1 l1 => G.andThen (valueW E x1 l1) (fun x2 l2 => .ok (x2, l2))) = _
  simp only [valueW, byWord, then_assoc, then_ok, G.done, G.valuesN]
  rfl
theorem ops_3 (E id ty p : Int) (l : List Tok) : runW E (waysN 3) (bare 3 id ty p) l = G.andThen (opsG E 3 l) fun y r => .ok (fill (bare 3 id ty p) y, r) := by
  have e : opsG E 3 l = G.andThen (G.valuesN idxF E 2 [] l) fun a => G.done (0, a, [], []) := by
    have h : tksF 3 = 2 := by decide
    rw [<- h]; rfl
  rw [e]
  show G.andThen (valueW E (bare 3 id ty p) l) (fun x1 l1 => G.andThen (valueW E x1 l1) (fun x2 l2 => .ok (x2, l2))) = _
  simp only [valueW, byWord, then_assoc, then_ok, G.done, G.valuesN]
  rfl
theorem ops_4 (E id ty p : Int) (l : List Tok) : runW E (waysN 4) (bare 4 id ty p) l = G.andThen (opsG E 4 l) fun y r => .ok (fill (bare 4 id ty p) y, r) := by
  have e : opsG E 4 l = G.andThen (G.valuesN idxF E 2 [] l) fun a => G.done (0, a, [], []) := by
    have h : tksF 4 = 2 := by decide
    rw [<- h]; rfl
  rw [e]
  show G.andThen (valueW E (bare 4 id ty p) l) (fun x1 l1 => G.andThen (valueW E x1 l1) (fun x2 l2 => .ok (x2, l2))) = _
  simp only [valueW, byWord, then_assoc, then_ok, G.done, G.valuesN]
  rfl
theorem ops_5 (E id ty p : Int) (l : List Tok) : runW E (waysN 5) (bare 5 id ty p) l = G.andThen (opsG E 5 l) fun y r => .ok (fill (bare 5 id ty p) y, r) := by
  have e : opsG E 5 l = G.andThen (G.valuesN idxF E 2 [] l) fun a => G.done (0, a, [], []) := by
    have h : tksF 5 = 2 := by decide
    rw [<- h]; rfl
  rw [e]
  show G.andThen (valueW E (bare 5 id ty p) l) (fun x1 l1 => G.andThen (valueW E x1 l1) (fun x2 l2 => .ok (x2, l2))) = _
  simp only [valueW, byWord, then_assoc, then_ok, G.done, G.valuesN]
  rfl
theorem ops_6 (E id ty p : Int) (l : List Tok) : runW E (waysN 6) (bare 6 id ty p) l = G.andThen (opsG E 6 l) fun y r => .ok (fill (bare 6 id ty p) y, r) := by
  have e : opsG E 6 l = G.andThen (G.valuesN idxF E 2 [] l) fun a => G.done (0, a, [], []) := by
    have h : tksF 6 = 2 := by decide
    rw [<- h]; rfl
  rw [e]
  show G.andThen (valueW E (bare 6 id ty p) l) (fun x1 l1 => G.andThen (valueW E x1 l1) (fun x2 l2 => .ok (x2, l2))) = _
  simp only [valueW, byWord, then_assoc, then_ok, G.done, G.valuesN]
  rfl
theorem ops_7 (E id ty p : Int) (l : List Tok) : runW E (waysN 7) (bare 7 id ty p) l = G.andThen (opsG E 7 l) fun y r => .ok (fill (bare 7 id ty p) y, r) := by
  have e : opsG E 7 l = G.andThen (G.valuesN idxF E 2 [] l) fun a => G.done (0, a, [], []) := by
    have h : tksF 7 = 2 := by decide
    rw [<- h]; rfl
  rw [e]
  show G.andThen (valueW E (bare 7 id ty p) l) (fun x1 l1 => G.andThen (valueW E x1 l1) (fun x2 l2 => .ok (x2, l2))) = _
  simp only [valueW, byWord, then_assoc, then_ok, G.done, G.valuesN]
  rfl
theorem ops_8 (E id ty p : Int) (l : List Tok) : runW E (waysN 8) (bare 8 id ty p) l = G.andThen (opsG E 8 l) fun y r => .ok (fill (bare 8 id ty p) y, r) := by
  have e : opsG E 8 l = G.andThen (G.valuesN idxF E 0 [] l) fun a => G.done (0, a, [], []) := by
    have h : tksF 8 = 0 := by decide
    rw [<- h]; rfl
  rw [e]
  show (.ok (bare 8 id ty p, l) : Except Er (Ins × List Tok)) = _
  simp only [then_ok, G.done, G.valuesN]
  rfl
theorem ops_9 (E id ty p : Int) (l : List Tok) : runW E (waysN 9) (bare 9 id ty p) l = G.andThen (opsG E 9 l) fun y r => .ok (fill (bare 9 id ty p) y, r) := by
  have e : opsG E 9 l = G.andThen (G.valuesN idxF E 2 [] l) fun a => G.done (0, a, [], []) := by
    have h : tksF 9 = 2 := by decide
    rw [<- h]; rfl
  rw [e]
  show G.andThen (valueW E (bare 9 id ty p) l) (fun x1 l1 => G.andThen (valueW E x1 l1) (fun x2 l2 => .ok (x2, l2))) = _
  simp only [valueW, byWord, then_assoc, then_ok, G.done, G.valuesN]
  rfl
theorem ops_16 (E id ty p : Int) (l : List Tok) : runW E (waysN 16) (bare 16 id ty p) l = G.andThen (opsG E 16 l) fun y r => .ok (fill (bare 16 id ty p) y, r) := by
  have e : opsG E 16 l = G.andThen (G.valuesN idxF E 1 [] l) fun a => G.done (0, a, [], []) := by
    have h : tksF 16 = 1 := by decide
    rw [<- h]; rfl
  rw [e]
  show G.andThen (valueW E (bare 16 id ty p) l) (fun x1 l1 => .ok (x1, l1)) = _
  simp only [valueW, byWord, then_assoc, then_ok, G.done, G.valuesN]
  rfl
theorem ops_17 (E id ty p : Int) (l : List Tok) : runW E (waysN 17) (bare 17 id ty p) l = G.andThen (opsG E 17 l) fun y r => .ok (fill (bare 17 id ty p) y, r) := by
  have e : opsG E 17 l = G.andThen (G.valuesN idxF E 1 [] l) fun a => G.done (0, a, [], []) := by
    have h : tksF 17 = 1 := by decide
    rw [<- h]; rfl
  rw [e]
  show G.andThen (valueW E (bare 17 id ty p) l) (fun x1 l1 => .ok (x1, l1)) = _
  simp only [valueW, byWord, then_assoc, then_ok, G.done, G.valuesN]
  rfl
theorem ops_18 (E id ty p : Int) (l : List Tok) : runW E (waysN 18) (bare 18 id ty p) l = G.andThen (opsG E 18 l) fun y r => .ok (fill (bare 18 id ty p) y, r) := by
  have e : opsG E 18 l = G.andThen (G.valuesN idxF E 2 [] l) fun a => G.done (0, a, [], []) := by
    have h : tksF 18 = 2 := by decide
    rw [<- h]; rfl
  rw [e]
  show G.andThen (valueW E (bare 18 id ty p) l) (fun x1 l1 => G.andThen (valueW E x1 l1) (fun x2 l2 => .ok (x2, l2))) = _
  simp only [valueW, byWord, then_assoc, then_ok, G.done, G.valuesN]
  rfl
theorem ops_19 (E id ty p : Int) (l : List Tok) : runW E (waysN 19) (bare 19 id ty p) l = G.andThen (opsG E 19 l) fun y r => .ok (fill (bare 19 id ty p) y, r) := by
  have e : opsG E 19 l = G.andThen (G.valuesN idxF E 2 [] l) fun a => G.done (0, a, [], []) := by
    have h : tksF 19 = 2 := by decide
    rw [<- h]; rfl
  rw [e]
  show G.andThen (valueW E (bare 19 id ty p) l) (fun x1 l1 => G.andThen (valueW E x1 l1) (fun x2 l2 => .ok (x2, l2))) = _
  simp only [valueW, byWord, then_assoc, then_ok, G.done, G.valuesN]
  rfl
theorem ops_22 (E id ty p : Int) (l : List Tok) : runW E (waysN 22) (bare 22 id ty p) l = G.andThen (opsG E 22 l) fun y r => .ok (fill (bare 22 id ty p) y, r) := by
  have e : opsG E 22 l = G.andThen (G.valuesN idxF E 1 [] l) fun a => G.done (0, a, [], []) := by
    have h : tksF 22 = 1 := by decide
    rw [<- h]; rfl
  rw [e]
  show G.andThen (valueW E (bare 22 id ty p) l) (fun x1 l1 => .ok (x1, l1)) = _
  simp only [valueW, byWord, then_assoc, then_ok, G.done, G.valuesN]
  rfl
theorem ops_25 (E id ty p : Int) (l : List Tok) : runW E (waysN 25) (bare 25 id ty p) l = G.andThen (opsG E 25 l) fun y r => .ok (fill (bare 25 id ty p) y, r) := by
  have e : opsG E 25 l = G.andThen (G.valuesN idxF E 1 [] l) fun a => G.done (0, a, [], []) := by
    have h : tksF 25 = 1 := by decide
    rw [<- h]; rfl
  rw [e]
  show G.andThen (valueW E (bare 25 id ty p) l) (fun x1 l1 => .ok (x1, l1)) = _
  simp only [valueW, byWord, then_assoc, then_ok, G.done, G.valuesN]
  rfl
theorem ops_28 (E id ty p : Int) (l : List Tok) : runW E (waysN 28) (bare 28 id ty p) l = G.andThen (opsG E 28 l) fun y r => .ok (fill (bare 28 id ty p) y, r) := by
  show G.andThen (perhapsValueW E (bare 28 id ty p) l) (fun x1 l1 => .ok (x1, l1)) = G.andThen (G.ret1 idxF E l) _
  unfold perhapsValueW G.ret1
  cases ht : G.taken l with
  | false => rfl
  | true =>
    rw [if_pos rfl, if_pos rfl]
    simp only [valueW, byWord, then_assoc, then_ok, G.done]
    rfl
theorem spot_eq (E : Int) (x : Ins) (l : List Tok) (hx : x.2.2.1 = 0) : perhapsPointW E x l = G.andThen (G.spot idxF E l) fun n r => .ok (setN x n, r) := by
  unfold perhapsPointW G.spot begins
  by_cases h : (peek0 l).head? = some 64
  . rw [if_pos (by simpa using h), if_pos h]; rfl
  . rw [if_neg (by simpa using h), if_neg h]
    show _ = Except.ok (setN x 0, l)
    rw [show setN x 0 = x from by unfold setN; rw [<- hx]]
theorem ops_21 (E id ty p : Int) (l : List Tok) : runW E (waysN 21) (bare 21 id ty p) l = G.andThen (opsG E 21 l) fun y r => .ok (fill (bare 21 id ty p) y, r) := by
  show G.andThen (perhapsPointW E (bare 21 id ty p) l) (fun x1 l1 => G.andThen (calleeW E x1 l1) (fun x2 l2 => G.andThen (moreValuesW E x2 l2) (fun x3 l3 => .ok (x3, l3)))) = G.andThen (G.andThen (G.spot idxF E l) fun n r => G.andThen (G.name namF E r) fun s r => G.andThen (G.values idxF E r) fun a => G.done (n, a, [], s)) _
  rw [spot_eq E _ l rfl]
  simp only [calleeW, byWord, then_assoc, then_ok, G.done]
  refine then_congr fun n r _ => then_congr fun s r2 _ => ?_
  show G.andThen (moreV E (r2.length + 1) _ r2) _ = G.andThen (G.valuesW idxF E (r2.length + 1) [] r2) _
  rw [moreV_eq (r2.length + 1) (r2.length + 1) _ r2 (by omega) (by omega), then_assoc]
  rfl
theorem ops_20 (E id ty p : Int) (l : List Tok) : runW E (waysN 20) (bare 20 id ty p) l = G.andThen (opsG E 20 l) fun y r => .ok (fill (bare 20 id ty p) y, r) := by
  show G.andThen (labelW E (bare 20 id ty p) l) (fun x1 l1 => G.andThen (valueW E x1 l1) (fun x2 l2 => G.andThen (morePairsW E x2 l2) (fun x3 l3 => .ok (x3, l3)))) = G.andThen (G.andThen (G.phiW idxF E (l.length + 1) [] [] l) fun x => G.done (0, x.2, x.1, [])) _
  conv => rhs; unfold G.phiW
  rw [if_pos (.inl rfl)]
  simp only [labelW, valueW, byWord, then_assoc, then_ok, G.done]
  refine then_congr fun b r hb => then_congr fun v r2 hv => ?_
  obtain ⟨h1, h2, _⟩ := G.label_ok hb
  obtain ⟨h3, h4, _⟩ := G.value_ok hv
  have t1 := tail_bulk h1
  have t2 := tail_bulk h3
  show G.andThen (pairV E (r2.length + 1) _ r2) _ = G.andThen (G.phiW idxF E l.length [b] [v] r2) _
  rw [pairV_eq (r2.length + 1) l.length _ r2 (by omega) (by rw [h4]; rw [h2] at *; omega) (by simp [addArg, addTo]), then_assoc]
  rfl
theorem ops_eq (E op id ty p : Int) (l : List Tok) (ho : 1 <= op /\ op <= 29) : runW E (waysN op) (bare op id ty p) l = G.andThen (opsG E op l) fun y r => .ok (fill (bare op id ty p) y, r) := by
  obtain rfl | rfl | rfl | rfl | rfl | rfl | rfl | rfl | rfl | rfl | rfl | rfl | rfl | rfl | rfl | rfl | rfl | rfl | rfl | rfl | rfl | rfl | rfl | rfl | rfl | rfl | rfl | rfl | rfl : op = 1 \/ op = 2 \/ op = 3 \/ op = 4 \/ op = 5 \/ op = 6 \/ op = 7 \/ op = 8 \/ op = 9 \/ op = 10 \/ op = 11 \/ op = 12 \/ op = 13 \/ op = 14 \/ op = 15 \/ op = 16 \/ op = 17 \/ op = 18 \/ op = 19 \/ op = 20 \/ op = 21 \/ op = 22 \/ op = 23 \/ op = 24 \/ op = 25 \/ op = 26 \/ op = 27 \/ op = 28 \/ op = 29 := by omega
  . exact ops_1 E id ty p l
  . exact ops_2 E id ty p l
  . exact ops_3 E id ty p l
  . exact ops_4 E id ty p l
  . exact ops_5 E id ty p l
  . exact ops_6 E id ty p l
  . exact ops_7 E id ty p l
  . exact ops_8 E id ty p l
  . exact ops_9 E id ty p l
  . exact ops_10 E id ty p l
  . exact ops_11 E id ty p l
  . exact ops_12 E id ty p l
  . exact ops_13 E id ty p l
  . exact ops_14 E id ty p l
  . exact ops_15 E id ty p l
  . exact ops_16 E id ty p l
  . exact ops_17 E id ty p l
  . exact ops_18 E id ty p l
  . exact ops_19 E id ty p l
  . exact ops_20 E id ty p l
  . exact ops_21 E id ty p l
  . exact ops_22 E id ty p l
  . exact ops_23 E id ty p l
  . exact ops_24 E id ty p l
  . exact ops_25 E id ty p l
  . exact ops_26 E id ty p l
  . exact ops_27 E id ty p l
  . exact ops_28 E id ty p l
  . exact ops_29 E id ty p l
theorem instr_eq (E : Int) (l : List Tok) : G.instr numF idxF namF shpF tksF fndF mksF E l = instrP E l := by
  unfold G.instr G.instrA G.start instrP instrQ
  rw [then_assoc]
  refine then_congr fun id r _ => ?_
  show G.andThen (G.andThen (G.opword fndF mksF E id r) fun o => G.done (id, o.1, o.2)) _ = _
  rw [then_assoc]
  refine then_congr fun o r2 ho => ?_
  have hz : o.1 ≠ 0 /\ o = fndF (peek0 r) := by
    obtain ⟨h1, h2, h3, h4, _⟩ := G.opword_ok fnd_nil ho
    exact ⟨h4, h3⟩
  have hr : 1 <= o.1 /\ o.1 <= 29 := by
    rcases fnd_range (peek0 r) with h | h
    . rw [<- hz.2] at h; exact absurd h hz.1
    . rw [<- hz.2] at h; exact h
  show G.andThen (opsG E o.1 r2) _ = _
  rw [ops_eq E o.1 id o.2 (atOf E l) r2 hr]
  rfl
end Go.Proofs.YtahhbckccdigoaaGreatDoor
