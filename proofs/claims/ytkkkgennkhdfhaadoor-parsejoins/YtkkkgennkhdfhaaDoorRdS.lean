/- A block is read. -/
import Derived.Test.YtkkkgennkhdfhaaDoorRdN
import Derived.Test.YtkkkgennkhdfhaaDoorRdR
namespace Go.Proofs.YtkkkgennkhdfhaaDoor
open Go Go.RowKit
open G (Tok Er Ins Fun peek0 peek1 atOf)

theorem Tabs.grew {w w1 w2 : World} {row : Option Nat} (h : Tabs w) (b : Below w.heap.size w w1) (hg : w1.grownBy w2 row) (hr : ∀ k, row = some k → 2 ≤ k) : Tabs w2 := by
  have h1 := h.below b
  exact h1.of hg.size (hg.block 0 h1.2.1 (fun e => by have := hr 0 e.symm; omega)) (hg.block 1 h1.1.1 (fun e => by have := hr 1 e.symm; omega))
theorem BlkVal.far {q B : Nat} {xs : List Ins} {v : Value} {w w' : World} (h : BlkVal B xs v w) (hf : Far q w w') (hq : q < B) : BlkVal B xs v w' := by
  obtain ⟨cs, h1, h2⟩ := h
  have key : ∀ (e s : Nat) (v : Value) (n : Nat) (xs : List Value), w.ownsRow B e s v n xs → w'.ownsRow B e s v n xs := fun e s v n xs ho => hf.own ho (fun e => by have := ho.lt q e; omega)
  exact ⟨cs, key _ _ _ _ _ h1, InsRow.keep (key 3 1) _ _ h2⟩
theorem BlkVal.snoc {B : Nat} {acc : List Ins} {x : Ins} {v v2 va vt : Value} {cs : List Value} {w w2 : World} {o : Obj} (oR : w.ownsRow B 38 8 v acc.length cs) (hR : InsRow B w acc cs) (o1 : w.ownsRow B 3 1 va x.2.2.2.2.1.length (ints x.2.2.2.2.1)) (o2 : w.ownsRow B 3 1 vt x.2.2.2.2.2.1.length (ints x.2.2.2.2.2.1))
    (own : w2.ownsRow B 38 8 v2 (acc.length + 1) (cs ++ insCells x va vt)) (grow : (w.alloc o).grownBy w2 v.ownBlock) : BlkVal B (acc ++ [x]) v2 w2 := by
  have key : ∀ (v' : Value) (n : Nat) (xs : List Value), w.ownsRow B 3 1 v' n xs → w2.ownsRow B 3 1 v' n xs := fun v' n xs h => own_other grow (oR.alloc o) (by decide) _ _ _ (h.alloc o)
  exact ⟨cs ++ insCells x va vt, by rw [List.length_append]; exact own, InsRow.snoc (key _ _ _ o1) (key _ _ _ o2) _ _ (InsRow.keep key _ _ hR)⟩
/-- What the reading of a block answers. -/
def OutB (B a : Nat) (L : List Tok) (E : Int) (r : Except Er ((List Ins × Nat) × List Tok)) (w : World) (e : Ending) (w' : World) : Prop :=
  Kp w.heap.size a w w' ∧ ((∃ xs n l' v, r = .ok ((xs, n), l') ∧ e = .returned v ∧ BlkVal w.heap.size xs v w' ∧ Rdr B a L E n l' w') ∨ ∃ er : Er, r = .error er ∧ e = thrown er.1 er.2)
set_option maxHeartbeats 2000000 in
set_option maxRecDepth 20000 in
theorem block_any {B a : Nat} {L : List Tok} {E : Int} {n k : Nat} {l : List Tok} (w : World) (h : Rdr B a L E n l w) (ht : Tabs w) (h2 : 2 ≤ a) (hk : k < 256) :
    Calls Tryd.prog 39 #[.pointer (some ⟨a, 0, none⟩), .int .i64 k] w (OutB B a L E (blockG E k n l) w) := by
  obtain ⟨i0, hi0, hz0, hz1, hz2⟩ := info_parts Tryd.info38
  have hfd := field_tok
  have H := hide h
  have T := hide ht
  have ha := h.suffix.2.2.2
  have hL := h.suffix.2.1
  have hBw := h.size
  have hsh := h.short
  clear h ht
  go_enter Tryd.func39, Tryd.ntmps39
  go_wp2_with fail
  refine (take_any _ H.out).mono ?_; rintro e w1 ⟨rfl, k1, r1⟩
  have P1 := hide (Pair.new w1 53 (a := .string (bs (peek0 l))) (b := .int .i64 (atOf E l)))
  have K1 := hide (k1.andBelow (below_box w1 (tokBox l E)))
  have R1 := hide (fun hl => (r1 hl).step (below_box w1 (tokBox l E)))
  have T1 := hide ((T.out.kp k1 h2 (by omega)).below (below_box w1 (tokBox l E)))
  clear k1 r1
  go_upto_region 2 with fail
  show Code.wp _ _ _ _ (w1.alloc (tokBox l E))
  generalize w1.alloc (tokBox l E) = W1 at *
  generalize w1.heap.size = tb at *
  obtain ⟨p0, p1, p2, p3, p4⟩ := P1.out
  cases hm : G.mark idxF 98 255 (peek0 l) with
  | none =>
    have HW := hide (block_head (n := n) (head_none (E := E) hk hm))
    go_region_with ((first
      | (go_at_call 44; refine (labelOf_none hsh hm).mono ?_; rintro e w2 ⟨rfl, b2⟩; refine step_done (P := Tryd.prog) (by exact bodyPost_thrown ⟨K1.out.andBelow (Below.undrew b2), .inr ⟨_, HW.out, rfl⟩⟩) ?_)))
    all_goals trivial
  | some j =>
    have hl : l ≠ [] := fun e => by subst e; cases hm
    by_cases hj : j = (k : Int)
    · subst hj
      have HH := hide (head_good (E := E) hk hm)
      have hjj : ((k : Int) == (k : Int)) = true := by simp
      go_region_held3 (fun w' => w'.cell? ⟨tb, 0, none⟩ = some (.string (bs (peek0 l))) ∧ w'.cell? ⟨tb, 1, none⟩ = some (.int .i64 (atOf E l)))
        (first
          | (go_keep; done)
          | (go_split_ands; exact ⟨(b2.cell (p := ⟨tb, 0, none⟩) p4).trans (by assumption), (b2.cell (p := ⟨tb, 1, none⟩) p4).trans (by assumption)⟩)
          | (go_split_ands; exact ⟨(b3.cell (p := ⟨tb, 0, none⟩) p5).trans (by assumption), (b3.cell (p := ⟨tb, 1, none⟩) p5).trans (by assumption)⟩))
        ((first
          | (go_at_call 44; refine (labelOf_some hsh hm).mono ?_; rintro e w2 ⟨rfl, b2⟩; have p5 : tb < w2.heap.size := Nat.lt_of_lt_of_le p4 b2.size)
          | (go_at_call 31; refine (need_ok _ _ _ _).mono ?_; rintro e w3 ⟨rfl, b3⟩)))
      have b2' : Below W1.heap.size W1 w2 := Below.undrew b2
      have B3 := below_step b2' b3
      have K3 := hide (K1.out.andBelow B3)
      have R3 := hide ((R1.out hl).step B3)
      have T3 := hide (T1.out.below B3)
      clear K1 R1 T1 P1 b2 b2' b3 B3 p0 p1 p2 p3 p4 p5
      go_wp2_with fail
      refine (itself_any [58] (by simp) _ R3.out).mono ?_; rintro e w4 ⟨k4, ⟨u, l2, hx, rfl, r4⟩ | ⟨er, hx, rfl⟩⟩ <;> replace hx := hide hx
      · have HW := hide (block_body (n := n) HH.out hx.out)
        have K4 := hide (K3.out.trans (k4.mono K3.out.size))
        have T4 := hide (T3.out.kp k4 h2 (by have := K3.out.size; omega))
        have R4 := hide r4
        clear K3 R3 T3 k4 r4 hx HH
        go_wp2_with fail
        go_loopw [6] (fun v wr => ∃ (f m : Nat) (acc : List Ins) (l' : List Tok), BlkVal w.heap.size acc v wr ∧ acc.length ≤ 131072 ∧ Rdr B a L E m l' wr ∧ Kp w.heap.size a w wr ∧ Tabs wr ∧ l'.length < f ∧ acc.length + l'.length ≤ L.length ∧ Hid (blockG E k n l = insG E f m acc l')) (fun _ wr => L.length - readAt a wr)
        case atStart => exact ⟨l2.length + 1, n, [], l2, ⟨[], World.ownsRow_nil _ _ _ _, rfl⟩, by simp, R4.out, K4.out, T4.out, by omega, by have := R4.out.suffix.1.length_le; simp; omega, HW⟩
        case round =>
          obtain ⟨f, m, acc, l', hV, h4, H5, K5, T5, hlf, hfit, HM⟩ := hrel
          have hra := H5.readAt
          have hll := H5.suffix.1.length_le
          have hs := K5.size
          obtain ⟨ao6, cap6, rfl⟩ := own_len hV.choose_spec.1
          have hV := hide hV
          have H5 := hide H5
          have K5 := hide K5
          have T5 := hide T5
          obtain ⟨f, rfl⟩ : ∃ q, f = q + 1 := ⟨f - 1, by omega⟩
          have HN1 := hide (is_text (peek0 l') [125])
          have HN2 := hide (is_text (peek1 l') [58])
          go_wp2_with fail
          refine (peek0_any _ H5.out).mono ?_; rintro e w5 ⟨rfl, b5⟩
          by_cases hc1 : peek0 l' = [125]
          · have HE := hide (HM.out.trans (ins_stop (.inl hc1)))
            have hne : ((bs (peek0 l')).toList == [125]) = true := HN1.out.trans (decide_eq_true hc1)
            have hne2 : ((bs (peek0 l')).toList != [125]) = false := by rw [bne, hne]; rfl
            clear hc1 HN1 HN2
            go_wp2_with fail
            go_ret
            exact ⟨K5.out.trans (Kp.of_belowW b5 hs), .inl ⟨acc, m, l', _, HE.out, rfl, hV.out.below b5, H5.out.step b5⟩⟩
          have hne : ((bs (peek0 l')).toList == [125]) = false := HN1.out.trans (decide_eq_false hc1)
          have hne2 : ((bs (peek0 l')).toList != [125]) = true := by rw [bne, hne]; rfl
          replace hc1 := hide hc1
          go_wp2_with fail
          refine (peek1_any _ (H5.out.step b5)).mono ?_; rintro e w6 ⟨z, rfl, b6⟩
          have B6 := hide (below_step b5 b6)
          clear b5 b6
          by_cases hc2 : peek1 l' = [58]
          · have HE := hide (HM.out.trans (ins_stop (.inr hc2)))
            have hnf : ((bs (peek1 l')).toList == [58]) = true := HN2.out.trans (decide_eq_true hc2)
            have hnf2 : ((bs (peek1 l')).toList != [58]) = false := by rw [bne, hnf]; rfl
            clear hc2 HN1 HN2
            go_wp2_with fail
            go_ret
            exact ⟨K5.out.trans (Kp.of_belowW B6.out hs), .inl ⟨acc, m, l', _, HE.out, rfl, hV.out.below B6.out, H5.out.step B6.out⟩⟩
          have hnf : ((bs (peek1 l')).toList == [58]) = false := HN2.out.trans (decide_eq_false hc2)
          have hnf2 : ((bs (peek1 l')).toList != [58]) = true := by rw [bne, hnf]; rfl
          have hcc : Hid (¬ (peek0 l' = [125] ∨ peek1 l' = [58])) := hide (fun h => h.elim hc1.out hc2)
          clear hc1 hc2 HN1 HN2
          have V6 := hide (hV.out.below B6.out)
          have H6 := hide (H5.out.step B6.out)
          have K6 := hide (K5.out.trans (Kp.of_belowW B6.out hs))
          have T6 := hide (T5.out.below B6.out)
          have hs6 := K6.out.size
          clear hV H5 K5 T5 B6 hs
          obtain ⟨_, v6, c0, c1, c2, c3, f0, f1, f2, f3, hv⟩ := H6.out.cells
          have haw : a < w6.heap.size := by omega
          clear hv c0 c1 c2 f0 f1 f2
          by_cases hm4 : m < 4096
          · have hm4' : (m : Int) < 4096 := by omega
            go_wp2_with fail
            go_region_held3 (fun w' => w'.cell? ⟨a, 3, none⟩ = some (.int .i64 (m : Int)))
              (first
                | (go_keep; done)
                | (exact (b7.cell (p := ⟨a, 3, none⟩) haw).trans (by assumption))
                | (exact (b8.cell (p := ⟨a, 3, none⟩) haw7).trans (by assumption)))
              ((first
                | (go_at_call 32; refine (peek0_any _ H6.out.drew).mono ?_; rintro e w7 ⟨rfl, b7⟩; have haw7 : a < w7.heap.size := Nat.lt_of_lt_of_le haw b7.size)
                | (go_at_call 31; refine (need_ok _ _ _ _).mono ?_; rintro e w8 ⟨rfl, b8⟩)))
            have b7' : Below w6.heap.size w6 w7 := Below.undrew b7
            have B8 := below_step b7' b8
            have V8 := hide (V6.out.below B8)
            have H8 := hide (H6.out.step B8)
            have K8 := hide (K6.out.trans (Kp.of_belowW B8 hs6))
            have T8 := hide (T6.out.below B8)
            have hs8 := K8.out.size
            clear V6 H6 K6 T6 b7 b7' b8 B8 c3 f3 hs6 haw haw7
            obtain ⟨haw, v6, c0, c1, c2, c3, f0, f1, f2, f3, hv⟩ := H8.out.cells
            clear hv c0 c1 c2 f0 f1 f2
            have H9 := hide (H8.out.count hm4)
            have F9 := (Far.refl a w8).set 3 (.int .i64 ((m : Int) + 1))
            have K9 := hide (K8.out.setCell (p := ⟨a, 3, none⟩) (.inl ⟨rfl, by simp⟩) H8.out.not80 (.int .i64 ((m : Int) + 1)))
            have T9 := hide (T8.out.of (by rw [F9.2.2.2.1]; exact Nat.le_refl _) (F9.2.2.2.2 0 (by omega)) (F9.2.2.2.2 1 (by omega)))
            have V9 := hide (V8.out.far F9 (by omega))
            clear F9
            go_upto_region 8 with fail
            show Code.wp _ _ _ _ (w8.setCell ⟨a, 3, none⟩ (.int .i64 ((m : Int) + 1)))
            generalize w8.setCell ⟨a, 3, none⟩ (.int .i64 ((m : Int) + 1)) = W9 at *
            clear V8 H8 K8 T8 c3 f3 haw hs8
            have hs9 := K9.out.size
            go_wp2_with fail
            refine (instr_any _ H9.out T9.out h2).mono ?_; rintro e w10 ⟨k10, ⟨x, l10, v, hx, rfl, ⟨va, vt, rfl, o1, o2⟩, r10⟩ | ⟨er, hx, rfl⟩⟩ <;> replace hx := hide hx
            · have hless := instr_less hx.out
              have HE := hide (HM.out.trans (ins_go hcc.out hm4 hx.out))
              obtain ⟨aoA, mA, cA, rfl⟩ := own_slice o1
              obtain ⟨aoT, mT, cT, rfl⟩ := own_slice o2
              have V10 := V9.out.kp k10 (by omega)
              obtain ⟨cs, oR, hR⟩ := V10
              have K10 := hide (K9.out.trans (k10.mono hs9))
              have T10 := hide (T9.out.kp k10 h2 (by omega))
              have o1 := hide (own_base o1 hs9)
              have o2 := hide (own_base o2 hs9)
              have R10 := hide r10
              have oR := hide oR
              have hR := hide hR
              have hs10 := K10.out.size
              clear V9 H9 K9 T9 k10 r10
              unfold insCells
              go_wp2_with (at_builtin; refine wpList_append_own _ rfl (.tmp 42) (.tmp 45) 36 rfl w.heap.size 38 i0 _ 8 104 Tryd.underlying36 hi0 hz0 hz1 hz2 rfl (by decide) _ _ _ rfl (oR.out.alloc _) ⟨w10.heap.size, 0, none⟩ 1 1 (insCells x (.slice aoA mA cA) (.slice aoT mT cT)) rfl rfl eight_cell eight_one (by unfold maxLen; omega) (by omega) (by simp; omega) ?_; intro v11 w11 own11 grow11 _)
              have V11 := hide (BlkVal.snoc oR.out hR.out o1.out o2.out own11 grow11)
              have K11 := hide ((K10.out.alloc hs10 _).grown grow11 (by simp; omega) (fun q hq => ⟨(oR.out.lt q hq).1, by have := (oR.out.lt q hq).1; omega⟩) (own_not80 (oR.out.alloc _) (by decide)))
              have R11 := (R10.out.step (below_box w10 _)).grown grow11 (fun q hq => Nat.le_trans hBw (oR.out.lt q hq).1)
              have T11 := hide (T10.out.grew (below_box w10 _) grow11 (fun q hq => by have := (oR.out.lt q hq).1; omega))
              have hra2 := R11.readAt
              have hll2 := R11.suffix.1.length_le
              have R11 := hide R11
              clear own11 grow11
              go_wp2_with fail
              go_roundw
              case rel => exact ⟨f, m + 1, acc ++ [x], l10, V11.out, by simp; omega, R11.out, K11.out, T11.out, by omega, by simp; omega, HE⟩
              case measure => rw [hra, hra2]; omega
            · have HE := hide (HM.out.trans (ins_bad hcc.out hm4 hx.out))
              have K10 := hide (K9.out.trans (k10.mono hs9))
              unfold thrown
              go_wp2_with fail
              exact bodyPost_thrown ⟨K10.out, .inr ⟨er, HE.out, rfl⟩⟩
          · have HE := hide (HM.out.trans (ins_many hcc.out (by omega)))
            have hm4' : ¬ (m : Int) < 4096 := by omega
            have hm5 : (4096 : Int) ≤ m := by omega
            have hm6 : decide ((m : Int) < 4096) = false := by simpa using hm5
            go_wp2_with fail
            go_region_with ((first
              | (go_at_call 32; refine (peek0_any _ H6.out.drew).mono ?_; rintro e w7 ⟨rfl, b7⟩; have c37 := (b7.cell (p := ⟨a, 3, none⟩) haw).trans c3)
              | (go_at_call 31; refine (need_no _ _ _ _).mono ?_; rintro e w8 ⟨rfl, b8⟩; refine step_done (P := Tryd.prog) (by exact bodyPost_thrown (P := Tryd.prog) (fn := Tryd.f39) ⟨K6.out.trans (Kp.of_belowW (below_step (Below.undrew (w := w6) b7) b8) hs6), .inr ⟨_, HE.out, rfl⟩⟩) ?_)))
            all_goals trivial
      · have HW := hide (block_word (n := n) HH.out hx.out)
        have K4 := hide (K3.out.trans (k4.mono K3.out.size))
        unfold thrown
        go_wp2_with fail
        exact bodyPost_thrown ⟨K4.out, .inr ⟨er, HW.out, rfl⟩⟩
    · have HW := hide (block_head (n := n) (head_other (E := E) hk hm hj))
      have hjj : (j == (k : Int)) = false := by simpa using hj
      go_region_with ((first
        | (go_at_call 44; refine (labelOf_some hsh hm).mono ?_; rintro e w2 ⟨rfl, b2⟩; obtain ⟨q0, q1, q2, q3, q4⟩ := P1.out.below (Below.undrew b2))
        | (go_at_call 31; refine (need_no _ _ _ _).mono ?_; rintro e w3 ⟨rfl, b3⟩; refine step_done (P := Tryd.prog) (by exact bodyPost_thrown ⟨(K1.out.andBelow (Below.undrew b2)).andBelow b3, .inr ⟨_, HW.out, rfl⟩⟩) ?_)))
      all_goals trivial
end Go.Proofs.YtkkkgennkhdfhaaDoor
