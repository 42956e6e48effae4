/- Layer 6, the reference's reader, where nothing is wrong: operands of a fixed row of kinds. Layer 6, the reference's reader, where nothing is wrong: which operands an operation has. Layer 6, the reference's reader, where nothing is wrong: what an operation's operands are, letter by letter. -/
import Derived.Test.YtmiplohoclckcaaGreatLtAG
import Derived.Test.YtmiplohoclckcaaGreatLtAQ
import Derived.Test.YtmiplohoclckcaaGreatLtAR
namespace Go.Proofs.YtmiplohoclckcaaGreat
open Go Go.RowKit
open G (Tok Er Ins Fun peek0 peek1 atOf)
/-- What is read letter by letter. -/
def restG (E : Int) : List UInt8 → Ins → List Tok → Except Er (Ins × List Tok)
  | [], x, l => .ok (x, l)
  | c :: r, x, l =>
    if c = 118 then G.andThen (G.value idxF E l) fun v l' => restG E r (addArg x v) l'
    else if c = 115 then G.andThen (G.number numF E 0 15 l) fun v l' => restG E r (setN x v) l'
    else if c = 110 then G.andThen (G.number numF E 0 1048576 l) fun v l' => restG E r (setN x v) l'
    else G.andThen (G.label idxF E l) fun v l' => restG E r (addTo x v) l'
theorem drop_at {s : List UInt8} {k : Nat} (h : k < s.length) : ∃ c, s[k]? = some c ∧ s.drop k = c :: s.drop (k + 1) := ⟨s[k], List.getElem?_eq_getElem h, List.drop_eq_getElem_cons h⟩
theorem bs_at {s : List UInt8} {k : Nat} {c : UInt8} (h : s[k]? = some c) : ∃ hk : k < (bs s).size, (bs s)[k] = c := by
  obtain ⟨h1, h2⟩ := List.getElem?_eq_some_iff.1 h
  exact ⟨by rw [bs_size]; exact h1, h2⟩
set_option maxHeartbeats 4000000 in
set_option maxRecDepth 20000 in
theorem rrest (s : List UInt8) (op id nn ty : Int) (nm : List UInt8) (p : Int) {a : Nat} {L : List Tok} {E : Int} {n : Nat} {l lf : List Tok} {y : Ins} (w : World) (h : RR a L E n l w) (hs : ∀ c ∈ s, c = 118 ∨ c = 115 ∨ c = 110 ∨ c = 108) (hsl : s.length ≤ 100) (hr : restG E s (op, id, nn, ty, [], [], nm, p) l = .ok (y, lf)) :
    Calls Tryz.prog 105 #[.pointer (some ⟨a, 0, none⟩), .agg (bare8 op id nn ty (bs nm) p), .string (bs s)] w (ROut a L E n y lf w) := by
  obtain ⟨i0, hi0, hz0, hz1, hz2⟩ := info_parts Tryz.info3
  have M0 : Hid (MidR w a (w.heap.size + 1 + 1) (w.heap.size + 1) L E n (op, id, nn, ty, [], [], nm, p) l (((w.alloc (.cells (bare8 op id nn ty (bs nm) p) 67)).alloc (.cells (bare8 0 0 0 0 ⟨#[]⟩ 0) 67)).alloc (.cells (bare8 op id nn ty (bs nm) p) 67))) := hide (MidR.start h op id nn ty nm p)
  have HR := hide hr
  have HS := hide hs
  have hz : (bs s).size ≤ 100 := by rw [bs_size]; exact hsl
  have HZ := hide (bs_size s)
  clear hr hs
  clear h
  generalize hg : w.heap.size + 1 = g at *
  generalize hc : g + 1 = c at *
  go_enter Tryz.func105, Tryz.ntmps105
  go_upto_region 2 with fail
  show Code.wp _ _ _ _ (((w.alloc (.cells (bare8 op id nn ty (bs nm) p) 67)).alloc (.cells (bare8 0 0 0 0 ⟨#[]⟩ 0) 67)).alloc (.cells (bare8 op id nn ty (bs nm) p) 67))
  generalize ((w.alloc (.cells (bare8 op id nn ty (bs nm) p) 67)).alloc (.cells (bare8 0 0 0 0 ⟨#[]⟩ 0) 67)).alloc (.cells (bare8 op id nn ty (bs nm) p) 67) = W0 at *
  clear hg hc
  go_wp2_with fail
  go_loopw [8] (fun i wr => ∃ (k : Nat) (x' : Ins) (l' : List Tok), i = .int .i64 k ∧ k ≤ s.length ∧ x'.2.2.2.2.1.length ≤ k ∧ x'.2.2.2.2.2.1.length ≤ k ∧ Hid (MidR w a c g L E n x' l' wr) ∧ Hid (restG E (s.drop k) x' l' = .ok (y, lf))) (fun i _ => s.length - (intOf i).toNat)
  case atStart => exact ⟨0, _, l, rfl, Nat.zero_le _, Nat.le_refl _, Nat.le_refl _, M0, HR⟩
  case round =>
    obtain ⟨k, x', l', rfl, hk, hA, hT, M, HR'⟩ := hrel
    by_cases hlt : k < s.length
    · obtain ⟨d, hd, hdr⟩ := drop_at hlt
      obtain ⟨hkz, hb⟩ := bs_at hd
      have HD := HS.out d (List.mem_of_getElem? hd)
      have hRR : Hid (restG E (d :: s.drop (k + 1)) x' l' = .ok (y, lf)) := hide (by rw [← hdr]; exact HR'.out)
      have hkz' : (k : Int) < ((bs s).size : Int) := by omega
      clear hd hdr HR'
      rcases HD with rfl | rfl | rfl | rfl
      · obtain ⟨v, l2, hv, hr2⟩ := then_inv (show G.andThen (G.value idxF E l') (fun v l'' => restG E (s.drop (k + 1)) (addArg x' v) l'') = .ok (y, lf) from hRR.out)
        have hb1 : ((bs s)[k].toNat : Int) = 118 := by rw [hb]; rfl
        have HV := hide hv
        have HR2 := hide hr2
        clear hb hv hr2 hRR
        go_wp2_with fail
        refine (rvalue _ M.out.1 HV.out).mono ?_; rintro e w1 ⟨rfl, a1⟩
        have M1 := hide (M.out.ate a1)
        clear M a1
        obtain ⟨va, vt, HC, HZ4, o1, o2, o3⟩ := M1.out.2.1.cells
        have hcl5 := M1.out.lt
        have cA := HC 4 _ rfl
        have zA := HZ4 4
        have hne : va.ownBlock ≠ some c := (o3 c (by obtain ⟨ua, ut, q1, _⟩ := M1.out.2.1; exact ⟨_, _, q1⟩)).1
        obtain ⟨ao5, cp5, rfl⟩ := own_len o1
        have O5 := hide o1
        obtain ⟨cB, zB⟩ := Cel.below (below_box w1 (.cells #[.int .i64 v] 3)) hcl5.2.2.2.1 cA zA
        clear HC HZ4 o1 o2 o3
        have t25 : x'.2.2.2.2.1.length + 1 ≤ maxLen := by unfold maxLen; omega
        have t35 : (x'.2.2.2.2.1.length + 1) * 8 ≤ 140737488355328 := by omega
        have t45 : w.heap.size ≤ (w1.alloc (.cells #[.int .i64 v] 3)).heap.size := by simp; omega
        have t55 : c < (w1.alloc (.cells #[.int .i64 v] 3)).heap.size := by simp; omega
        go_wp2_with (at_builtin; refine wpList_append_lies _ rfl (.tmp 26) (.tmp 28) 22 rfl w.heap.size 3 i0 _ 1 8 Tryz.underlying22 hi0 hz0 hz1 hz2 rfl (by decide) _ _ _ rfl (O5.out.alloc _) ⟨w1.heap.size, 0, none⟩ 1 1 [.int .i64 v] rfl rfl one_cell one_one (by decide) t25 t35 t45 (w1.heap.size + 1) (by simp) ?_; intro gg5 cap5 w5 hown5 hgrow5 hat5 hlt5; obtain ⟨cC5, zC5⟩ := Cel.grown hgrow5 t55 hne cB zB)
        have M3 := hide ((M1.out.below (below_box w1 (.cells #[.int .i64 v] 3))).arg cB hown5 hgrow5 (hat5.imp (fun e => e) (fun e => e.trans (by simp))))
        go_roundw
        case rel => exact ⟨k + 1, _, l2, by go_num, by omega, by (show _ ≤ _ + 1; grind [addArg, addTo, setN]), by (show _ ≤ _ + 1; grind [addArg, addTo, setN]), M3, HR2⟩
        case measure => simp [intOf]; omega
      · obtain ⟨v, l2, hv, hr2⟩ := then_inv (show G.andThen (G.number numF E 0 15 l') (fun v l'' => restG E (s.drop (k + 1)) (setN x' v) l'') = .ok (y, lf) from hRR.out)
        have hb1 : ((bs s)[k].toNat : Int) = 115 := by rw [hb]; rfl
        obtain rfl : l2 = l'.tail := (number_ok hv).1
        have HV := hide hv
        have HR2 := hide hr2
        clear hb hv hr2 hRR
        go_wp2_with fail
        refine (rnumber 0 15 v _ M.out.1 (number_ok HV.out).2.1 (number_ok HV.out).2.2.1 (number_ok HV.out).2.2.2).mono ?_; rintro e w1 ⟨rfl, a1⟩
        have M1 := hide (M.out.ate a1)
        clear M a1
        obtain ⟨va, vt, HC, HZ4, o1, o2, o3⟩ := M1.out.2.1.cells
        have cA := HC 2 _ rfl
        have zA := HZ4 2
        have M3 := hide (M1.out.put (M1.out.2.1.setN v))
        clear HC HZ4 o1 o2 o3
        go_wp2_with fail
        go_roundw
        case rel => exact ⟨k + 1, _, l'.tail, by go_num, by omega, by (show _ ≤ _ + 1; grind [addArg, addTo, setN]), by (show _ ≤ _ + 1; grind [addArg, addTo, setN]), M3, HR2⟩
        case measure => simp [intOf]; omega
      · obtain ⟨v, l2, hv, hr2⟩ := then_inv (show G.andThen (G.number numF E 0 1048576 l') (fun v l'' => restG E (s.drop (k + 1)) (setN x' v) l'') = .ok (y, lf) from hRR.out)
        have hb1 : ((bs s)[k].toNat : Int) = 110 := by rw [hb]; rfl
        obtain rfl : l2 = l'.tail := (number_ok hv).1
        have HV := hide hv
        have HR2 := hide hr2
        clear hb hv hr2 hRR
        go_wp2_with fail
        refine (rnumber 0 1048576 v _ M.out.1 (number_ok HV.out).2.1 (number_ok HV.out).2.2.1 (number_ok HV.out).2.2.2).mono ?_; rintro e w1 ⟨rfl, a1⟩
        have M1 := hide (M.out.ate a1)
        clear M a1
        obtain ⟨va, vt, HC, HZ4, o1, o2, o3⟩ := M1.out.2.1.cells
        have cA := HC 2 _ rfl
        have zA := HZ4 2
        have M3 := hide (M1.out.put (M1.out.2.1.setN v))
        clear HC HZ4 o1 o2 o3
        go_wp2_with fail
        go_roundw
        case rel => exact ⟨k + 1, _, l'.tail, by go_num, by omega, by (show _ ≤ _ + 1; grind [addArg, addTo, setN]), by (show _ ≤ _ + 1; grind [addArg, addTo, setN]), M3, HR2⟩
        case measure => simp [intOf]; omega
      · obtain ⟨v, l2, hv, hr2⟩ := then_inv (show G.andThen (G.label idxF E l') (fun v l'' => restG E (s.drop (k + 1)) (addTo x' v) l'') = .ok (y, lf) from hRR.out)
        have hb1 : ((bs s)[k].toNat : Int) = 108 := by rw [hb]; rfl
        have HV := hide hv
        have HR2 := hide hr2
        clear hb hv hr2 hRR
        go_wp2_with fail
        refine (rlabel _ M.out.1 HV.out).mono ?_; rintro e w1 ⟨rfl, a1⟩
        have M1 := hide (M.out.ate a1)
        clear M a1
        obtain ⟨va, vt, HC, HZ4, o1, o2, o3⟩ := M1.out.2.1.cells
        have hcl5 := M1.out.lt
        have cA := HC 5 _ rfl
        have zA := HZ4 5
        have hne : vt.ownBlock ≠ some c := (o3 c (by obtain ⟨ua, ut, q1, _⟩ := M1.out.2.1; exact ⟨_, _, q1⟩)).2
        obtain ⟨ao5, cp5, rfl⟩ := own_len o2
        have O5 := hide o2
        obtain ⟨cB, zB⟩ := Cel.below (below_box w1 (.cells #[.int .i64 v] 3)) hcl5.2.2.2.1 cA zA
        clear HC HZ4 o1 o2 o3
        have t25 : x'.2.2.2.2.2.1.length + 1 ≤ maxLen := by unfold maxLen; omega
        have t35 : (x'.2.2.2.2.2.1.length + 1) * 8 ≤ 140737488355328 := by omega
        have t45 : w.heap.size ≤ (w1.alloc (.cells #[.int .i64 v] 3)).heap.size := by simp; omega
        have t55 : c < (w1.alloc (.cells #[.int .i64 v] 3)).heap.size := by simp; omega
        go_wp2_with (at_builtin; refine wpList_append_lies _ rfl (.tmp 46) (.tmp 48) 22 rfl w.heap.size 3 i0 _ 1 8 Tryz.underlying22 hi0 hz0 hz1 hz2 rfl (by decide) _ _ _ rfl (O5.out.alloc _) ⟨w1.heap.size, 0, none⟩ 1 1 [.int .i64 v] rfl rfl one_cell one_one (by decide) t25 t35 t45 (w1.heap.size + 1) (by simp) ?_; intro gg5 cap5 w5 hown5 hgrow5 hat5 hlt5; obtain ⟨cC5, zC5⟩ := Cel.grown hgrow5 t55 hne cB zB)
        have M3 := hide ((M1.out.below (below_box w1 (.cells #[.int .i64 v] 3))).to cB hown5 hgrow5 (hat5.imp (fun e => e) (fun e => e.trans (by simp))))
        go_roundw
        case rel => exact ⟨k + 1, _, l2, by go_num, by omega, by (show _ ≤ _ + 1; grind [addArg, addTo, setN]), by (show _ ≤ _ + 1; grind [addArg, addTo, setN]), M3, HR2⟩
        case measure => simp [intOf]; omega
    · have hk2 : k = s.length := by omega
      have HE : Hid (restG E [] x' l' = .ok (y, lf)) := hide (by have := HR'.out; rwa [hk2, List.drop_length] at this)
      obtain ⟨rfl, rfl⟩ : x' = y ∧ l' = lf := by have := HE.out; cases this; exact ⟨rfl, rfl⟩
      have hkz' : ¬ (k : Int) < ((bs s).size : Int) := by have := HZ.out; omega
      have hkz2 : decide ((k : Int) < ((bs s).size : Int)) = false := by simpa using hkz'
      obtain ⟨va', vt', HC, HZ4, o1, o2, o3⟩ := M.out.2.1.cells
      obtain ⟨aoA, mA, cA, rfl⟩ := own_slice o1
      obtain ⟨aoT, mT, cT, rfl⟩ := own_slice o2
      have y0 := HC 0 _ rfl
      have y1 := HC 1 _ rfl
      have y2 := HC 2 _ rfl
      have y3 := HC 3 _ rfl
      have y4 := HC 4 _ rfl
      have y5 := HC 5 _ rfl
      have y6 := HC 6 _ rfl
      have y7 := HC 7 _ rfl
      have hS := M.out.2.2.1
      obtain ⟨o3a, o3b⟩ := o3 g ⟨_, _, hS⟩
      have hS := hide hS
      have o1 := hide o1
      have o2 := hide o2
      clear HC HZ4 o3
      obtain ⟨s0, s1, s2, s3, s4, s5, s6, s7, f0, f1, f2, f3, f4, f5, f6, f7⟩ := res8 hS.out
      have hcn : c ≠ g := fun e => M.out.2.2.2.2.2.2 e.symm
      have FF := hide (((((((((Far.refl g wr).set 0 (.int .i64 x'.1)).set 1 (.int .i64 x'.2.1)).set 2 (.int .i64 x'.2.2.1)).set 3 (.int .i64 x'.2.2.2.1)).set 4 (.slice aoA mA cA)).set 5 (.slice aoT mT cT)).set 6 (.string (bs x'.2.2.2.2.2.2.1))).set 7 (.int .i64 x'.2.2.2.2.2.2.2))
      have KK := hide (FF.out.kr M.out.2.2.2.1 M.out.2.2.2.2.2.1)
      have QQ := hide (FF.out.rr M.out.1 hS.out (by decide) (by have := M.out.lt; omega))
      have OO := hide (⟨FF.out.own o1.out o3a, FF.out.own o2.out o3b⟩ : _ ∧ _)
      go_wp2_with fail
      exact bodyPost_ret (v := .agg (insCells x' (.slice aoA mA cA) (.slice aoT mT cT)).toArray) (by simp [results, Tryz.results105, go_sem, insCells, s0, s1, s2, s3, s4, s5, s6, s7]) rfl ⟨_, rfl, ⟨_, _, rfl, OO.out.1, OO.out.2⟩, QQ.out, KK.out⟩
end Go.Proofs.YtmiplohoclckcaaGreat
namespace Go.Proofs.YtmiplohoclckcaaGreat
open Go Go.RowKit
open G (Tok Er Ins Fun peek0 peek1 atOf)
/-- The kinds of an operation's operands. -/
def letG (op : Int) : List UInt8 :=
  if op = 11 then [118, 115] else if op = 12 then [118, 115] else if op = 15 then [118, 115] else if op = 13 then [118, 115, 118] else if op = 14 then [118, 115, 118]
  else if op = 23 then [110] else if op = 24 then [118, 110] else if op = 26 then [108] else if op = 27 then [118, 108, 108] else List.replicate (tksF op) 118
theorem tks_le (op : Int) : tksF op ≤ 2 := by
  unfold tksF L5.takes
  exact List.length_filter_le _ _
theorem v_more (k : Nat) : bs (List.replicate k 118) ++ ⟨#[118]⟩ = bs (List.replicate (k + 1) 118) := by
  rw [show (⟨#[118]⟩ : ByteArray) = bs [118] from rfl, cat_bs, List.replicate_succ']
set_option maxRecDepth 20000 in
theorem rletters_11 (w : World) : Calls Tryz.prog 106 #[.int .i64 11] w fun e w' => e = .returned (.string (bs (letG 11))) ∧ Below w.heap.size w w' := by
  go_enter Tryz.func106, Tryz.ntmps106
  go_wp2_with fail
  go_ret
  exact ⟨rfl, Below.refl _ _⟩
set_option maxRecDepth 20000 in
theorem rletters_12 (w : World) : Calls Tryz.prog 106 #[.int .i64 12] w fun e w' => e = .returned (.string (bs (letG 12))) ∧ Below w.heap.size w w' := by
  go_enter Tryz.func106, Tryz.ntmps106
  go_wp2_with fail
  go_ret
  exact ⟨rfl, Below.refl _ _⟩
set_option maxRecDepth 20000 in
theorem rletters_15 (w : World) : Calls Tryz.prog 106 #[.int .i64 15] w fun e w' => e = .returned (.string (bs (letG 15))) ∧ Below w.heap.size w w' := by
  go_enter Tryz.func106, Tryz.ntmps106
  go_wp2_with fail
  go_ret
  exact ⟨rfl, Below.refl _ _⟩
set_option maxRecDepth 20000 in
theorem rletters_13 (w : World) : Calls Tryz.prog 106 #[.int .i64 13] w fun e w' => e = .returned (.string (bs (letG 13))) ∧ Below w.heap.size w w' := by
  go_enter Tryz.func106, Tryz.ntmps106
  go_wp2_with fail
  go_ret
  exact ⟨rfl, Below.refl _ _⟩
set_option maxRecDepth 20000 in
theorem rletters_14 (w : World) : Calls Tryz.prog 106 #[.int .i64 14] w fun e w' => e = .returned (.string (bs (letG 14))) ∧ Below w.heap.size w w' := by
  go_enter Tryz.func106, Tryz.ntmps106
  go_wp2_with fail
  go_ret
  exact ⟨rfl, Below.refl _ _⟩
set_option maxRecDepth 20000 in
theorem rletters_23 (w : World) : Calls Tryz.prog 106 #[.int .i64 23] w fun e w' => e = .returned (.string (bs (letG 23))) ∧ Below w.heap.size w w' := by
  go_enter Tryz.func106, Tryz.ntmps106
  go_wp2_with fail
  go_ret
  exact ⟨rfl, Below.refl _ _⟩
set_option maxRecDepth 20000 in
theorem rletters_24 (w : World) : Calls Tryz.prog 106 #[.int .i64 24] w fun e w' => e = .returned (.string (bs (letG 24))) ∧ Below w.heap.size w w' := by
  go_enter Tryz.func106, Tryz.ntmps106
  go_wp2_with fail
  go_ret
  exact ⟨rfl, Below.refl _ _⟩
set_option maxRecDepth 20000 in
theorem rletters_26 (w : World) : Calls Tryz.prog 106 #[.int .i64 26] w fun e w' => e = .returned (.string (bs (letG 26))) ∧ Below w.heap.size w w' := by
  go_enter Tryz.func106, Tryz.ntmps106
  go_wp2_with fail
  go_ret
  exact ⟨rfl, Below.refl _ _⟩
set_option maxRecDepth 20000 in
theorem rletters_27 (w : World) : Calls Tryz.prog 106 #[.int .i64 27] w fun e w' => e = .returned (.string (bs (letG 27))) ∧ Below w.heap.size w w' := by
  go_enter Tryz.func106, Tryz.ntmps106
  go_wp2_with fail
  go_ret
  exact ⟨rfl, Below.refl _ _⟩
set_option maxRecDepth 20000 in
theorem rletters_else (op : Int) (w : World) (h11 : (op == 11) = false) (h12 : (op == 12) = false) (h15 : (op == 15) = false) (h13 : (op == 13) = false) (h14 : (op == 14) = false) (h23 : (op == 23) = false) (h24 : (op == 24) = false) (h26 : (op == 26) = false) (h27 : (op == 27) = false) : Calls Tryz.prog 106 #[.int .i64 op] w fun e w' => e = .returned (.string (bs (letG op))) ∧ Below w.heap.size w w' := by
  have HL : Hid (List.replicate (tksF op) 118 = letG op) := hide (by
    simp only [beq_eq_false_iff_ne, ne_eq] at *
    unfold letG
    rw [if_neg h11, if_neg h12, if_neg h15, if_neg h13, if_neg h14, if_neg h23, if_neg h24, if_neg h26, if_neg h27])
  have hm := tks_le op
  go_enter Tryz.func106, Tryz.ntmps106
  go_wp2_with fail
  clear h11 h12 h15 h13 h14 h23 h24 h26 h27
  go_loopw [3, 4] (fun sv i wr => ∃ k : Nat, k ≤ tksF op ∧ sv = .string (bs (List.replicate k 118)) ∧ i = .int .i64 k ∧ Hid (Below w.heap.size w wr)) (fun _ i _ => tksF op - (intOf i).toNat)
  case atStart => exact ⟨0, Nat.zero_le _, rfl, rfl, Below.refl _ _⟩
  case round =>
    obtain ⟨k, hk, rfl, rfl, HB⟩ := hrel
    go_wp2_with fail
    refine (L5.refTakes_any op _).mono ?_; rintro e w1 ⟨ao, cap, rfl, _, b1⟩
    have HB1 := hide (below_step HB.out b1)
    clear HB b1
    change k ≤ (L5.takes (L5.num op)).length at hk
    have hm' : (L5.takes (L5.num op)).length ≤ 2 := hm
    by_cases hlt : k < (L5.takes (L5.num op)).length
    · have hlt' : (k : Int) < ((L5.takes (L5.num op)).length : Int) := by omega
      have hz : (bs (List.replicate k 118)).size ≤ 2 := by rw [bs_size, List.length_replicate]; omega
      have hv := v_more k
      go_wp2_with fail
      go_roundw
      case rel => exact ⟨k + 1, by show k + 1 ≤ (L5.takes (L5.num op)).length; omega, by first | rfl | rw [← hv], by go_num, HB1⟩
      case measure => simp [intOf, tksF]; omega
    · have hk2 : Hid (k = tksF op) := hide (by show k = (L5.takes (L5.num op)).length; omega)
      have hlt' : ¬ (k : Int) < ((L5.takes (L5.num op)).length : Int) := by omega
      have HQ : Hid (bs (List.replicate k 118) = bs (letG op)) := hide (by rw [hk2.out, HL.out])
      have hlt2 : decide ((k : Int) < ((L5.takes (L5.num op)).length : Int)) = false := by simpa using hlt'
      go_wp2_with fail
      go_ret
      exact ⟨L5.ret_str HQ.out, HB1.out⟩
theorem rletters (op : Int) (w : World) : Calls Tryz.prog 106 #[.int .i64 op] w fun e w' => e = .returned (.string (bs (letG op))) ∧ Below w.heap.size w w' := by
  by_cases h11 : op = 11
  · subst h11; exact rletters_11 w
  by_cases h12 : op = 12
  · subst h12; exact rletters_12 w
  by_cases h15 : op = 15
  · subst h15; exact rletters_15 w
  by_cases h13 : op = 13
  · subst h13; exact rletters_13 w
  by_cases h14 : op = 14
  · subst h14; exact rletters_14 w
  by_cases h23 : op = 23
  · subst h23; exact rletters_23 w
  by_cases h24 : op = 24
  · subst h24; exact rletters_24 w
  by_cases h26 : op = 26
  · subst h26; exact rletters_26 w
  by_cases h27 : op = 27
  · subst h27; exact rletters_27 w
  exact rletters_else op w (by simpa using h11) (by simpa using h12) (by simpa using h15) (by simpa using h13) (by simpa using h14) (by simpa using h23) (by simpa using h24) (by simpa using h26) (by simpa using h27)
end Go.Proofs.YtmiplohoclckcaaGreat
namespace Go.Proofs.YtmiplohoclckcaaGreat
open Go Go.RowKit
open G (Tok Er Ins Fun peek0 peek1 atOf)
theorem fin_of {w : World} {a c g : Nat} {L : List Tok} {E : Int} {n : Nat} {x y : Ins} {l lf : List Tok} {W1 w2 : World} {v : Value} (M : MidR w a c g L E n x l W1) (h : InsVal W1.heap.size y v w2 ∧ RR a L E n lf w2 ∧ Kr a W1 w2) :
    ∃ aoA mA cA aoT mT cT, v = .agg (insCells y (.slice aoA mA cA) (.slice aoT mT cT)).toArray ∧ w2.heap[g]? = some (.cells #[.int .i64 0, .int .i64 0, .int .i64 0, .int .i64 0, .slice none 0 0, .slice none 0 0, .string ⟨#[]⟩, .int .i64 0] 67 (0, 0)) ∧
      ∀ W, Far g w2 W → W.ownsRow w.heap.size 3 1 (.slice aoA mA cA) y.2.2.2.2.1.length (ints y.2.2.2.2.1) ∧ W.ownsRow w.heap.size 3 1 (.slice aoT mT cT) y.2.2.2.2.2.1.length (ints y.2.2.2.2.2.1) ∧ RR a L E n lf W ∧ Kr a w W := by
  have hl := M.lt
  obtain ⟨⟨va, vt, rfl, o1, o2⟩, r, k⟩ := h
  obtain ⟨h1, h2, h3, h4, h5, h6, h7⟩ := M
  obtain ⟨aoA, mA, cA, rfl⟩ := own_slice o1
  obtain ⟨aoT, mT, cT, rfl⟩ := own_slice o2
  have hS := (k.2.2.2.2 g hl.2.2.2.2.1 (by omega)).trans h3
  refine ⟨aoA, mA, cA, aoT, mT, cT, rfl, hS, fun W hW => ⟨own_base (hW.own o1 (own_ne o1 hS (by decide))) hl.2.2.2.2.2.2, own_base (hW.own o2 (own_ne o2 hS (by decide))) hl.2.2.2.2.2.2, hW.rr r hS (by decide) (by omega), hW.kr (h4.trans k) h6⟩⟩
theorem start_cell (w : World) (op id nn ty : Int) (nm : ByteArray) (p : Int) : (((w.alloc (.cells (bare8 op id nn ty nm p) 67)).alloc (.cells (bare8 0 0 0 0 ⟨#[]⟩ 0) 67)).alloc (.cells (bare8 op id nn ty nm p) 67)).heap[w.heap.size + 1 + 1]? = some (.cells (bare8 op id nn ty nm p) 67 (0, 0)) := by
  have s2 : ((w.alloc (.cells (bare8 op id nn ty nm p) 67)).alloc (.cells (bare8 0 0 0 0 ⟨#[]⟩ 0) 67)).heap.size = w.heap.size + 1 + 1 := by simp
  rw [← s2]; exact heap_alloc_new _ _
theorem eight_of {w : World} {c : Nat} {op id nn ty p : Int} {nm : ByteArray} (h : w.heap[c]? = some (.cells (bare8 op id nn ty nm p) 67 (0, 0))) :
    w.cell? ⟨c, 0, none⟩ = some (.int .i64 op) ∧ w.cell? ⟨c, 1, none⟩ = some (.int .i64 id) ∧ w.cell? ⟨c, 2, none⟩ = some (.int .i64 nn) ∧ w.cell? ⟨c, 3, none⟩ = some (.int .i64 ty) ∧ w.cell? ⟨c, 4, none⟩ = some (.slice none 0 0) ∧ w.cell? ⟨c, 5, none⟩ = some (.slice none 0 0) ∧ w.cell? ⟨c, 6, none⟩ = some (.string nm) ∧ w.cell? ⟨c, 7, none⟩ = some (.int .i64 p) ∧ (∀ i, w.frozen? ⟨c, i, none⟩ = false) ∧ c < w.heap.size := by
  refine ⟨?_, ?_, ?_, ?_, ?_, ?_, ?_, ?_, fun i => by simp [World.frozen?, h], (Array.getElem?_eq_some_iff.1 h).1⟩ <;> simp [World.cell?, h]
theorem vals_rest {E : Int} : ∀ (k : Nat) (op id nn ty p : Int) (acc : List Int) (l : List Tok) (a : List Int) (lf : List Tok), G.valuesN idxF E k acc l = .ok (a, lf) → restG E (List.replicate k 118) (op, id, nn, ty, acc, [], [], p) l = .ok ((op, id, nn, ty, a, [], [], p), lf) := by
  intro k
  induction k with
  | zero => intro op id nn ty p acc l a lf h; cases h; rfl
  | succ k ih =>
    intro op id nn ty p acc l a lf h
    obtain ⟨v, r, hv, h2⟩ := then_inv (show G.andThen (G.value idxF E l) (fun v => G.valuesN idxF E k (acc ++ [v])) = .ok (a, lf) from h)
    show G.andThen (G.value idxF E l) _ = _
    rw [hv]
    exact ih op id nn ty p (acc ++ [v]) r a lf h2
theorem let_in (op : Int) : (∀ c ∈ letG op, c = 118 ∨ c = 115 ∨ c = 110 ∨ c = 108) ∧ (letG op).length ≤ 100 := by
  unfold letG
  repeat' (first | split)
  all_goals first | exact ⟨by decide, by decide⟩ | skip
  refine ⟨fun c hc => .inl (List.eq_of_mem_replicate hc), ?_⟩
  rw [List.length_replicate]
  have := tks_le op
  omega
theorem rest_11 {E id ty p : Int} {l lf : List Tok} {y : G.Opd} (h : opsG E 11 l = .ok (y, lf)) : restG E (letG 11) (bare 11 id ty p) l = .ok (fill (bare 11 id ty p) y, lf) := by
  replace h : (fun r0 => G.andThen (G.value idxF E r0) (fun v => fun r1 => G.andThen (G.number numF E 0 15 r1) (fun x => G.done (x, [v], [], [])))) l = .ok (y, lf) := h
  obtain ⟨v, q0, e0, h⟩ := then_inv (show G.andThen (G.value idxF E l) (fun v => fun r1 => G.andThen (G.number numF E 0 15 r1) (fun x => G.done (x, [v], [], []))) = .ok (y, lf) from h)
  obtain ⟨x, q1, e1, h⟩ := then_inv (show G.andThen (G.number numF E 0 15 q0) (fun x => G.done (x, [v], [], [])) = .ok (y, lf) from h)
  cases h
  refine (then_go e0).trans ?_
  refine (then_go e1).trans ?_
  rfl
theorem rest_12 {E id ty p : Int} {l lf : List Tok} {y : G.Opd} (h : opsG E 12 l = .ok (y, lf)) : restG E (letG 12) (bare 12 id ty p) l = .ok (fill (bare 12 id ty p) y, lf) := by
  replace h : (fun r0 => G.andThen (G.value idxF E r0) (fun v => fun r1 => G.andThen (G.number numF E 0 15 r1) (fun x => G.done (x, [v], [], [])))) l = .ok (y, lf) := h
  obtain ⟨v, q0, e0, h⟩ := then_inv (show G.andThen (G.value idxF E l) (fun v => fun r1 => G.andThen (G.number numF E 0 15 r1) (fun x => G.done (x, [v], [], []))) = .ok (y, lf) from h)
  obtain ⟨x, q1, e1, h⟩ := then_inv (show G.andThen (G.number numF E 0 15 q0) (fun x => G.done (x, [v], [], [])) = .ok (y, lf) from h)
  cases h
  refine (then_go e0).trans ?_
  refine (then_go e1).trans ?_
  rfl
theorem rest_15 {E id ty p : Int} {l lf : List Tok} {y : G.Opd} (h : opsG E 15 l = .ok (y, lf)) : restG E (letG 15) (bare 15 id ty p) l = .ok (fill (bare 15 id ty p) y, lf) := by
  replace h : (fun r0 => G.andThen (G.value idxF E r0) (fun v => fun r1 => G.andThen (G.number numF E 0 15 r1) (fun x => G.done (x, [v], [], [])))) l = .ok (y, lf) := h
  obtain ⟨v, q0, e0, h⟩ := then_inv (show G.andThen (G.value idxF E l) (fun v => fun r1 => G.andThen (G.number numF E 0 15 r1) (fun x => G.done (x, [v], [], []))) = .ok (y, lf) from h)
  obtain ⟨x, q1, e1, h⟩ := then_inv (show G.andThen (G.number numF E 0 15 q0) (fun x => G.done (x, [v], [], [])) = .ok (y, lf) from h)
  cases h
  refine (then_go e0).trans ?_
  refine (then_go e1).trans ?_
  rfl
theorem rest_13 {E id ty p : Int} {l lf : List Tok} {y : G.Opd} (h : opsG E 13 l = .ok (y, lf)) : restG E (letG 13) (bare 13 id ty p) l = .ok (fill (bare 13 id ty p) y, lf) := by
  replace h : (fun r0 => G.andThen (G.value idxF E r0) (fun v => fun r1 => G.andThen (G.number numF E 0 15 r1) (fun x => fun r2 => G.andThen (G.value idxF E r2) (fun u => G.done (x, [v, u], [], []))))) l = .ok (y, lf) := h
  obtain ⟨v, q0, e0, h⟩ := then_inv (show G.andThen (G.value idxF E l) (fun v => fun r1 => G.andThen (G.number numF E 0 15 r1) (fun x => fun r2 => G.andThen (G.value idxF E r2) (fun u => G.done (x, [v, u], [], [])))) = .ok (y, lf) from h)
  obtain ⟨x, q1, e1, h⟩ := then_inv (show G.andThen (G.number numF E 0 15 q0) (fun x => fun r2 => G.andThen (G.value idxF E r2) (fun u => G.done (x, [v, u], [], []))) = .ok (y, lf) from h)
  obtain ⟨u, q2, e2, h⟩ := then_inv (show G.andThen (G.value idxF E q1) (fun u => G.done (x, [v, u], [], [])) = .ok (y, lf) from h)
  cases h
  refine (then_go e0).trans ?_
  refine (then_go e1).trans ?_
  refine (then_go e2).trans ?_
  rfl
theorem rest_14 {E id ty p : Int} {l lf : List Tok} {y : G.Opd} (h : opsG E 14 l = .ok (y, lf)) : restG E (letG 14) (bare 14 id ty p) l = .ok (fill (bare 14 id ty p) y, lf) := by
  replace h : (fun r0 => G.andThen (G.value idxF E r0) (fun v => fun r1 => G.andThen (G.number numF E 0 15 r1) (fun x => fun r2 => G.andThen (G.value idxF E r2) (fun u => G.done (x, [v, u], [], []))))) l = .ok (y, lf) := h
  obtain ⟨v, q0, e0, h⟩ := then_inv (show G.andThen (G.value idxF E l) (fun v => fun r1 => G.andThen (G.number numF E 0 15 r1) (fun x => fun r2 => G.andThen (G.value idxF E r2) (fun u => G.done (x, [v, u], [], [])))) = .ok (y, lf) from h)
  obtain ⟨x, q1, e1, h⟩ := then_inv (show G.andThen (G.number numF E 0 15 q0) (fun x => fun r2 => G.andThen (G.value idxF E r2) (fun u => G.done (x, [v, u], [], []))) = .ok (y, lf) from h)
  obtain ⟨u, q2, e2, h⟩ := then_inv (show G.andThen (G.value idxF E q1) (fun u => G.done (x, [v, u], [], [])) = .ok (y, lf) from h)
  cases h
  refine (then_go e0).trans ?_
  refine (then_go e1).trans ?_
  refine (then_go e2).trans ?_
  rfl
theorem rest_23 {E id ty p : Int} {l lf : List Tok} {y : G.Opd} (h : opsG E 23 l = .ok (y, lf)) : restG E (letG 23) (bare 23 id ty p) l = .ok (fill (bare 23 id ty p) y, lf) := by
  replace h : (fun r0 => G.andThen (G.number numF E 0 1048576 r0) (fun x => G.done (x, [], [], []))) l = .ok (y, lf) := h
  obtain ⟨x, q0, e0, h⟩ := then_inv (show G.andThen (G.number numF E 0 1048576 l) (fun x => G.done (x, [], [], [])) = .ok (y, lf) from h)
  cases h
  refine (then_go e0).trans ?_
  rfl
theorem rest_24 {E id ty p : Int} {l lf : List Tok} {y : G.Opd} (h : opsG E 24 l = .ok (y, lf)) : restG E (letG 24) (bare 24 id ty p) l = .ok (fill (bare 24 id ty p) y, lf) := by
  replace h : (fun r0 => G.andThen (G.value idxF E r0) (fun v => fun r1 => G.andThen (G.number numF E 0 1048576 r1) (fun x => G.done (x, [v], [], [])))) l = .ok (y, lf) := h
  obtain ⟨v, q0, e0, h⟩ := then_inv (show G.andThen (G.value idxF E l) (fun v => fun r1 => G.andThen (G.number numF E 0 1048576 r1) (fun x => G.done (x, [v], [], []))) = .ok (y, lf) from h)
  obtain ⟨x, q1, e1, h⟩ := then_inv (show G.andThen (G.number numF E 0 1048576 q0) (fun x => G.done (x, [v], [], [])) = .ok (y, lf) from h)
  cases h
  refine (then_go e0).trans ?_
  refine (then_go e1).trans ?_
  rfl
theorem rest_26 {E id ty p : Int} {l lf : List Tok} {y : G.Opd} (h : opsG E 26 l = .ok (y, lf)) : restG E (letG 26) (bare 26 id ty p) l = .ok (fill (bare 26 id ty p) y, lf) := by
  replace h : (fun r0 => G.andThen (G.label idxF E r0) (fun b => G.done (0, [], [b], []))) l = .ok (y, lf) := h
  obtain ⟨b, q0, e0, h⟩ := then_inv (show G.andThen (G.label idxF E l) (fun b => G.done (0, [], [b], [])) = .ok (y, lf) from h)
  cases h
  refine (then_go e0).trans ?_
  rfl
theorem rest_27 {E id ty p : Int} {l lf : List Tok} {y : G.Opd} (h : opsG E 27 l = .ok (y, lf)) : restG E (letG 27) (bare 27 id ty p) l = .ok (fill (bare 27 id ty p) y, lf) := by
  replace h : (fun r0 => G.andThen (G.value idxF E r0) (fun v => fun r1 => G.andThen (G.label idxF E r1) (fun b => fun r2 => G.andThen (G.label idxF E r2) (fun c => G.done (0, [v], [b, c], []))))) l = .ok (y, lf) := h
  obtain ⟨v, q0, e0, h⟩ := then_inv (show G.andThen (G.value idxF E l) (fun v => fun r1 => G.andThen (G.label idxF E r1) (fun b => fun r2 => G.andThen (G.label idxF E r2) (fun c => G.done (0, [v], [b, c], [])))) = .ok (y, lf) from h)
  obtain ⟨b, q1, e1, h⟩ := then_inv (show G.andThen (G.label idxF E q0) (fun b => fun r2 => G.andThen (G.label idxF E r2) (fun c => G.done (0, [v], [b, c], []))) = .ok (y, lf) from h)
  obtain ⟨c, q2, e2, h⟩ := then_inv (show G.andThen (G.label idxF E q1) (fun c => G.done (0, [v], [b, c], [])) = .ok (y, lf) from h)
  cases h
  refine (then_go e0).trans ?_
  refine (then_go e1).trans ?_
  refine (then_go e2).trans ?_
  rfl
theorem rest_any {op E id ty p : Int} {l lf : List Tok} {y : G.Opd} (g1 : ¬ op = 1) (g29 : ¬ op = 29) (g10 : ¬ op = 10) (g20 : ¬ op = 20) (g21 : ¬ op = 21) (g28 : ¬ op = 28) (h : opsG E op l = .ok (y, lf)) : restG E (letG op) (bare op id ty p) l = .ok (fill (bare op id ty p) y, lf) := by
  by_cases h11 : op = 11
  · subst h11; exact rest_11 h
  by_cases h12 : op = 12
  · subst h12; exact rest_12 h
  by_cases h15 : op = 15
  · subst h15; exact rest_15 h
  by_cases h13 : op = 13
  · subst h13; exact rest_13 h
  by_cases h14 : op = 14
  · subst h14; exact rest_14 h
  by_cases h23 : op = 23
  · subst h23; exact rest_23 h
  by_cases h24 : op = 24
  · subst h24; exact rest_24 h
  by_cases h26 : op = 26
  · subst h26; exact rest_26 h
  by_cases h27 : op = 27
  · subst h27; exact rest_27 h
  have e : letG op = List.replicate (tksF op) 118 := by unfold letG; rw [if_neg h11, if_neg h12, if_neg h15, if_neg h13, if_neg h14, if_neg h23, if_neg h24, if_neg h26, if_neg h27]
  rw [e]
  unfold opsG G.operands at h
  simp only [if_neg g1, if_neg g29, if_neg g10, if_neg g20, if_neg g21, if_neg g28, h11, h12, h15, h13, h14, h23, h24, h26, h27, or_self, if_false] at h
  obtain ⟨a, r, hv, h2⟩ := then_inv h
  cases h2
  exact vals_rest _ _ _ _ _ _ _ _ _ _ hv
end Go.Proofs.YtmiplohoclckcaaGreat
