/- Layer 6, the reference's reader, where nothing is wrong: pairs of a label and a value. Layer 6, the reference's reader, where nothing is wrong: a call's operands. -/
import Derived.Test.YtmiplohoclckcaaGreatLtAQ
namespace Go.Proofs.YtmiplohoclckcaaGreat
open Go Go.RowKit
open G (Tok Er Ins Fun peek0 peek1 atOf)
theorem RR.readAt {a : Nat} {L : List Tok} {E : Int} {n : Nat} {l : List Tok} {w : World} (h : RR a L E n l w) : YtmiplohoclckcaaGreat.readAt a w = L.length - l.length := by
  obtain ⟨c1, _⟩ := h.at1
  unfold YtmiplohoclckcaaGreat.readAt
  rw [c1]; simp [intOf]
theorem RR.len {a : Nat} {L : List Tok} {E : Int} {n : Nat} {l : List Tok} {w : World} (h : RR a L E n l w) : l.length ≤ L.length ∧ L.length ≤ 131072 := by
  obtain ⟨v, h1, h2, h5, h6, h7⟩ := h
  exact ⟨h5.length_le, h6.1⟩
set_option maxHeartbeats 4000000 in
set_option maxRecDepth 20000 in
theorem rphi (op id nn ty : Int) (nm : List UInt8) (p : Int) {a : Nat} {L : List Tok} {E : Int} {n : Nat} {l lf : List Tok} {args to : List Int} (w : World) (h : RR a L E n l w) (hr : G.phi idxF E l = .ok ((to, args), lf)) :
    Calls Tryz.prog 102 #[.pointer (some ⟨a, 0, none⟩), .agg (bare8 op id nn ty (bs nm) p)] w (ROut a L E n (op, id, nn, ty, args, to, nm, p) lf w) := by
  obtain ⟨i0, hi0, hz0, hz1, hz2⟩ := info_parts Tryz.info3
  have M0 : Hid (MidR w a (w.heap.size + 1 + 1) (w.heap.size + 1) L E n (op, id, nn, ty, [], [], nm, p) l (((w.alloc (.cells (bare8 op id nn ty (bs nm) p) 67)).alloc (.cells (bare8 0 0 0 0 ⟨#[]⟩ 0) 67)).alloc (.cells (bare8 op id nn ty (bs nm) p) 67))) := hide (MidR.start h op id nn ty nm p)
  have HR : Hid (G.phiW idxF E (l.length + 1) [] [] l = .ok ((to, args), lf)) := hide hr
  have hLl := h.len
  clear hr
  clear h
  generalize hg : w.heap.size + 1 = g at *
  generalize hc : g + 1 = c at *
  go_enter Tryz.func102, Tryz.ntmps102
  go_upto_region 2 with fail
  show Code.wp _ _ _ _ (((w.alloc (.cells (bare8 op id nn ty (bs nm) p) 67)).alloc (.cells (bare8 0 0 0 0 ⟨#[]⟩ 0) 67)).alloc (.cells (bare8 op id nn ty (bs nm) p) 67))
  generalize ((w.alloc (.cells (bare8 op id nn ty (bs nm) p) 67)).alloc (.cells (bare8 0 0 0 0 ⟨#[]⟩ 0) 67)).alloc (.cells (bare8 op id nn ty (bs nm) p) 67) = W0 at *
  clear hg hc
  go_wp2_with fail
  go_loopw [] (fun wr => ∃ (f : Nat) (ar tt : List Int) (l' : List Tok), Hid (MidR w a c g L E n (op, id, nn, ty, ar, tt, nm, p) l' wr) ∧ l'.length < f ∧ tt.length + l'.length ≤ L.length ∧ ar.length + l'.length ≤ L.length ∧ Hid (G.phiW idxF E f tt ar l' = .ok ((to, args), lf))) (fun wr => L.length - readAt a wr)
  case atStart => exact ⟨l.length + 1, [], [], l, M0, by omega, by simp; omega, by simp; omega, HR⟩
  case round =>
    obtain ⟨f, ar, tt, l', M, hf, hT, hA, HR'⟩ := hrel
    have hra := M.out.1.readAt
    have hll := M.out.1.len
    obtain ⟨f, rfl⟩ : ∃ q, f = q + 1 := ⟨f - 1, by omega⟩
    obtain ⟨va0, vt0, HC0, HZ0, o10, o20, o30⟩ := M.out.2.1.cells
    obtain ⟨ao0, cp0, rfl⟩ := own_len o20
    have q5 : wr.cell? ⟨c, 5, none⟩ = some (.slice ao0 tt.length cp0) := HC0 5 _ rfl
    have q4 := M.out.1.at1.2.2.1
    clear HC0 HZ0 o10 o20 o30
    by_cases hgo : tt = [] ∨ G.paired l' = true
    · obtain ⟨b, l2, hb, hr2⟩ := then_inv (show G.andThen (G.label idxF E l') (fun b r => G.andThen (G.value idxF E r) fun v => G.phiW idxF E f (tt ++ [b]) (ar ++ [v])) = .ok ((to, args), lf) from by have := HR'.out; unfold G.phiW at this; rwa [if_pos hgo] at this)
      obtain ⟨v, l3, hv, hr3⟩ := then_inv hr2
      have e2 := (G.label_ok hb).1
      have e2' := (G.label_ok hb).2.1
      have e3 := (G.value_ok hv).1
      have e3' := (G.value_ok hv).2.1
      have hl23 : l3.length + 2 ≤ l'.length := by
        have := tail_bulk e2
        have := tail_bulk e3
        rw [e3', ← e2'] at *
        rw [← e2'] at *
        omega
      have HB := hide hb
      have HV := hide hv
      have HR3 := hide hr3
      clear hb hr2 hv hr3 e2 e2' e3 e3' HR'
      by_cases ht0 : tt = []
      · have hto : ((tt.length : Int) == 0) = true := by rw [ht0]; rfl
        have M5 := M
        clear hgo M
        go_wp2_with fail
        clear ht0 hto q4 q5
        refine (rlabel _ M5.out.1 HB.out).mono ?_; rintro e w2 ⟨rfl, a2⟩
        have M1 := hide (M5.out.ate a2)
        clear M5 a2
        go_wp2_with fail
        refine (rvalue _ M1.out.1 HV.out).mono ?_; rintro e w3 ⟨rfl, a3⟩
        have M2 := hide (M1.out.ate a3)
        clear M1 a3
        obtain ⟨va, vt, HC, HZ4, o1, o2, o3⟩ := M2.out.2.1.cells
        have hcl7 := M2.out.lt
        have cA := HC 5 _ rfl
        have zA := HZ4 5
        have hne : vt.ownBlock ≠ some c := (o3 c (by obtain ⟨ua, ut, q1, _⟩ := M2.out.2.1; exact ⟨_, _, q1⟩)).2
        obtain ⟨ao7, cp7, rfl⟩ := own_len o2
        have O7 := hide o2
        obtain ⟨cB, zB⟩ := Cel.below (below_box w3 (.cells #[.int .i64 b] 3)) hcl7.2.2.2.1 cA zA
        clear HC HZ4 o1 o2 o3
        have t27 : tt.length + 1 ≤ maxLen := by unfold maxLen; omega
        have t37 : (tt.length + 1) * 8 ≤ 140737488355328 := by omega
        have t47 : w.heap.size ≤ (w3.alloc (.cells #[.int .i64 b] 3)).heap.size := by simp; omega
        have t57 : c < (w3.alloc (.cells #[.int .i64 b] 3)).heap.size := by simp; omega
        go_upto_region 6 with (at_builtin; refine wpList_append_lies _ rfl (.tmp 30) (.tmp 32) 22 rfl w.heap.size 3 i0 _ 1 8 Tryz.underlying22 hi0 hz0 hz1 hz2 rfl (by decide) _ _ _ rfl (O7.out.alloc _) ⟨w3.heap.size, 0, none⟩ 1 1 [.int .i64 b] rfl rfl one_cell one_one (by decide) t27 t37 t47 (w3.heap.size + 1) (by simp) ?_; intro gg7 cap7 w7 hown7 hgrow7 hat7 hlt7; obtain ⟨cC7, zC7⟩ := Cel.grown hgrow7 t57 hne cB zB)
        have M3 := hide ((M2.out.below (below_box w3 (.cells #[.int .i64 b] 3))).to cB hown7 hgrow7 (hat7.imp (fun e => e) (fun e => e.trans (by simp))))
        show Code.wp _ _ _ _ (w7.setCell ⟨c, 5, none⟩ (.slice (some ⟨gg7, 0, none⟩) (tt.length + 1) cap7))
        have M3 : Hid (MidR w a c g L E n (op, id, nn, ty, ar, tt ++ [b], nm, p) l3 (w7.setCell ⟨c, 5, none⟩ (.slice (some ⟨gg7, 0, none⟩) (tt.length + 1) cap7))) := M3
        clear cC7 zC7 hown7 hgrow7 hat7 hlt7 O7 cA zA cB zB hne t27 t37 t47 t57 hcl7 M2
        generalize w7.setCell ⟨c, 5, none⟩ (.slice (some ⟨gg7, 0, none⟩) (tt.length + 1) cap7) = W7 at *
        clear va
        obtain ⟨va, vt, HC, HZ4, o1, o2, o3⟩ := M3.out.2.1.cells
        have hcl8 := M3.out.lt
        have cA := HC 4 _ rfl
        have zA := HZ4 4
        have hne : va.ownBlock ≠ some c := (o3 c (by obtain ⟨ua, ut, q1, _⟩ := M3.out.2.1; exact ⟨_, _, q1⟩)).1
        obtain ⟨ao8, cp8, rfl⟩ := own_len o1
        have O8 := hide o1
        obtain ⟨cB, zB⟩ := Cel.below (below_box W7 (.cells #[.int .i64 v] 3)) hcl8.2.2.2.1 cA zA
        clear HC HZ4 o1 o2 o3
        have t28 : ar.length + 1 ≤ maxLen := by unfold maxLen; omega
        have t38 : (ar.length + 1) * 8 ≤ 140737488355328 := by omega
        have t48 : w.heap.size ≤ (W7.alloc (.cells #[.int .i64 v] 3)).heap.size := by simp; omega
        have t58 : c < (W7.alloc (.cells #[.int .i64 v] 3)).heap.size := by simp; omega
        go_wp2_with (at_builtin; refine wpList_append_lies _ rfl (.tmp 36) (.tmp 38) 22 rfl w.heap.size 3 i0 _ 1 8 Tryz.underlying22 hi0 hz0 hz1 hz2 rfl (by decide) _ _ _ rfl (O8.out.alloc _) ⟨W7.heap.size, 0, none⟩ 1 1 [.int .i64 v] rfl rfl one_cell one_one (by decide) t28 t38 t48 (W7.heap.size + 1) (by simp) ?_; intro gg8 cap8 w8 hown8 hgrow8 hat8 hlt8; obtain ⟨cC8, zC8⟩ := Cel.grown hgrow8 t58 hne cB zB)
        have M4 := hide ((M3.out.below (below_box W7 (.cells #[.int .i64 v] 3))).arg cB hown8 hgrow8 (hat8.imp (fun e => e) (fun e => e.trans (by simp))))
        have hra4 := M4.out.1.readAt
        have hll4 := M4.out.1.len
        go_roundw
        case rel => exact ⟨f, ar ++ [v], tt ++ [b], l3, M4, by omega, by simp; omega, by simp; omega, HR3⟩
        case measure => rw [hra, hra4]; omega
      · have hto : ((tt.length : Int) == 0) = false := by cases tt with
          | nil => exact absurd rfl ht0
          | cons x y => simp; omega
        have HP0 := hide (hgo.resolve_left ht0)
        clear hgo ht0
        go_wp2_with fail
        refine (rpaired _ M.out.1).mono ?_; rintro e w1 ⟨rfl, b1⟩
        rw [HP0.out]
        have M5 := hide (M.out.below b1)
        clear M b1 q4 q5
        go_wp2_with fail
        clear hto
        refine (rlabel _ M5.out.1 HB.out).mono ?_; rintro e w2 ⟨rfl, a2⟩
        have M1 := hide (M5.out.ate a2)
        clear M5 a2
        go_wp2_with fail
        refine (rvalue _ M1.out.1 HV.out).mono ?_; rintro e w3 ⟨rfl, a3⟩
        have M2 := hide (M1.out.ate a3)
        clear M1 a3
        obtain ⟨va, vt, HC, HZ4, o1, o2, o3⟩ := M2.out.2.1.cells
        have hcl7 := M2.out.lt
        have cA := HC 5 _ rfl
        have zA := HZ4 5
        have hne : vt.ownBlock ≠ some c := (o3 c (by obtain ⟨ua, ut, q1, _⟩ := M2.out.2.1; exact ⟨_, _, q1⟩)).2
        obtain ⟨ao7, cp7, rfl⟩ := own_len o2
        have O7 := hide o2
        obtain ⟨cB, zB⟩ := Cel.below (below_box w3 (.cells #[.int .i64 b] 3)) hcl7.2.2.2.1 cA zA
        clear HC HZ4 o1 o2 o3
        have t27 : tt.length + 1 ≤ maxLen := by unfold maxLen; omega
        have t37 : (tt.length + 1) * 8 ≤ 140737488355328 := by omega
        have t47 : w.heap.size ≤ (w3.alloc (.cells #[.int .i64 b] 3)).heap.size := by simp; omega
        have t57 : c < (w3.alloc (.cells #[.int .i64 b] 3)).heap.size := by simp; omega
        go_upto_region 6 with (at_builtin; refine wpList_append_lies _ rfl (.tmp 30) (.tmp 32) 22 rfl w.heap.size 3 i0 _ 1 8 Tryz.underlying22 hi0 hz0 hz1 hz2 rfl (by decide) _ _ _ rfl (O7.out.alloc _) ⟨w3.heap.size, 0, none⟩ 1 1 [.int .i64 b] rfl rfl one_cell one_one (by decide) t27 t37 t47 (w3.heap.size + 1) (by simp) ?_; intro gg7 cap7 w7 hown7 hgrow7 hat7 hlt7; obtain ⟨cC7, zC7⟩ := Cel.grown hgrow7 t57 hne cB zB)
        have M3 := hide ((M2.out.below (below_box w3 (.cells #[.int .i64 b] 3))).to cB hown7 hgrow7 (hat7.imp (fun e => e) (fun e => e.trans (by simp))))
        show Code.wp _ _ _ _ (w7.setCell ⟨c, 5, none⟩ (.slice (some ⟨gg7, 0, none⟩) (tt.length + 1) cap7))
        have M3 : Hid (MidR w a c g L E n (op, id, nn, ty, ar, tt ++ [b], nm, p) l3 (w7.setCell ⟨c, 5, none⟩ (.slice (some ⟨gg7, 0, none⟩) (tt.length + 1) cap7))) := M3
        clear cC7 zC7 hown7 hgrow7 hat7 hlt7 O7 cA zA cB zB hne t27 t37 t47 t57 hcl7 M2
        generalize w7.setCell ⟨c, 5, none⟩ (.slice (some ⟨gg7, 0, none⟩) (tt.length + 1) cap7) = W7 at *
        clear va
        obtain ⟨va, vt, HC, HZ4, o1, o2, o3⟩ := M3.out.2.1.cells
        have hcl8 := M3.out.lt
        have cA := HC 4 _ rfl
        have zA := HZ4 4
        have hne : va.ownBlock ≠ some c := (o3 c (by obtain ⟨ua, ut, q1, _⟩ := M3.out.2.1; exact ⟨_, _, q1⟩)).1
        obtain ⟨ao8, cp8, rfl⟩ := own_len o1
        have O8 := hide o1
        obtain ⟨cB, zB⟩ := Cel.below (below_box W7 (.cells #[.int .i64 v] 3)) hcl8.2.2.2.1 cA zA
        clear HC HZ4 o1 o2 o3
        have t28 : ar.length + 1 ≤ maxLen := by unfold maxLen; omega
        have t38 : (ar.length + 1) * 8 ≤ 140737488355328 := by omega
        have t48 : w.heap.size ≤ (W7.alloc (.cells #[.int .i64 v] 3)).heap.size := by simp; omega
        have t58 : c < (W7.alloc (.cells #[.int .i64 v] 3)).heap.size := by simp; omega
        go_wp2_with (at_builtin; refine wpList_append_lies _ rfl (.tmp 36) (.tmp 38) 22 rfl w.heap.size 3 i0 _ 1 8 Tryz.underlying22 hi0 hz0 hz1 hz2 rfl (by decide) _ _ _ rfl (O8.out.alloc _) ⟨W7.heap.size, 0, none⟩ 1 1 [.int .i64 v] rfl rfl one_cell one_one (by decide) t28 t38 t48 (W7.heap.size + 1) (by simp) ?_; intro gg8 cap8 w8 hown8 hgrow8 hat8 hlt8; obtain ⟨cC8, zC8⟩ := Cel.grown hgrow8 t58 hne cB zB)
        have M4 := hide ((M3.out.below (below_box W7 (.cells #[.int .i64 v] 3))).arg cB hown8 hgrow8 (hat8.imp (fun e => e) (fun e => e.trans (by simp))))
        have hra4 := M4.out.1.readAt
        have hll4 := M4.out.1.len
        go_roundw
        case rel => exact ⟨f, ar ++ [v], tt ++ [b], l3, M4, by omega, by simp; omega, by simp; omega, HR3⟩
        case measure => rw [hra, hra4]; omega
    · have ht0 : tt ≠ [] := fun e => hgo (.inl e)
      have hp0 : G.paired l' = false := by cases hq : G.paired l' with
        | false => rfl
        | true => exact absurd (.inr hq) hgo
      have hto : ((tt.length : Int) == 0) = false := by cases tt with
        | nil => exact absurd rfl ht0
        | cons x y => simp; omega
      obtain ⟨⟨rfl, rfl⟩, rfl⟩ : (tt = to ∧ ar = args) ∧ l' = lf := by have := HR'.out; unfold G.phiW at this; rw [if_neg hgo] at this; cases this; exact ⟨⟨rfl, rfl⟩, rfl⟩
      have HP0 := hide hp0
      clear hgo ht0 hp0 HR'
      go_wp2_with fail
      refine (rpaired _ M.out.1).mono ?_; rintro e w1 ⟨rfl, b1⟩
      rw [HP0.out]
      have M1 := hide (M.out.below b1)
      clear M b1 q4 q5
      obtain ⟨va', vt', HC, HZ4, o1, o2, o3⟩ := M1.out.2.1.cells
      obtain ⟨aoA, mA, cA, rfl⟩ := own_slice o1
      obtain ⟨aoT, mT, cT, rfl⟩ := own_slice o2
      have y0 := HC 0 _ rfl
      have y1 := HC 1 _ rfl
      have y2 := HC 2 _ rfl
      have y3 := HC 3 _ rfl
      have y4 := HC 4 _ rfl
      have y5 := HC 5 _ rfl
      have y6 := HC 6 _ rfl
      have y7 := HC 7 _ rfl
      have hS := M1.out.2.2.1
      obtain ⟨o3a, o3b⟩ := o3 g ⟨_, _, hS⟩
      have hS := hide hS
      have o1 := hide o1
      have o2 := hide o2
      clear HC HZ4 o3
      obtain ⟨s0, s1, s2, s3, s4, s5, s6, s7, f0, f1, f2, f3, f4, f5, f6, f7⟩ := res8 hS.out
      have hcn : c ≠ g := fun e => M1.out.2.2.2.2.2.2 e.symm
      have FF := hide (((((((((Far.refl g w1).set 0 (.int .i64 op)).set 1 (.int .i64 id)).set 2 (.int .i64 nn)).set 3 (.int .i64 ty)).set 4 (.slice aoA mA cA)).set 5 (.slice aoT mT cT)).set 6 (.string (bs nm))).set 7 (.int .i64 p))
      have KK := hide (FF.out.kr M1.out.2.2.2.1 M1.out.2.2.2.2.2.1)
      have QQ := hide (FF.out.rr M1.out.1 hS.out (by decide) (by have := M1.out.lt; omega))
      have OO := hide (⟨FF.out.own o1.out o3a, FF.out.own o2.out o3b⟩ : _ ∧ _)
      go_wp2_with fail
      exact bodyPost_ret (v := .agg (insCells (op, id, nn, ty, ar, tt, nm, p) (.slice aoA mA cA) (.slice aoT mT cT)).toArray) (by simp [results, Tryz.results102, go_sem, insCells, s0, s1, s2, s3, s4, s5, s6, s7]) rfl ⟨_, rfl, ⟨_, _, rfl, OO.out.1, OO.out.2⟩, QQ.out, KK.out⟩
end Go.Proofs.YtmiplohoclckcaaGreat
namespace Go.Proofs.YtmiplohoclckcaaGreat
open Go Go.RowKit
open G (Tok Er Ins Fun peek0 peek1 atOf)
theorem name_ok {E : Int} {l r : List Tok} {s : List UInt8} (h : G.name namF E l = .ok (s, r)) : r = l.tail ∧ peek0 l = s ∧ namF s = true := by
  obtain ⟨_, rfl, h3⟩ := G.one_ok (by simp [nam_nil]) h
  by_cases hc : namF (peek0 l) = true
  · simp only [if_pos hc] at h3
    injection h3 with h4
    exact ⟨rfl, h4, by rw [← h4]; exact hc⟩
  · simp only [if_neg hc] at h3; cases h3
theorem spot_ok {E v : Int} {l r : List Tok} (h : G.spot idxF E l = .ok (v, r)) : ((peek0 l).head? = some 64 ∧ G.mark idxF 64 1048576 (peek0 l) = some v ∧ r = l.tail) ∨ ((peek0 l).head? ≠ some 64 ∧ v = 0 ∧ r = l) := by
  unfold G.spot at h
  by_cases hc : (peek0 l).head? = some 64
  · rw [if_pos hc] at h
    obtain ⟨_, h2, h3⟩ := G.index_ok h
    exact .inl ⟨hc, h3, h2⟩
  · rw [if_neg hc] at h
    cases h
    exact .inr ⟨hc, rfl, rfl⟩
set_option maxHeartbeats 4000000 in
set_option maxRecDepth 20000 in
theorem rcall (op id ty N : Int) (s : List UInt8) (p : Int) {a : Nat} {L : List Tok} {E : Int} {n : Nat} {l l2 l3 lf : List Tok} {args : List Int} (w : World) (h : RR a L E n l w) (h1 : G.spot idxF E l = .ok (N, l2)) (h2 : G.name namF E l2 = .ok (s, l3)) (h3 : G.values idxF E l3 = .ok (args, lf)) :
    Calls Tryz.prog 103 #[.pointer (some ⟨a, 0, none⟩), .agg (bare8 op id 0 ty (bs []) p)] w (ROut a L E n (op, id, N, ty, args, [], s, p) lf w) := by
  obtain rfl : l3 = l2.tail := (name_ok h2).1
  obtain ⟨i0, hi0, hz0, hz1, hz2⟩ := info_parts Tryz.info3
  have M0 : Hid (MidR w a (w.heap.size + 1 + 1) (w.heap.size + 1) L E n (op, id, 0, ty, [], [], [], p) l (((w.alloc (.cells (bare8 op id 0 ty (bs []) p) 67)).alloc (.cells (bare8 0 0 0 0 ⟨#[]⟩ 0) 67)).alloc (.cells (bare8 op id 0 ty (bs []) p) 67))) := hide (MidR.start h op id 0 ty [] p)
  have HN := hide (name_ok h2)
  have HR4 : Hid (G.valuesW idxF E (l2.tail.length + 1) [] l2.tail = .ok (args, lf)) := hide h3
  have HS := hide (spot_ok h1)
  have hz : (bs (peek0 l)).size ≤ 65536 := by rw [bs_size]; exact h.short.1
  clear h1 h2 h3
  clear h
  generalize hg : w.heap.size + 1 = g at *
  generalize hc : g + 1 = c at *
  go_enter Tryz.func103, Tryz.ntmps103
  go_upto_region 2 with fail
  show Code.wp _ _ _ _ (((w.alloc (.cells (bare8 op id 0 ty (bs []) p) 67)).alloc (.cells (bare8 0 0 0 0 ⟨#[]⟩ 0) 67)).alloc (.cells (bare8 op id 0 ty (bs []) p) 67))
  generalize ((w.alloc (.cells (bare8 op id 0 ty (bs []) p) 67)).alloc (.cells (bare8 0 0 0 0 ⟨#[]⟩ 0) 67)).alloc (.cells (bare8 op id 0 ty (bs []) p) 67) = W0 at *
  clear hg hc
  rcases first_of 64 (peek0 l) with ⟨hs, e0⟩ | ⟨x, r, hs, e0, hp, ⟨hx, e1⟩ | ⟨hx, e1⟩⟩
  · have hno : (peek0 l).head? ≠ some 64 := by rw [hs]; simp
    obtain ⟨rfl, rfl⟩ : N = 0 ∧ l2 = l := by
      rcases HS.out with ⟨q, _⟩ | ⟨_, q⟩
      · exact absurd q hno
      · exact q
    clear hs hno HS
    go_wp2_with fail
    refine (rpeek0 _ M0.out.1 rfl).mono ?_; rintro e w1 ⟨rfl, b1⟩
    have M2 := hide (M0.out.below b1)
    clear M0 b1
    generalize bs (peek0 l2) = C at *
    go_wp2_with fail
    clear e0
    refine (rname s _ M2.out.1 HN.out.2.1 HN.out.2.2).mono ?_; rintro e w3 ⟨rfl, a3⟩
    have M3 := hide (M2.out.ate a3)
    clear M2 a3
    obtain ⟨va, vt, HC, HZ4, o1, o2, o3⟩ := M3.out.2.1.cells
    have cA := HC 6 _ rfl
    have zA := HZ4 6
    have M4 : Hid (MidR w a c g L E n (op, id, 0, ty, [], [], s, p) l2.tail (w3.setCell ⟨c, 6, none⟩ (.string (bs s)))) := hide (M3.out.put (M3.out.2.1.setName s))
    clear HC HZ4 o1 o2 o3 M3
    go_wp2_with fail
    clear cA zA
    generalize w3.setCell ⟨c, 6, none⟩ (.string (bs s)) = W3 at *
    go_loopw [] (fun wr => ∃ (f : Nat) (acc : List Int) (l' : List Tok), Hid (MidR w a c g L E n (op, id, 0, ty, acc, [], s, p) l' wr) ∧ l'.length < f ∧ acc.length + l'.length ≤ L.length ∧ Hid (G.valuesW idxF E f acc l' = .ok (args, lf))) (fun wr => L.length - readAt a wr)
    case atStart => exact ⟨_, [], _, M4, Nat.lt_succ_self _, by rw [List.length_nil, Nat.zero_add]; exact M4.out.1.len.1, HR4⟩
    case round =>
      obtain ⟨f, acc, l', M, hf, hA, HR'⟩ := hrel
      have hra := M.out.1.readAt
      have hll := M.out.1.len
      obtain ⟨f, rfl⟩ : ∃ q, f = q + 1 := ⟨f - 1, by omega⟩
      go_wp2_with fail
      refine (rtaken _ M.out.1).mono ?_; rintro e w7 ⟨rfl, b7⟩
      have M7 := hide (M.out.below b7)
      have hra7 : Hid (readAt a wr = L.length - l'.length) := hide hra
      clear M b7
      cases ht : G.taken l' with
      | false =>
        obtain ⟨rfl, rfl⟩ : acc = args ∧ l' = lf := by have := HR'.out; unfold G.valuesW at this; rw [if_neg (by simp [ht])] at this; cases this; exact ⟨rfl, rfl⟩
        clear ht HR'
        obtain ⟨va', vt', HC, HZ4, o1, o2, o3⟩ := M7.out.2.1.cells
        obtain ⟨aoA, mA, cA, rfl⟩ := own_slice o1
        obtain ⟨aoT, mT, cT, rfl⟩ := own_slice o2
        have y0 := HC 0 _ rfl
        have y1 := HC 1 _ rfl
        have y2 := HC 2 _ rfl
        have y3 := HC 3 _ rfl
        have y4 := HC 4 _ rfl
        have y5 := HC 5 _ rfl
        have y6 := HC 6 _ rfl
        have y7 := HC 7 _ rfl
        have hS := M7.out.2.2.1
        obtain ⟨o3a, o3b⟩ := o3 g ⟨_, _, hS⟩
        have hS := hide hS
        have o1 := hide o1
        have o2 := hide o2
        clear HC HZ4 o3
        obtain ⟨s0, s1, s2, s3, s4, s5, s6, s7, f0, f1, f2, f3, f4, f5, f6, f7⟩ := res8 hS.out
        have hcn : c ≠ g := fun e => M7.out.2.2.2.2.2.2 e.symm
        have FF := hide (((((((((Far.refl g w7).set 0 (.int .i64 op)).set 1 (.int .i64 id)).set 2 (.int .i64 0)).set 3 (.int .i64 ty)).set 4 (.slice aoA mA cA)).set 5 (.slice aoT mT cT)).set 6 (.string (bs s))).set 7 (.int .i64 p))
        have KK := hide (FF.out.kr M7.out.2.2.2.1 M7.out.2.2.2.2.2.1)
        have QQ := hide (FF.out.rr M7.out.1 hS.out (by decide) (by have := M7.out.lt; omega))
        have OO := hide (⟨FF.out.own o1.out o3a, FF.out.own o2.out o3b⟩ : _ ∧ _)
        go_wp2_with fail
        exact bodyPost_ret (v := .agg (insCells (op, id, 0, ty, acc, [], s, p) (.slice aoA mA cA) (.slice aoT mT cT)).toArray) (by simp [results, Tryz.results103, go_sem, insCells, s0, s1, s2, s3, s4, s5, s6, s7]) rfl ⟨_, rfl, ⟨_, _, rfl, OO.out.1, OO.out.2⟩, QQ.out, KK.out⟩
      | true =>
        obtain ⟨v, l3, hv, hr3⟩ := then_inv (show G.andThen (G.value idxF E l') (fun v => G.valuesW idxF E f (acc ++ [v])) = .ok (args, lf) from by have := HR'.out; unfold G.valuesW at this; rwa [if_pos ht] at this)
        have hl3 : l3.length + 1 ≤ l'.length := by have h1 := tail_bulk (G.value_ok hv).1; have h2 := (G.value_ok hv).2.1; rw [h2]; omega
        have HV := hide hv
        have HR3 := hide hr3
        clear hv hr3 HR' ht
        go_wp2_with fail
        refine (rvalue _ M7.out.1 HV.out).mono ?_; rintro e w8 ⟨rfl, a8⟩
        have M8 := hide (M7.out.ate a8)
        clear M7 a8
        obtain ⟨va, vt, HC, HZ4, o1, o2, o3⟩ := M8.out.2.1.cells
        have hcl9 := M8.out.lt
        have cA := HC 4 _ rfl
        have zA := HZ4 4
        have hne : va.ownBlock ≠ some c := (o3 c (by obtain ⟨ua, ut, q1, _⟩ := M8.out.2.1; exact ⟨_, _, q1⟩)).1
        obtain ⟨ao9, cp9, rfl⟩ := own_len o1
        have O9 := hide o1
        obtain ⟨cB, zB⟩ := Cel.below (below_box w8 (.cells #[.int .i64 v] 3)) hcl9.2.2.2.1 cA zA
        clear HC HZ4 o1 o2 o3
        have t29 : acc.length + 1 ≤ maxLen := by unfold maxLen; omega
        have t39 : (acc.length + 1) * 8 ≤ 140737488355328 := by omega
        have t49 : w.heap.size ≤ (w8.alloc (.cells #[.int .i64 v] 3)).heap.size := by simp; omega
        have t59 : c < (w8.alloc (.cells #[.int .i64 v] 3)).heap.size := by simp; omega
        go_wp2_with (at_builtin; refine wpList_append_lies _ rfl (.tmp 29) (.tmp 31) 22 rfl w.heap.size 3 i0 _ 1 8 Tryz.underlying22 hi0 hz0 hz1 hz2 rfl (by decide) _ _ _ rfl (O9.out.alloc _) ⟨w8.heap.size, 0, none⟩ 1 1 [.int .i64 v] rfl rfl one_cell one_one (by decide) t29 t39 t49 (w8.heap.size + 1) (by simp) ?_; intro gg9 cap9 w9 hown9 hgrow9 hat9 hlt9; obtain ⟨cC9, zC9⟩ := Cel.grown hgrow9 t59 hne cB zB)
        have M9 := hide ((M8.out.below (below_box w8 (.cells #[.int .i64 v] 3))).arg cB hown9 hgrow9 (hat9.imp (fun e => e) (fun e => e.trans (by simp))))
        have hra9 := M9.out.1.readAt
        have hll9 := M9.out.1.len
        go_roundw
        case rel => exact ⟨f, acc ++ [v], l3, M9, by omega, by simp; omega, HR3⟩
        case measure => rw [hra9]; omega
  · have hyes : (peek0 l).head? = some 64 := by rw [hs, hx]; rfl
    obtain ⟨hm, rfl⟩ : G.mark idxF 64 1048576 (peek0 l) = some N ∧ l2 = l.tail := by
      rcases HS.out with ⟨_, q⟩ | ⟨q, _⟩
      · exact q
      · exact absurd hyes q
    replace e1 : ((bs (peek0 l))[0].toNat : Int) = 64 := e1 hp
    have HM := hide hm
    clear hs hyes HS hx hm
    have HPK := hide (rfl : peek0 l = peek0 l)
    generalize hC : bs (peek0 l) = C at *
    have hC := hide hC
    go_wp2_with fail
    refine (rpeek0 _ M0.out.1 rfl).mono ?_; rintro e w1 ⟨rfl, b1⟩
    rw [hC.out]
    have M1 := hide (M0.out.below b1)
    clear M0 b1
    go_wp2_with fail
    clear e0 e1 hp
    refine (rindex 64 1048576 3 N _ M1.out.1 rfl HM.out).mono ?_; rintro e w2 ⟨rfl, a2⟩
    have M1a := hide (M1.out.ate a2)
    clear M1 a2
    obtain ⟨va, vt, HC, HZ4, o1, o2, o3⟩ := M1a.out.2.1.cells
    have cA := HC 2 _ rfl
    have zA := HZ4 2
    have M2 : Hid (MidR w a c g L E n (op, id, N, ty, [], [], [], p) l.tail (w2.setCell ⟨c, 2, none⟩ (.int .i64 N))) := hide (M1a.out.put (M1a.out.2.1.setN N))
    clear HC HZ4 o1 o2 o3 M1a
    go_wp2_with fail
    clear cA zA
    generalize w2.setCell ⟨c, 2, none⟩ (.int .i64 N) = W2 at *
    clear va vt
    refine (rname s _ M2.out.1 HN.out.2.1 HN.out.2.2).mono ?_; rintro e w3 ⟨rfl, a3⟩
    have M3 := hide (M2.out.ate a3)
    clear M2 a3
    obtain ⟨va, vt, HC, HZ4, o1, o2, o3⟩ := M3.out.2.1.cells
    have cA := HC 6 _ rfl
    have zA := HZ4 6
    have M4 : Hid (MidR w a c g L E n (op, id, N, ty, [], [], s, p) l.tail.tail (w3.setCell ⟨c, 6, none⟩ (.string (bs s)))) := hide (M3.out.put (M3.out.2.1.setName s))
    clear HC HZ4 o1 o2 o3 M3
    go_wp2_with fail
    clear cA zA
    generalize w3.setCell ⟨c, 6, none⟩ (.string (bs s)) = W3 at *
    go_loopw [] (fun wr => ∃ (f : Nat) (acc : List Int) (l' : List Tok), Hid (MidR w a c g L E n (op, id, N, ty, acc, [], s, p) l' wr) ∧ l'.length < f ∧ acc.length + l'.length ≤ L.length ∧ Hid (G.valuesW idxF E f acc l' = .ok (args, lf))) (fun wr => L.length - readAt a wr)
    case atStart => exact ⟨_, [], _, M4, Nat.lt_succ_self _, by rw [List.length_nil, Nat.zero_add]; exact M4.out.1.len.1, HR4⟩
    case round =>
      obtain ⟨f, acc, l', M, hf, hA, HR'⟩ := hrel
      have hra := M.out.1.readAt
      have hll := M.out.1.len
      obtain ⟨f, rfl⟩ : ∃ q, f = q + 1 := ⟨f - 1, by omega⟩
      go_wp2_with fail
      refine (rtaken _ M.out.1).mono ?_; rintro e w7 ⟨rfl, b7⟩
      have M7 := hide (M.out.below b7)
      have hra7 : Hid (readAt a wr = L.length - l'.length) := hide hra
      clear M b7
      cases ht : G.taken l' with
      | false =>
        obtain ⟨rfl, rfl⟩ : acc = args ∧ l' = lf := by have := HR'.out; unfold G.valuesW at this; rw [if_neg (by simp [ht])] at this; cases this; exact ⟨rfl, rfl⟩
        clear ht HR'
        obtain ⟨va', vt', HC, HZ4, o1, o2, o3⟩ := M7.out.2.1.cells
        obtain ⟨aoA, mA, cA, rfl⟩ := own_slice o1
        obtain ⟨aoT, mT, cT, rfl⟩ := own_slice o2
        have y0 := HC 0 _ rfl
        have y1 := HC 1 _ rfl
        have y2 := HC 2 _ rfl
        have y3 := HC 3 _ rfl
        have y4 := HC 4 _ rfl
        have y5 := HC 5 _ rfl
        have y6 := HC 6 _ rfl
        have y7 := HC 7 _ rfl
        have hS := M7.out.2.2.1
        obtain ⟨o3a, o3b⟩ := o3 g ⟨_, _, hS⟩
        have hS := hide hS
        have o1 := hide o1
        have o2 := hide o2
        clear HC HZ4 o3
        obtain ⟨s0, s1, s2, s3, s4, s5, s6, s7, f0, f1, f2, f3, f4, f5, f6, f7⟩ := res8 hS.out
        have hcn : c ≠ g := fun e => M7.out.2.2.2.2.2.2 e.symm
        have FF := hide (((((((((Far.refl g w7).set 0 (.int .i64 op)).set 1 (.int .i64 id)).set 2 (.int .i64 N)).set 3 (.int .i64 ty)).set 4 (.slice aoA mA cA)).set 5 (.slice aoT mT cT)).set 6 (.string (bs s))).set 7 (.int .i64 p))
        have KK := hide (FF.out.kr M7.out.2.2.2.1 M7.out.2.2.2.2.2.1)
        have QQ := hide (FF.out.rr M7.out.1 hS.out (by decide) (by have := M7.out.lt; omega))
        have OO := hide (⟨FF.out.own o1.out o3a, FF.out.own o2.out o3b⟩ : _ ∧ _)
        go_wp2_with fail
        exact bodyPost_ret (v := .agg (insCells (op, id, N, ty, acc, [], s, p) (.slice aoA mA cA) (.slice aoT mT cT)).toArray) (by simp [results, Tryz.results103, go_sem, insCells, s0, s1, s2, s3, s4, s5, s6, s7]) rfl ⟨_, rfl, ⟨_, _, rfl, OO.out.1, OO.out.2⟩, QQ.out, KK.out⟩
      | true =>
        obtain ⟨v, l3, hv, hr3⟩ := then_inv (show G.andThen (G.value idxF E l') (fun v => G.valuesW idxF E f (acc ++ [v])) = .ok (args, lf) from by have := HR'.out; unfold G.valuesW at this; rwa [if_pos ht] at this)
        have hl3 : l3.length + 1 ≤ l'.length := by have h1 := tail_bulk (G.value_ok hv).1; have h2 := (G.value_ok hv).2.1; rw [h2]; omega
        have HV := hide hv
        have HR3 := hide hr3
        clear hv hr3 HR' ht
        go_wp2_with fail
        refine (rvalue _ M7.out.1 HV.out).mono ?_; rintro e w8 ⟨rfl, a8⟩
        have M8 := hide (M7.out.ate a8)
        clear M7 a8
        obtain ⟨va, vt, HC, HZ4, o1, o2, o3⟩ := M8.out.2.1.cells
        have hcl9 := M8.out.lt
        have cA := HC 4 _ rfl
        have zA := HZ4 4
        have hne : va.ownBlock ≠ some c := (o3 c (by obtain ⟨ua, ut, q1, _⟩ := M8.out.2.1; exact ⟨_, _, q1⟩)).1
        obtain ⟨ao9, cp9, rfl⟩ := own_len o1
        have O9 := hide o1
        obtain ⟨cB, zB⟩ := Cel.below (below_box w8 (.cells #[.int .i64 v] 3)) hcl9.2.2.2.1 cA zA
        clear HC HZ4 o1 o2 o3
        have t29 : acc.length + 1 ≤ maxLen := by unfold maxLen; omega
        have t39 : (acc.length + 1) * 8 ≤ 140737488355328 := by omega
        have t49 : w.heap.size ≤ (w8.alloc (.cells #[.int .i64 v] 3)).heap.size := by simp; omega
        have t59 : c < (w8.alloc (.cells #[.int .i64 v] 3)).heap.size := by simp; omega
        go_wp2_with (at_builtin; refine wpList_append_lies _ rfl (.tmp 29) (.tmp 31) 22 rfl w.heap.size 3 i0 _ 1 8 Tryz.underlying22 hi0 hz0 hz1 hz2 rfl (by decide) _ _ _ rfl (O9.out.alloc _) ⟨w8.heap.size, 0, none⟩ 1 1 [.int .i64 v] rfl rfl one_cell one_one (by decide) t29 t39 t49 (w8.heap.size + 1) (by simp) ?_; intro gg9 cap9 w9 hown9 hgrow9 hat9 hlt9; obtain ⟨cC9, zC9⟩ := Cel.grown hgrow9 t59 hne cB zB)
        have M9 := hide ((M8.out.below (below_box w8 (.cells #[.int .i64 v] 3))).arg cB hown9 hgrow9 (hat9.imp (fun e => e) (fun e => e.trans (by simp))))
        have hra9 := M9.out.1.readAt
        have hll9 := M9.out.1.len
        go_roundw
        case rel => exact ⟨f, acc ++ [v], l3, M9, by omega, by simp; omega, HR3⟩
        case measure => rw [hra9]; omega
  · have hno : (peek0 l).head? ≠ some 64 := by rw [hs]; simp [hx]
    obtain ⟨rfl, rfl⟩ : N = 0 ∧ l2 = l := by
      rcases HS.out with ⟨q, _⟩ | ⟨_, q⟩
      · exact absurd q hno
      · exact q
    replace e1 : (((bs (peek0 l2))[0].toNat : Int) == 64) = false := e1 hp
    clear hs hno HS hx
    go_wp2_with fail
    refine (rpeek0 _ M0.out.1 rfl).mono ?_; rintro e w1 ⟨rfl, b1⟩
    have M2 := hide (M0.out.below b1)
    clear M0 b1
    generalize bs (peek0 l2) = C at *
    go_wp2_with fail
    clear e0
    refine (rname s _ M2.out.1 HN.out.2.1 HN.out.2.2).mono ?_; rintro e w3 ⟨rfl, a3⟩
    have M3 := hide (M2.out.ate a3)
    clear M2 a3
    obtain ⟨va, vt, HC, HZ4, o1, o2, o3⟩ := M3.out.2.1.cells
    have cA := HC 6 _ rfl
    have zA := HZ4 6
    have M4 : Hid (MidR w a c g L E n (op, id, 0, ty, [], [], s, p) l2.tail (w3.setCell ⟨c, 6, none⟩ (.string (bs s)))) := hide (M3.out.put (M3.out.2.1.setName s))
    clear HC HZ4 o1 o2 o3 M3
    go_wp2_with fail
    clear cA zA
    generalize w3.setCell ⟨c, 6, none⟩ (.string (bs s)) = W3 at *
    go_loopw [] (fun wr => ∃ (f : Nat) (acc : List Int) (l' : List Tok), Hid (MidR w a c g L E n (op, id, 0, ty, acc, [], s, p) l' wr) ∧ l'.length < f ∧ acc.length + l'.length ≤ L.length ∧ Hid (G.valuesW idxF E f acc l' = .ok (args, lf))) (fun wr => L.length - readAt a wr)
    case atStart => exact ⟨_, [], _, M4, Nat.lt_succ_self _, by rw [List.length_nil, Nat.zero_add]; exact M4.out.1.len.1, HR4⟩
    case round =>
      obtain ⟨f, acc, l', M, hf, hA, HR'⟩ := hrel
      have hra := M.out.1.readAt
      have hll := M.out.1.len
      obtain ⟨f, rfl⟩ : ∃ q, f = q + 1 := ⟨f - 1, by omega⟩
      go_wp2_with fail
      refine (rtaken _ M.out.1).mono ?_; rintro e w7 ⟨rfl, b7⟩
      have M7 := hide (M.out.below b7)
      have hra7 : Hid (readAt a wr = L.length - l'.length) := hide hra
      clear M b7
      cases ht : G.taken l' with
      | false =>
        obtain ⟨rfl, rfl⟩ : acc = args ∧ l' = lf := by have := HR'.out; unfold G.valuesW at this; rw [if_neg (by simp [ht])] at this; cases this; exact ⟨rfl, rfl⟩
        clear ht HR'
        obtain ⟨va', vt', HC, HZ4, o1, o2, o3⟩ := M7.out.2.1.cells
        obtain ⟨aoA, mA, cA, rfl⟩ := own_slice o1
        obtain ⟨aoT, mT, cT, rfl⟩ := own_slice o2
        have y0 := HC 0 _ rfl
        have y1 := HC 1 _ rfl
        have y2 := HC 2 _ rfl
        have y3 := HC 3 _ rfl
        have y4 := HC 4 _ rfl
        have y5 := HC 5 _ rfl
        have y6 := HC 6 _ rfl
        have y7 := HC 7 _ rfl
        have hS := M7.out.2.2.1
        obtain ⟨o3a, o3b⟩ := o3 g ⟨_, _, hS⟩
        have hS := hide hS
        have o1 := hide o1
        have o2 := hide o2
        clear HC HZ4 o3
        obtain ⟨s0, s1, s2, s3, s4, s5, s6, s7, f0, f1, f2, f3, f4, f5, f6, f7⟩ := res8 hS.out
        have hcn : c ≠ g := fun e => M7.out.2.2.2.2.2.2 e.symm
        have FF := hide (((((((((Far.refl g w7).set 0 (.int .i64 op)).set 1 (.int .i64 id)).set 2 (.int .i64 0)).set 3 (.int .i64 ty)).set 4 (.slice aoA mA cA)).set 5 (.slice aoT mT cT)).set 6 (.string (bs s))).set 7 (.int .i64 p))
        have KK := hide (FF.out.kr M7.out.2.2.2.1 M7.out.2.2.2.2.2.1)
        have QQ := hide (FF.out.rr M7.out.1 hS.out (by decide) (by have := M7.out.lt; omega))
        have OO := hide (⟨FF.out.own o1.out o3a, FF.out.own o2.out o3b⟩ : _ ∧ _)
        go_wp2_with fail
        exact bodyPost_ret (v := .agg (insCells (op, id, 0, ty, acc, [], s, p) (.slice aoA mA cA) (.slice aoT mT cT)).toArray) (by simp [results, Tryz.results103, go_sem, insCells, s0, s1, s2, s3, s4, s5, s6, s7]) rfl ⟨_, rfl, ⟨_, _, rfl, OO.out.1, OO.out.2⟩, QQ.out, KK.out⟩
      | true =>
        obtain ⟨v, l3, hv, hr3⟩ := then_inv (show G.andThen (G.value idxF E l') (fun v => G.valuesW idxF E f (acc ++ [v])) = .ok (args, lf) from by have := HR'.out; unfold G.valuesW at this; rwa [if_pos ht] at this)
        have hl3 : l3.length + 1 ≤ l'.length := by have h1 := tail_bulk (G.value_ok hv).1; have h2 := (G.value_ok hv).2.1; rw [h2]; omega
        have HV := hide hv
        have HR3 := hide hr3
        clear hv hr3 HR' ht
        go_wp2_with fail
        refine (rvalue _ M7.out.1 HV.out).mono ?_; rintro e w8 ⟨rfl, a8⟩
        have M8 := hide (M7.out.ate a8)
        clear M7 a8
        obtain ⟨va, vt, HC, HZ4, o1, o2, o3⟩ := M8.out.2.1.cells
        have hcl9 := M8.out.lt
        have cA := HC 4 _ rfl
        have zA := HZ4 4
        have hne : va.ownBlock ≠ some c := (o3 c (by obtain ⟨ua, ut, q1, _⟩ := M8.out.2.1; exact ⟨_, _, q1⟩)).1
        obtain ⟨ao9, cp9, rfl⟩ := own_len o1
        have O9 := hide o1
        obtain ⟨cB, zB⟩ := Cel.below (below_box w8 (.cells #[.int .i64 v] 3)) hcl9.2.2.2.1 cA zA
        clear HC HZ4 o1 o2 o3
        have t29 : acc.length + 1 ≤ maxLen := by unfold maxLen; omega
        have t39 : (acc.length + 1) * 8 ≤ 140737488355328 := by omega
        have t49 : w.heap.size ≤ (w8.alloc (.cells #[.int .i64 v] 3)).heap.size := by simp; omega
        have t59 : c < (w8.alloc (.cells #[.int .i64 v] 3)).heap.size := by simp; omega
        go_wp2_with (at_builtin; refine wpList_append_lies _ rfl (.tmp 29) (.tmp 31) 22 rfl w.heap.size 3 i0 _ 1 8 Tryz.underlying22 hi0 hz0 hz1 hz2 rfl (by decide) _ _ _ rfl (O9.out.alloc _) ⟨w8.heap.size, 0, none⟩ 1 1 [.int .i64 v] rfl rfl one_cell one_one (by decide) t29 t39 t49 (w8.heap.size + 1) (by simp) ?_; intro gg9 cap9 w9 hown9 hgrow9 hat9 hlt9; obtain ⟨cC9, zC9⟩ := Cel.grown hgrow9 t59 hne cB zB)
        have M9 := hide ((M8.out.below (below_box w8 (.cells #[.int .i64 v] 3))).arg cB hown9 hgrow9 (hat9.imp (fun e => e) (fun e => e.trans (by simp))))
        have hra9 := M9.out.1.readAt
        have hll9 := M9.out.1.len
        go_roundw
        case rel => exact ⟨f, acc ++ [v], l3, M9, by omega, by simp; omega, HR3⟩
        case measure => rw [hra9]; omega
end Go.Proofs.YtmiplohoclckcaaGreat
