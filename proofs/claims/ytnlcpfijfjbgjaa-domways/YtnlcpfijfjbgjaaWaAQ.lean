/- Layer 6, the reference's reader, where nothing is wrong: the other operands. Layer 6, the reference's reader, where nothing is wrong: an instruction. -/
import Derived.Test.YtnlcpfijfjbgjaaWaAP
namespace Go.Proofs.Ytnlcpfijfjbgjaa
open Go Go.RowKit
open G (Tok Er Ins Fun peek0 peek1 atOf)
set_option maxHeartbeats 4000000 in
set_option maxRecDepth 20000 in
theorem rops_28 (id ty p : Int) {a : Nat} {L : List Tok} {E : Int} {n : Nat} {l lf : List Tok} {y : G.Opd} (w : World) (h : RR a L E n l w) (hr : opsG E 28 l = .ok (y, lf)) :
    Calls Try.prog 70 #[.pointer (some ⟨a, 0, none⟩), .agg (bare8 28 id 0 ty (bs []) p)] w (ROut a L E n (fill (bare 28 id ty p) y) lf w) := by
  have HR0 : Hid (G.ret1 idxF E l = .ok (y, lf)) := hide hr
  clear hr
  obtain ⟨i0, hi0, hz0, hz1, hz2⟩ := info_parts Try.info3
  have M0 : Hid (MidR w a (w.heap.size + 1 + 1) (w.heap.size + 1) L E n (28, id, 0, ty, [], [], [], p) l (((w.alloc (.cells (bare8 28 id 0 ty (bs []) p) 60)).alloc (.cells (bare8 0 0 0 0 ⟨#[]⟩ 0) 60)).alloc (.cells (bare8 28 id 0 ty (bs []) p) 60))) := hide (MidR.start h 28 id 0 ty [] p)
  have HC0 := hide (start_cell w 28 id 0 ty (bs []) p)
  clear h
  generalize hg : w.heap.size + 1 = g at *
  generalize hc : g + 1 = c at *
  go_enter Try.func70, Try.ntmps70
  go_upto_region 2 with fail
  show Code.wp _ _ _ _ (((w.alloc (.cells (bare8 28 id 0 ty (bs []) p) 60)).alloc (.cells (bare8 0 0 0 0 ⟨#[]⟩ 0) 60)).alloc (.cells (bare8 28 id 0 ty (bs []) p) 60))
  generalize ((w.alloc (.cells (bare8 28 id 0 ty (bs []) p) 60)).alloc (.cells (bare8 0 0 0 0 ⟨#[]⟩ 0) 60)).alloc (.cells (bare8 28 id 0 ty (bs []) p) 60) = W0 at *
  clear hg hc
  obtain ⟨x0, x1, x2, x3, x4, x5, x6, x7, xz, xl⟩ := eight_of HC0.out
  go_wp2_with fail
  refine (rtaken _ M0.out.1).mono ?_; rintro e w1 ⟨rfl, b1⟩
  have M1 := hide (M0.out.below b1)
  replace HC0 := hide ((b1.block c xl).trans HC0.out)
  clear M0 b1 x0 x1 x2 x3 x4 x5 x6 x7 xz xl
  obtain ⟨x0, x1, x2, x3, x4, x5, x6, x7, xz, xl⟩ := eight_of HC0.out
  cases ht : G.taken l with
  | true =>
    obtain ⟨v, r, hv, h2⟩ := then_inv (show G.andThen (G.value idxF E l) (fun v => G.done (0, [v], [], [])) = .ok (y, lf) from by have := HR0.out; unfold G.ret1 at this; rwa [if_pos ht] at this)
    cases h2
    have HR : Hid (restG E [118] (28, id, 0, ty, [], [], [], p) l = .ok ((28, id, 0, ty, [v], [], [], p), lf)) := hide ((then_go hv).trans rfl)
    clear hv ht HR0
    go_wp2_with fail
    refine (rrest [118] 28 id 0 ty [] p _ M1.out.1 (by simp) (by simp) HR.out).mono ?_; rintro e w2 ⟨v2, rfl, ho⟩
    have ho := hide ho
    clear x0 x1 x2 x3 x4 x5 x6 x7 xz xl
    obtain ⟨aoA, mA, cA, aoT, mT, cT, rfl, hS, hfin⟩ := fin_of M1.out ho.out
    obtain ⟨s0, s1, s2, s3, s4, s5, s6, s7, f0, f1, f2, f3, f4, f5, f6, f7⟩ := res8 hS
    have FF := hide (hfin _ (((((((((Far.refl g w2).set 0 (.int .i64 28)).set 1 (.int .i64 id)).set 2 (.int .i64 0)).set 3 (.int .i64 ty)).set 4 (.slice aoA mA cA)).set 5 (.slice aoT mT cT)).set 6 (.string (bs []))).set 7 (.int .i64 p)))
    clear hfin hS ho
    simp only [insCells] at *
    go_wp2_with fail
    exact bodyPost_ret (v := .agg (insCells (28, id, 0, ty, [v], [], [], p) (.slice aoA mA cA) (.slice aoT mT cT)).toArray) (by simp [results, Try.results70, go_sem, insCells, s0, s1, s2, s3, s4, s5, s6, s7]) rfl ⟨_, rfl, ⟨_, _, rfl, FF.out.1, FF.out.2.1⟩, FF.out.2.2.1, FF.out.2.2.2⟩
  | false =>
    obtain ⟨rfl, rfl⟩ : y = (0, [], [], []) ∧ lf = l := by have := HR0.out; unfold G.ret1 at this; rw [if_neg (by simp [ht])] at this; cases this; exact ⟨rfl, rfl⟩
    clear ht HR0 x0 x1 x2 x3 x4 x5 x6 x7 xz xl HC0
    obtain ⟨va', vt', HC, HZ4, o1, o2, o3⟩ := M1.out.2.1.cells
    obtain ⟨aoA, mA, cA, rfl⟩ := own_slice o1
    obtain ⟨aoT, mT, cT, rfl⟩ := own_slice o2
    have y0 := HC 0 _ rfl
    have y1 := HC 1 _ rfl
    have y2 := HC 2 _ rfl
    have y3 := HC 3 _ rfl
    have y4 := HC 4 _ rfl
    have y5 := HC 5 _ rfl
    have y6 := HC 6 _ rfl
    have y7 := HC 7 _ rfl
    have hS := M1.out.2.2.1
    obtain ⟨o3a, o3b⟩ := o3 g ⟨_, _, hS⟩
    have hS := hide hS
    have o1 := hide o1
    have o2 := hide o2
    clear HC HZ4 o3
    obtain ⟨s0, s1, s2, s3, s4, s5, s6, s7, f0, f1, f2, f3, f4, f5, f6, f7⟩ := res8 hS.out
    have hcn : c ≠ g := fun e => M1.out.2.2.2.2.2.2 e.symm
    have FF := hide (((((((((Far.refl g w1).set 0 (.int .i64 28)).set 1 (.int .i64 id)).set 2 (.int .i64 0)).set 3 (.int .i64 ty)).set 4 (.slice aoA mA cA)).set 5 (.slice aoT mT cT)).set 6 (.string (bs []))).set 7 (.int .i64 p))
    have KK := hide (FF.out.kr M1.out.2.2.2.1 M1.out.2.2.2.2.2.1)
    have QQ := hide (FF.out.rr M1.out.1 hS.out (by decide) (by have := M1.out.lt; omega))
    have OO := hide (⟨FF.out.own o1.out o3a, FF.out.own o2.out o3b⟩ : _ ∧ _)
    go_wp2_with fail
    exact bodyPost_ret (v := .agg (insCells (28, id, 0, ty, [], [], [], p) (.slice aoA mA cA) (.slice aoT mT cT)).toArray) (by simp [results, Try.results70, go_sem, insCells, s0, s1, s2, s3, s4, s5, s6, s7]) rfl ⟨_, rfl, ⟨_, _, rfl, OO.out.1, OO.out.2⟩, QQ.out, KK.out⟩
set_option maxHeartbeats 4000000 in
set_option maxRecDepth 20000 in
theorem rops_10 (id ty p : Int) {a : Nat} {L : List Tok} {E : Int} {n : Nat} {l lf : List Tok} {y : G.Opd} (w : World) (h : RR a L E n l w) (hr : opsG E 10 l = .ok (y, lf)) :
    Calls Try.prog 70 #[.pointer (some ⟨a, 0, none⟩), .agg (bare8 10 id 0 ty (bs []) p)] w (ROut a L E n (fill (bare 10 id ty p) y) lf w) := by
  obtain ⟨s, r, hv, h2⟩ := then_inv (show G.andThen (G.shaped shpF E l) (fun s => G.done (0, [], [], s)) = .ok (y, lf) from hr)
  cases h2
  obtain ⟨hl, rfl, h3⟩ := G.one_ok (by simp [shp_nil]) hv
  obtain ⟨rfl, h0⟩ : s = peek0 l ∧ shpF (peek0 l) = 0 := by
    by_cases hc : shpF (peek0 l) ≠ 0
    · simp only [if_pos hc] at h3; cases h3
    · simp only [if_neg hc] at h3; cases h3; exact ⟨rfl, Classical.byContradiction fun q => hc q⟩
  obtain ⟨sa, sb, hsh⟩ := shp_of (peek0 l)
  rw [h0] at hsh
  have hsz : (bs (peek0 l)).size ≤ maxLen := by rw [bs_size]; have := h.short.1; unfold maxLen; omega
  have HSH := hide hsh
  generalize hs : peek0 l = s at *
  have HPS := hide hs
  clear hr hv h3 h0 hsh hs
  obtain ⟨i0, hi0, hz0, hz1, hz2⟩ := info_parts Try.info3
  have M0 : Hid (MidR w a (w.heap.size + 1 + 1) (w.heap.size + 1) L E n (10, id, 0, ty, [], [], [], p) l (((w.alloc (.cells (bare8 10 id 0 ty (bs []) p) 60)).alloc (.cells (bare8 0 0 0 0 ⟨#[]⟩ 0) 60)).alloc (.cells (bare8 10 id 0 ty (bs []) p) 60))) := hide (MidR.start h 10 id 0 ty [] p)
  have HC0 := hide (start_cell w 10 id 0 ty (bs []) p)
  clear h
  generalize hg : w.heap.size + 1 = g at *
  generalize hc : g + 1 = c at *
  go_enter Try.func70, Try.ntmps70
  go_upto_region 2 with fail
  show Code.wp _ _ _ _ (((w.alloc (.cells (bare8 10 id 0 ty (bs []) p) 60)).alloc (.cells (bare8 0 0 0 0 ⟨#[]⟩ 0) 60)).alloc (.cells (bare8 10 id 0 ty (bs []) p) 60))
  generalize ((w.alloc (.cells (bare8 10 id 0 ty (bs []) p) 60)).alloc (.cells (bare8 0 0 0 0 ⟨#[]⟩ 0) 60)).alloc (.cells (bare8 10 id 0 ty (bs []) p) 60) = W0 at *
  clear hg hc
  obtain ⟨x0, x1, x2, x3, x4, x5, x6, x7, xz, xl⟩ := eight_of HC0.out
  clear HC0
  clear x1 x2 x3 x4 x5 x6 x7 xz xl
  go_wp2_with fail
  refine (rpeek0 _ M0.out.1 HPS.out).mono ?_; rintro e w1 ⟨rfl, b1⟩
  have M1 := hide (M0.out.below b1)
  clear M0 b1 x0
  go_wp2_with fail
  refine (L3.refParse_all (bs s) w1).mono ?_; rintro e w2 ⟨rfl, b2⟩
  rw [HSH.out]
  have M2 := hide ((M1.out.below b2).below (below_box w2 (.cells #[.int .i64 sa, .int .i64 sb] 117)))
  clear M1 b2
  go_upto_region 11 with fail
  show Code.wp _ _ _ _ (w2.alloc (.cells #[.int .i64 sa, .int .i64 sb] 117))
  generalize w2.alloc (.cells #[.int .i64 sa, .int .i64 sb] 117) = W2 at *
  obtain ⟨va, vt, HC, HZ4, o1, o2, o3⟩ := M2.out.2.1.cells
  have cA := HC 6 _ rfl
  have zA := HZ4 6
  have M3 : Hid (MidR w a c g L E n (10, id, 0, ty, [], [], s, p) l (W2.setCell ⟨c, 6, none⟩ (.string (bs s)))) := hide (M2.out.put (M2.out.2.1.setName s))
  clear HC HZ4 o1 o2 o3 M2
  go_upto_region 15 with fail
  show Code.wp _ _ _ _ (W2.setCell ⟨c, 6, none⟩ (.string (bs s)))
  clear cA zA va vt
  generalize W2.setCell ⟨c, 6, none⟩ (.string (bs s)) = W3 at *
  obtain ⟨c1, z1, c4, hq⟩ := M3.out.1.at1
  have M4 := hide (M3.out.ate (ate_of M3.out.1 (Below.refl _ _) hl))
  clear c4 M3
  generalize L.length - l.length = q at *
  go_upto_region 23 with fail
  show Code.wp _ _ _ _ (W3.setCell ⟨a, 1, none⟩ (.int .i64 ((q : Int) + 1)))
  clear c1 z1
  generalize W3.setCell ⟨a, 1, none⟩ (.int .i64 ((q : Int) + 1)) = W4 at *
  obtain ⟨va', vt', HC, HZ4, o1, o2, o3⟩ := M4.out.2.1.cells
  obtain ⟨aoA, mA, cA, rfl⟩ := own_slice o1
  obtain ⟨aoT, mT, cT, rfl⟩ := own_slice o2
  have y0 := HC 0 _ rfl
  have y1 := HC 1 _ rfl
  have y2 := HC 2 _ rfl
  have y3 := HC 3 _ rfl
  have y4 := HC 4 _ rfl
  have y5 := HC 5 _ rfl
  have y6 := HC 6 _ rfl
  have y7 := HC 7 _ rfl
  have hS := M4.out.2.2.1
  obtain ⟨o3a, o3b⟩ := o3 g ⟨_, _, hS⟩
  have hS := hide hS
  have o1 := hide o1
  have o2 := hide o2
  clear HC HZ4 o3
  obtain ⟨s0, s1, s2, s3, s4, s5, s6, s7, f0, f1, f2, f3, f4, f5, f6, f7⟩ := res8 hS.out
  have hcn : c ≠ g := fun e => M4.out.2.2.2.2.2.2 e.symm
  have FF := hide (((((((((Far.refl g W4).set 0 (.int .i64 10)).set 1 (.int .i64 id)).set 2 (.int .i64 0)).set 3 (.int .i64 ty)).set 4 (.slice aoA mA cA)).set 5 (.slice aoT mT cT)).set 6 (.string (bs s))).set 7 (.int .i64 p))
  have KK := hide (FF.out.kr M4.out.2.2.2.1 M4.out.2.2.2.2.2.1)
  have QQ := hide (FF.out.rr M4.out.1 hS.out (by decide) (by have := M4.out.lt; omega))
  have OO := hide (⟨FF.out.own o1.out o3a, FF.out.own o2.out o3b⟩ : _ ∧ _)
  go_wp2_with fail
  exact bodyPost_ret (v := .agg (insCells (10, id, 0, ty, [], [], s, p) (.slice aoA mA cA) (.slice aoT mT cT)).toArray) (by simp [results, Try.results70, go_sem, insCells, s0, s1, s2, s3, s4, s5, s6, s7]) rfl ⟨_, rfl, ⟨_, _, rfl, OO.out.1, OO.out.2⟩, QQ.out, KK.out⟩
set_option maxHeartbeats 4000000 in
set_option maxRecDepth 20000 in
theorem rops_else (op id ty p : Int) {a : Nat} {L : List Tok} {E : Int} {n : Nat} {l lf : List Tok} {y : G.Opd} (w : World) (h : RR a L E n l w) (g1 : ¬ op = 1) (g29 : ¬ op = 29) (g10 : ¬ op = 10) (g20 : ¬ op = 20) (g21 : ¬ op = 21) (g28 : ¬ op = 28) (hr : opsG E op l = .ok (y, lf)) :
    Calls Try.prog 70 #[.pointer (some ⟨a, 0, none⟩), .agg (bare8 op id 0 ty (bs []) p)] w (ROut a L E n (fill (bare op id ty p) y) lf w) := by
  obtain ⟨N, ar, tt, nm⟩ := y
  have HR : Hid (restG E (letG op) (op, id, 0, ty, [], [], [], p) l = .ok ((op, id, N, ty, ar, tt, nm, p), lf)) := hide (rest_any g1 g29 g10 g20 g21 g28 hr)
  have LI := hide (let_in op)
  have k1 : (op == 1) = false := by simpa using g1
  have k29 : (op == 29) = false := by simpa using g29
  have k10 : (op == 10) = false := by simpa using g10
  have k20 : (op == 20) = false := by simpa using g20
  have k21 : (op == 21) = false := by simpa using g21
  have k28 : (op == 28) = false := by simpa using g28
  clear hr g1 g29 g10 g20 g21 g28
  obtain ⟨i0, hi0, hz0, hz1, hz2⟩ := info_parts Try.info3
  have M0 : Hid (MidR w a (w.heap.size + 1 + 1) (w.heap.size + 1) L E n (op, id, 0, ty, [], [], [], p) l (((w.alloc (.cells (bare8 op id 0 ty (bs []) p) 60)).alloc (.cells (bare8 0 0 0 0 ⟨#[]⟩ 0) 60)).alloc (.cells (bare8 op id 0 ty (bs []) p) 60))) := hide (MidR.start h op id 0 ty [] p)
  have HC0 := hide (start_cell w op id 0 ty (bs []) p)
  clear h
  generalize hg : w.heap.size + 1 = g at *
  generalize hc : g + 1 = c at *
  go_enter Try.func70, Try.ntmps70
  go_upto_region 2 with fail
  show Code.wp _ _ _ _ (((w.alloc (.cells (bare8 op id 0 ty (bs []) p) 60)).alloc (.cells (bare8 0 0 0 0 ⟨#[]⟩ 0) 60)).alloc (.cells (bare8 op id 0 ty (bs []) p) 60))
  generalize ((w.alloc (.cells (bare8 op id 0 ty (bs []) p) 60)).alloc (.cells (bare8 0 0 0 0 ⟨#[]⟩ 0) 60)).alloc (.cells (bare8 op id 0 ty (bs []) p) 60) = W0 at *
  clear hg hc
  obtain ⟨x0, x1, x2, x3, x4, x5, x6, x7, xz, xl⟩ := eight_of HC0.out
  go_wp2_with fail
  clear k1 k29 k10 k20 k21 k28
  go_region_with ((first
    | (go_at_call 81; refine (rletters op _).mono ?_; rintro e w1 ⟨rfl, b1⟩; have M1 := hide (M0.out.below (Below.undrew (w := W0) b1)); obtain ⟨y0, y1, y2, y3, y4, y5, y6, y7, yz, yl⟩ := eight_of (((Below.undrew (w := W0) b1).block c xl).trans HC0.out))
    | (go_at_call 80; refine (rrest (letG op) op id 0 ty [] p _ M1.out.1 LI.out.1 LI.out.2 HR.out).mono ?_; rintro e w2 ⟨v2, rfl, ho⟩; have ho := hide ho; obtain ⟨aoA, mA, cA, aoT, mT, cT, rfl, hS, hfin⟩ := fin_of M1.out ho.out; obtain ⟨s0, s1, s2, s3, s4, s5, s6, s7, f0, f1, f2, f3, f4, f5, f6, f7⟩ := res8 hS; simp only [insCells])))
  all_goals
    have FF := hide (hfin _ (((((((((Far.refl g w2).set 0 (.int .i64 op)).set 1 (.int .i64 id)).set 2 (.int .i64 N)).set 3 (.int .i64 ty)).set 4 (.slice aoA mA cA)).set 5 (.slice aoT mT cT)).set 6 (.string (bs nm))).set 7 (.int .i64 p)))
    go_wp2_with fail
    exact bodyPost_ret (v := .agg (insCells (op, id, N, ty, ar, tt, nm, p) (.slice aoA mA cA) (.slice aoT mT cT)).toArray) (by simp [results, Try.results70, go_sem, insCells, s0, s1, s2, s3, s4, s5, s6, s7]) rfl ⟨_, rfl, ⟨_, _, rfl, FF.out.1, FF.out.2.1⟩, FF.out.2.2.1, FF.out.2.2.2⟩
theorem roperands (op id ty p : Int) {a : Nat} {L : List Tok} {E : Int} {n : Nat} {l lf : List Tok} {y : G.Opd} (w : World) (h : RR a L E n l w) (hr : opsG E op l = .ok (y, lf)) :
    Calls Try.prog 70 #[.pointer (some ⟨a, 0, none⟩), .agg (bare8 op id 0 ty (bs []) p)] w (ROut a L E n (fill (bare op id ty p) y) lf w) := by
  by_cases g1 : op = 1
  · subst g1; exact rops_1 id ty p w h hr
  by_cases g29 : op = 29
  · subst g29; exact rops_29 id ty p w h hr
  by_cases g10 : op = 10
  · subst g10; exact rops_10 id ty p w h hr
  by_cases g20 : op = 20
  · subst g20; exact rops_20 id ty p w h hr
  by_cases g21 : op = 21
  · subst g21; exact rops_21 id ty p w h hr
  by_cases g28 : op = 28
  · subst g28; exact rops_28 id ty p w h hr
  exact rops_else op id ty p w h g1 g29 g10 g20 g21 g28 hr
end Go.Proofs.Ytnlcpfijfjbgjaa
namespace Go.Proofs.Ytnlcpfijfjbgjaa
open Go Go.RowKit
open G (Tok Er Ins Fun peek0 peek1 atOf)
/-- An instruction without operands stands at c, the place of the answer at g. -/
def MidB (w : World) (a c g : Nat) (L : List Tok) (E : Int) (n : Nat) (op id ty p : Int) (l : List Tok) (wk : World) : Prop :=
  RR a L E n l wk ∧ wk.heap[c]? = some (.cells (bare8 op id 0 ty (bs []) p) 60 (0, 0)) ∧ wk.heap[g]? = some (.cells #[.int .i64 0, .int .i64 0, .int .i64 0, .int .i64 0, .slice none 0 0, .slice none 0 0, .string ⟨#[]⟩, .int .i64 0] 60 (0, 0)) ∧ Kr a w wk ∧ a < w.heap.size ∧ w.heap.size ≤ g ∧ w.heap.size ≤ c ∧ g ≠ c
section
variable {w : World} {a c g : Nat} {L : List Tok} {E : Int} {n : Nat} {op id ty p : Int} {l : List Tok} {wk : World}
theorem MidB.mid (h : MidB w a c g L E n op id ty p l wk) : MidR w a c g L E n (bare op id ty p) l wk := by
  obtain ⟨h1, h2, h3, h4, h5, h6, h7, h8⟩ := h
  exact ⟨h1, ⟨.slice none 0 0, .slice none 0 0, h2, World.ownsRow_nil _ _ _ _, World.ownsRow_nil _ _ _ _, .inl rfl, h7⟩, h3, h4, h5, h6, h8⟩
theorem MidB.below {wk' : World} (h : MidB w a c g L E n op id ty p l wk) (b : Below wk.heap.size wk wk') : MidB w a c g L E n op id ty p l wk' := by
  obtain ⟨h1, h2, h3, h4, h5, h6, h7, h8⟩ := h
  exact ⟨h1.below b, (b.block c (Array.getElem?_eq_some_iff.1 h2).1).trans h2, (b.block g (Array.getElem?_eq_some_iff.1 h3).1).trans h3, h4.step b, h5, h6, h7, h8⟩
theorem MidB.ate {l' : List Tok} {wk' : World} (h : MidB w a c g L E n op id ty p l wk) (b : Ate a L E n l' wk wk') : MidB w a c g L E n op id ty p l' wk' := by
  obtain ⟨h1, h2, h3, h4, h5, h6, h7, h8⟩ := h
  exact ⟨b.1, (b.2.2.2.2.2 c (Array.getElem?_eq_some_iff.1 h2).1 (by omega)).trans h2, (b.2.2.2.2.2 g (Array.getElem?_eq_some_iff.1 h3).1 (by omega)).trans h3, h4.trans b.2, h5, h6, h7, h8⟩
theorem MidB.put {op' id' ty' p' : Int} {i : Nat} {v : Value} (h : MidB w a c g L E n op id ty p l wk) (hc : (wk.setCell ⟨c, i, none⟩ v).heap[c]? = some (.cells (bare8 op' id' 0 ty' (bs []) p') 60 (0, 0))) : MidB w a c g L E n op' id' ty' p' l (wk.setCell ⟨c, i, none⟩ v) := by
  obtain ⟨h1, h2, h3, h4, h5, h6, h7, h8⟩ := h
  refine ⟨h1.set h2 (by decide) (by omega) i v, hc, (Below.heap_setCell _ _ _ _ (fun e => h8 e)).trans h3, ?_, h5, h6, h7, h8⟩
  have hb := (Below.refl 0 wk).setCell (p := ⟨c, i, none⟩) (Nat.zero_le c) v
  exact ⟨hb.os.trans h4.1, hb.tape.trans h4.2.1, hb.output.trans h4.2.2.1, Nat.le_trans h4.size hb.size, fun k k1 k2 => (Below.heap_setCell wk ⟨c, i, none⟩ v k (by show k ≠ c; omega)).trans (h4.2.2.2.2 k k1 k2)⟩
theorem MidB.setOp (h : MidB w a c g L E n op id ty p l wk) (v : Int) : MidB w a c g L E n v id ty p l (wk.setCell ⟨c, 0, none⟩ (.int .i64 v)) := h.put ((heap_setCell_same wk c 0 _ 60 _ h.2.1).trans rfl)
theorem MidB.setId (h : MidB w a c g L E n op id ty p l wk) (v : Int) : MidB w a c g L E n op v ty p l (wk.setCell ⟨c, 1, none⟩ (.int .i64 v)) := h.put ((heap_setCell_same wk c 1 _ 60 _ h.2.1).trans rfl)
theorem MidB.setTy (h : MidB w a c g L E n op id ty p l wk) (v : Int) : MidB w a c g L E n op id v p l (wk.setCell ⟨c, 3, none⟩ (.int .i64 v)) := h.put ((heap_setCell_same wk c 3 _ 60 _ h.2.1).trans rfl)
theorem MidB.setP (h : MidB w a c g L E n op id ty p l wk) (v : Int) : MidB w a c g L E n op id ty v l (wk.setCell ⟨c, 7, none⟩ (.int .i64 v)) := h.put ((heap_setCell_same wk c 7 _ 60 _ h.2.1).trans rfl)
end
theorem MidB.start {w : World} {a : Nat} {L : List Tok} {E : Int} {n : Nat} {l : List Tok} (h : RR a L E n l w) :
    MidB w a (w.heap.size + 1) w.heap.size L E n 0 (-1) 0 E l ((w.alloc (.cells (bare8 0 0 0 0 ⟨#[]⟩ 0) 60)).alloc (.cells (bare8 0 (-1) 0 0 ⟨#[]⟩ E) 60)) := by
  have b1 := below_box w (.cells (bare8 0 0 0 0 ⟨#[]⟩ 0) 60)
  have b2 := below_box (w.alloc (.cells (bare8 0 0 0 0 ⟨#[]⟩ 0) 60)) (.cells (bare8 0 (-1) 0 0 ⟨#[]⟩ E) 60)
  have s1 : (w.alloc (.cells (bare8 0 0 0 0 ⟨#[]⟩ 0) 60)).heap.size = w.heap.size + 1 := by simp
  refine ⟨(h.below b1).below b2, ?_, ?_, Kr.of_below (below_step b1 b2), h.lt, Nat.le_refl _, Nat.le_succ _, by omega⟩
  · rw [← s1]; exact heap_alloc_new _ _
  · refine (b2.block w.heap.size (by rw [s1]; omega)).trans ?_
    exact heap_alloc_new _ _
/-- The word that stands next, in memory. -/
theorem RR.here {a : Nat} {L : List Tok} {E : Int} {n : Nat} {l : List Tok} {w : World} (h : RR a L E n l w) (hl : l ≠ []) : ∃ g cap q, w.cell? ⟨a, 0, none⟩ = some (.slice (some ⟨g, 0, none⟩) L.length cap) ∧ w.cell? ⟨a, 1, none⟩ = some (.int .i64 ((q : Nat) : Int)) ∧ w.cell? ⟨g, q * 2 + 1, none⟩ = some (.int .i64 (atOf E l)) ∧ q < L.length ∧ L.length ≤ 131072 := by
  obtain ⟨ao, cap, c0, c1, c2, c3, c4, c5, fz, hL⟩ := h.cells
  obtain ⟨v, h1, h2, h5, h6, h7⟩ := h
  have hll := h5.length_le
  have hlp : 0 < l.length := List.length_pos_iff.2 hl
  rcases hL with hL | ⟨g, rfl, hg⟩
  · subst hL; simp at hll; exact absurd hll hl
  · obtain ⟨t, ht⟩ : ∃ t, L[L.length - l.length]? = some t := ⟨_, List.getElem?_eq_getElem (by omega)⟩
    have e := Rdr.word h5 0
    rw [Nat.add_zero, ht] at e
    refine ⟨g, cap, L.length - l.length, c0, c1, ?_, by omega, h6.1⟩
    rw [(hg _ t ht).2]
    cases l with
    | nil => exact absurd rfl hl
    | cons x r => simp at e; rw [e]; rfl
abbrev instrG (E : Int) : G.Rd Ins := G.instr numF idxF namF shpF tksF fndF mksF E
theorem instrG_inv {E : Int} {l lf : List Tok} {y : Ins} (h : instrG E l = .ok (y, lf)) : ∃ id r o r2 z, G.ident idxF E l = .ok (id, r) ∧ G.opword fndF mksF E id r = .ok (o, r2) ∧ opsG E o.1 r2 = .ok (z, lf) ∧ y = fill (bare o.1 id o.2 (atOf E l)) z := by
  obtain ⟨x, r, h1, h2⟩ := then_inv h
  obtain ⟨z, r3, h3, h4⟩ := then_inv h2
  cases h4
  obtain ⟨id, q, h5, h6⟩ := then_inv h1
  obtain ⟨o, q2, h7, h8⟩ := then_inv h6
  cases h8
  exact ⟨id, q, o, _, z, h5, h7, h3, rfl⟩
set_option maxHeartbeats 4000000 in
set_option maxRecDepth 20000 in
theorem rinstr {a : Nat} {L : List Tok} {E : Int} {n : Nat} {l lf : List Tok} {y : Ins} (w : World) (h : RR a L E n l w) (hr : instrG E l = .ok (y, lf)) :
    Calls Try.prog 66 #[.pointer (some ⟨a, 0, none⟩)] w (ROut a L E n y lf w) := by
  obtain ⟨id, r, o, r2, z, hid, how, hop, rfl⟩ := instrG_inv hr
  obtain ⟨N, ar, tt, nm⟩ := z
  have hl : l ≠ [] := fun e => by have := instr_less (E := E) (l := l) (l' := lf) ((instr_eq E l).symm.trans hr); rw [e] at this; simp at this
  have M0 := hide (MidB.start h)
  have hb0 := below_box w (.cells (bare8 0 0 0 0 ⟨#[]⟩ 0) 60)
  obtain ⟨_, _, _, _, d2, _⟩ := (h.below hb0).cells
  have HID := hide hid
  have HOW := hide how
  have HOP := hide hop
  have HN := hide (eq_word (peek1 l) [61])
  clear h hr hid how hop hb0
  have hW0 : (w.alloc (.cells (bare8 0 0 0 0 ⟨#[]⟩ 0) 60)).heap.size = w.heap.size + 1 := by simp
  generalize hg : w.heap.size = g at *
  generalize hc : g + 1 = c at *
  go_enter Try.func66, Try.ntmps66
  go_upto_region 1 with fail
  show Code.wp _ _ _ _ (w.alloc (.cells (bare8 0 0 0 0 ⟨#[]⟩ 0) 60))
  generalize w.alloc (.cells (bare8 0 0 0 0 ⟨#[]⟩ 0) 60) = W0 at *
  clear hg hc
  go_upto_region 2 with fail
  show Code.wp _ _ _ _ (W0.alloc (.cells (bare8 0 (-1) 0 0 ⟨#[]⟩ E) 60))
  clear hW0 d2
  generalize W0.alloc (.cells (bare8 0 (-1) 0 0 ⟨#[]⟩ E) 60) = W1 at *
  obtain ⟨gg, cap, q, c0, c1, ch, hq, hLL⟩ := M0.out.1.here hl
  have hq1 : (q : Int) < (L.length : Int) := by omega
  have hq2 : decide ((q : Int) < (L.length : Int)) = true := by simpa using hq1
  obtain ⟨_, _, _, _, _, _, _, x7, xz, _⟩ := eight_of M0.out.2.1
  have z7 := xz 7
  clear xz
  go_wp2_with fail
  go_quiet (fail)
  go_wp2_with fail
  go_region
  have M1 := hide ((M0.out.below (below_drewN (Below.refl _ _) (nq + 1))).setP (atOf E l))
  clear M0 c0 c1 ch hq hq1 hq2 x7 z7
  generalize (W1.drewN (nq + 1)).setCell ⟨c, 7, none⟩ (.int .i64 (atOf E l)) = W2 at *
  show Exit.then _ (bodyPost Try.prog Try.f66 (ROut a L E n (o.1, id, N, o.2, ar, tt, nm, atOf E l) lf w)) _ _ _
  generalize atOf E l = pp at *
  have HO : Hid (o = fndF (peek0 r) ∧ r ≠ [] ∧ r2 = r.tail ∧ o.1 ≠ 0 ∧ decide (mksF o.1 o.2 ≠ 0) = decide (0 ≤ id)) := hide (by obtain ⟨q1, q2, q3, q4, q5⟩ := G.opword_ok fnd_nil HOW.out; exact ⟨q3, q1, q2, q4, q5⟩)
  have ho0 : (o.1 == 0) = false := by simpa using HO.out.2.2.2.1
  obtain ⟨bb, hb1, hb2⟩ : ∃ bb, (L5.imakes o.1 o.2 != 0) = bb ∧ decide (0 ≤ id) = bb := ⟨_, by show (L5.imakes o.1 o.2 != 0) = decide (mksF o.1 o.2 ≠ 0); unfold mksF; by_cases hz : L5.imakes o.1 o.2 = 0 <;> simp [hz], HO.out.2.2.2.2.symm⟩
  obtain rfl : r2 = r.tail := HO.out.2.2.1
  clear HOW
  go_wp2_with fail
  refine (rpeek1 _ M1.out.1 rfl).mono ?_; rintro e w2 ⟨rfl, b2⟩
  have M1b := hide (M1.out.below b2)
  clear M1 b2
  by_cases h61 : peek1 l = [61]
  · have hne : ((bs (peek1 l)).toList == [61]) = true := HN.out.trans (decide_eq_true h61)
    obtain ⟨v, q1, hv, hx⟩ := then_inv (show G.andThen (G.value idxF E l) (fun v r => G.andThen (G.want E [61] r) fun _ => G.done v) = .ok (id, r) from by have := HID.out; unfold G.ident at this; rwa [if_pos h61] at this)
    obtain ⟨u, q2, hw, hx⟩ := then_inv hx
    cases hx
    obtain ⟨_, rfl, hw2⟩ := G.one_ok (G.want_none (by simp)) hw
    have hw3 : peek0 q1 = [61] := by
      by_cases hc : peek0 q1 = [61]
      · exact hc
      · simp only [if_neg hc] at hw2; cases hw2
    have HV := hide hv
    have HW3 := hide hw3
    clear hv hw hw2 hw3 h61 HN HID
    have hsz : Hid True := hide trivial
    go_wp2_with fail
    refine (rvalue _ M1b.out.1 HV.out).mono ?_; rintro e w21 ⟨rfl, a21⟩
    have M1c := hide (M1b.out.ate a21)
    clear M1b a21 hne
    obtain ⟨_, x1, _, _, _, _, _, _, xz, _⟩ := eight_of M1c.out.2.1
    have z1 := xz 1
    clear xz
    go_upto_region 6 with fail
    show Code.wp _ _ _ _ (w21.setCell ⟨c, 1, none⟩ (.int .i64 id))
    have M1d := hide (M1c.out.setId id)
    clear M1c x1 z1
    generalize w21.setCell ⟨c, 1, none⟩ (.int .i64 id) = W21 at *
    go_wp2_with fail
    refine (rwant [61] _ M1d.out.1 HW3.out (by simp)).mono ?_; rintro e w22 ⟨rfl, a22⟩
    have M2 := hide (M1d.out.ate a22)
    clear M1d a22
    go_wp2_with fail
    refine (rpeek0 _ M2.out.1 rfl).mono ?_; rintro e w3 ⟨rfl, b3⟩
    have M3 := hide (M2.out.below b3)
    clear M2 b3
    go_wp2_with fail
    refine (L5.refFind_any (bs (peek0 q1.tail)) _).mono ?_; rintro e w4 ⟨rfl, b4⟩
    rw [show L5.find (bs (peek0 q1.tail)) = o from HO.out.1.symm]
    have M4 := hide (M3.out.below b4)
    clear M3 b4
    obtain ⟨x0, _, _, x3, _, _, _, _, xz, _⟩ := eight_of M4.out.2.1
    have z0 := xz 0
    clear xz
    go_upto_region 9 with fail
    show Code.wp _ _ _ _ (w4.setCell ⟨c, 0, none⟩ (.int .i64 o.1))
    have M5 := hide (M4.out.setOp o.1)
    clear M4 x0 x3 z0
    generalize w4.setCell ⟨c, 0, none⟩ (.int .i64 o.1) = W5 at *
    obtain ⟨x0, _, _, x3, _, _, _, _, xz, _⟩ := eight_of M5.out.2.1
    have z3 := xz 3
    clear xz
    go_upto_region 10 with fail
    show Code.wp _ _ _ _ (W5.setCell ⟨c, 3, none⟩ (.int .i64 o.2))
    have M6 := hide (M5.out.setTy o.2)
    clear M5 x0 x3 z3
    generalize W5.setCell ⟨c, 3, none⟩ (.int .i64 o.2) = W6 at *
    have BX : Hid (L5.Box W6 c [.int .i64 o.1, .int .i64 id, .int .i64 0, .int .i64 o.2, .slice none 0 0, .slice none 0 0, .string (bs []), .int .i64 pp]) := hide ⟨(eight_of M6.out.2.1).2.2.2.2.2.2.2.2.2, fun i v hv => by have := M6.out.2.1; simp only [World.cell?, this]; simpa using hv⟩
    have x0 := fun x => (L5.grew_box BX.out x).2 0 _ rfl
    have x1 := fun x => (L5.grew_box BX.out x).2 1 _ rfl
    have x2 := fun x => (L5.grew_box BX.out x).2 2 _ rfl
    have x3 := fun x => (L5.grew_box BX.out x).2 3 _ rfl
    have x4 := fun x => (L5.grew_box BX.out x).2 4 _ rfl
    have x5 := fun x => (L5.grew_box BX.out x).2 5 _ rfl
    have x6 := fun x => (L5.grew_box BX.out x).2 6 _ rfl
    have x7 := fun x => (L5.grew_box BX.out x).2 7 _ rfl
    go_wp2_with fail
    refine L5.region_grew (by kernel_rfl) (by kernel_rfl) ?_
    repeat (go_big_quiet_step ((first
      | (go_at_call 69; exact L5.calls_grew (L5.refMakes_any o.1 o.2 _ _ _ _ _ _ _)))))
    refine wpQuiet_nil ?_
    rintro _ ⟨x, rfl⟩
    have M7 := hide (M6.out.below (L5.grewTo_below _ x))
    clear M6 BX x0 x1 x2 x3 x4 x5 x6 x7
    generalize hW7 : L5.grewTo W6 x = W7 at *
    clear hW7
    obtain ⟨c1, z1, c4, hq9⟩ := M7.out.1.at1
    have M8 := hide (M7.out.ate (ate_of M7.out.1 (Below.refl _ _) HO.out.2.1))
    clear c4 M7
    generalize L.length - q1.tail.length = q9 at *
    go_upto_region 17 with fail
    show Code.wp _ _ _ _ (W7.setCell ⟨a, 1, none⟩ (.int .i64 ((q9 : Int) + 1)))
    clear c1 z1
    generalize W7.setCell ⟨a, 1, none⟩ (.int .i64 ((q9 : Int) + 1)) = W8 at *
    obtain ⟨x0, x1, x2, x3, x4, x5, x6, x7, xz, _⟩ := eight_of M8.out.2.1
    clear xz
    go_wp2_with fail
    refine (roperands o.1 id o.2 pp _ M8.out.1 HOP.out).mono ?_; rintro e w9 ⟨v9, rfl, ho⟩
    have ho := hide ho
    clear x0 x1 x2 x3 x4 x5 x6 x7
    have M9 := hide M8.out.mid
    have ho : Hid (InsVal W8.heap.size (o.1, id, N, o.2, ar, tt, nm, pp) v9 w9 ∧ RR a L E n lf w9 ∧ Kr a W8 w9) := ho
    obtain ⟨aoA, mA, cA, aoT, mT, cT, rfl, hS, hfin⟩ := fin_of M9.out ho.out
    obtain ⟨s0, s1, s2, s3, s4, s5, s6, s7, f0, f1, f2, f3, f4, f5, f6, f7⟩ := res8 hS
    have FF := hide (hfin _ (((((((((Far.refl g w9).set 0 (.int .i64 o.1)).set 1 (.int .i64 id)).set 2 (.int .i64 N)).set 3 (.int .i64 o.2)).set 4 (.slice aoA mA cA)).set 5 (.slice aoT mT cT)).set 6 (.string (bs nm))).set 7 (.int .i64 pp)))
    clear hfin hS ho
    simp only [insCells] at *
    go_wp2_with fail
    exact bodyPost_ret (v := .agg (insCells (o.1, id, N, o.2, ar, tt, nm, pp) (.slice aoA mA cA) (.slice aoT mT cT)).toArray) (by simp [results, Try.results66, go_sem, insCells, s0, s1, s2, s3, s4, s5, s6, s7]) rfl ⟨_, rfl, ⟨_, _, rfl, FF.out.1, FF.out.2.1⟩, FF.out.2.2.1, FF.out.2.2.2⟩
  · have hne : ((bs (peek1 l)).toList == [61]) = false := HN.out.trans (decide_eq_false h61)
    obtain ⟨rfl, rfl⟩ : id = -1 ∧ r = l := by have := HID.out; unfold G.ident at this; rw [if_neg h61] at this; cases this; exact ⟨rfl, rfl⟩
    obtain rfl : bb = false := by rw [← hb2]; decide
    have M2 := M1b
    clear M1b h61 HN HID
    have hsz : Hid True := hide trivial
    go_wp2_with fail
    clear hne
    refine (rpeek0 _ M2.out.1 rfl).mono ?_; rintro e w3 ⟨rfl, b3⟩
    have M3 := hide (M2.out.below b3)
    clear M2 b3
    go_wp2_with fail
    refine (L5.refFind_any (bs (peek0 r)) _).mono ?_; rintro e w4 ⟨rfl, b4⟩
    rw [show L5.find (bs (peek0 r)) = o from HO.out.1.symm]
    have M4 := hide (M3.out.below b4)
    clear M3 b4
    obtain ⟨x0, _, _, x3, _, _, _, _, xz, _⟩ := eight_of M4.out.2.1
    have z0 := xz 0
    clear xz
    go_upto_region 9 with fail
    show Code.wp _ _ _ _ (w4.setCell ⟨c, 0, none⟩ (.int .i64 o.1))
    have M5 := hide (M4.out.setOp o.1)
    clear M4 x0 x3 z0
    generalize w4.setCell ⟨c, 0, none⟩ (.int .i64 o.1) = W5 at *
    obtain ⟨x0, _, _, x3, _, _, _, _, xz, _⟩ := eight_of M5.out.2.1
    have z3 := xz 3
    clear xz
    go_upto_region 10 with fail
    show Code.wp _ _ _ _ (W5.setCell ⟨c, 3, none⟩ (.int .i64 o.2))
    have M6 := hide (M5.out.setTy o.2)
    clear M5 x0 x3 z3
    generalize W5.setCell ⟨c, 3, none⟩ (.int .i64 o.2) = W6 at *
    have BX : Hid (L5.Box W6 c [.int .i64 o.1, .int .i64 (-1), .int .i64 0, .int .i64 o.2, .slice none 0 0, .slice none 0 0, .string (bs []), .int .i64 pp]) := hide ⟨(eight_of M6.out.2.1).2.2.2.2.2.2.2.2.2, fun i v hv => by have := M6.out.2.1; simp only [World.cell?, this]; simpa using hv⟩
    have x0 := fun x => (L5.grew_box BX.out x).2 0 _ rfl
    have x1 := fun x => (L5.grew_box BX.out x).2 1 _ rfl
    have x2 := fun x => (L5.grew_box BX.out x).2 2 _ rfl
    have x3 := fun x => (L5.grew_box BX.out x).2 3 _ rfl
    have x4 := fun x => (L5.grew_box BX.out x).2 4 _ rfl
    have x5 := fun x => (L5.grew_box BX.out x).2 5 _ rfl
    have x6 := fun x => (L5.grew_box BX.out x).2 6 _ rfl
    have x7 := fun x => (L5.grew_box BX.out x).2 7 _ rfl
    go_wp2_with fail
    refine L5.region_grew (by kernel_rfl) (by kernel_rfl) ?_
    repeat (go_big_quiet_step ((first
      | (go_at_call 69; exact L5.calls_grew (L5.refMakes_any o.1 o.2 _ _ _ _ _ _ _)))))
    refine wpQuiet_nil ?_
    rintro _ ⟨x, rfl⟩
    have M7 := hide (M6.out.below (L5.grewTo_below _ x))
    clear M6 BX x0 x1 x2 x3 x4 x5 x6 x7
    generalize hW7 : L5.grewTo W6 x = W7 at *
    clear hW7
    obtain ⟨c1, z1, c4, hq9⟩ := M7.out.1.at1
    have M8 := hide (M7.out.ate (ate_of M7.out.1 (Below.refl _ _) HO.out.2.1))
    clear c4 M7
    generalize L.length - r.length = q9 at *
    go_upto_region 17 with fail
    show Code.wp _ _ _ _ (W7.setCell ⟨a, 1, none⟩ (.int .i64 ((q9 : Int) + 1)))
    clear c1 z1
    generalize W7.setCell ⟨a, 1, none⟩ (.int .i64 ((q9 : Int) + 1)) = W8 at *
    obtain ⟨x0, x1, x2, x3, x4, x5, x6, x7, xz, _⟩ := eight_of M8.out.2.1
    clear xz
    go_wp2_with fail
    refine (roperands o.1 (-1) o.2 pp _ M8.out.1 HOP.out).mono ?_; rintro e w9 ⟨v9, rfl, ho⟩
    have ho := hide ho
    clear x0 x1 x2 x3 x4 x5 x6 x7
    have M9 := hide M8.out.mid
    have ho : Hid (InsVal W8.heap.size (o.1, -1, N, o.2, ar, tt, nm, pp) v9 w9 ∧ RR a L E n lf w9 ∧ Kr a W8 w9) := ho
    obtain ⟨aoA, mA, cA, aoT, mT, cT, rfl, hS, hfin⟩ := fin_of M9.out ho.out
    obtain ⟨s0, s1, s2, s3, s4, s5, s6, s7, f0, f1, f2, f3, f4, f5, f6, f7⟩ := res8 hS
    have FF := hide (hfin _ (((((((((Far.refl g w9).set 0 (.int .i64 o.1)).set 1 (.int .i64 (-1))).set 2 (.int .i64 N)).set 3 (.int .i64 o.2)).set 4 (.slice aoA mA cA)).set 5 (.slice aoT mT cT)).set 6 (.string (bs nm))).set 7 (.int .i64 pp)))
    clear hfin hS ho
    simp only [insCells] at *
    go_wp2_with fail
    exact bodyPost_ret (v := .agg (insCells (o.1, -1, N, o.2, ar, tt, nm, pp) (.slice aoA mA cA) (.slice aoT mT cT)).toArray) (by simp [results, Try.results66, go_sem, insCells, s0, s1, s2, s3, s4, s5, s6, s7]) rfl ⟨_, rfl, ⟨_, _, rfl, FF.out.1, FF.out.2.1⟩, FF.out.2.2.1, FF.out.2.2.2⟩
end Go.Proofs.Ytnlcpfijfjbgjaa
