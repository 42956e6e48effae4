/- Layer 6, the reference's reader, where nothing is wrong: operands of a fixed row of kinds. -/
import Derived.Test.YtahhbckccdigoaaGreatDoorMwAA
import Derived.Test.YtahhbckccdigoaaGreatDoorMwAD
import Derived.Test.YtahhbckccdigoaaGreatDoorMwAE
import Derived.Test.YtahhbckccdigoaaGreatDoorMwAH
import Derived.Test.YtahhbckccdigoaaGreatDoorMwAI
import Derived.Laws.AppendOwnNone
import Derived.Deep.RegionHeld3
import Derived.Deep.AppendLies
namespace Go.Proofs.YtahhbckccdigoaaGreatDoor
open Go Go.RowKit
open G (Tok Er Ins Fun peek0 peek1 atOf)
/-- What is read letter by letter. -/
def restG (E : Int) : List UInt8 → Ins → List Tok → Except Er (Ins × List Tok)
  | [], x, l => .ok (x, l)
  | c :: r, x, l =>
    if c = 118 then G.andThen (G.value idxF E l) fun v l' => restG E r (addArg x v) l'
    else if c = 115 then G.andThen (G.number numF E 0 15 l) fun v l' => restG E r (setN x v) l'
    else if c = 110 then G.andThen (G.number numF E 0 1048576 l) fun v l' => restG E r (setN x v) l'
    else G.andThen (G.label idxF E l) fun v l' => restG E r (addTo x v) l'
theorem drop_at {s : List UInt8} {k : Nat} (h : k < s.length) : ∃ c, s[k]? = some c ∧ s.drop k = c :: s.drop (k + 1) := ⟨s[k], List.getElem?_eq_getElem h, List.drop_eq_getElem_cons h⟩
theorem bs_at {s : List UInt8} {k : Nat} {c : UInt8} (h : s[k]? = some c) : ∃ hk : k < (bs s).size, (bs s)[k] = c := by
  obtain ⟨h1, h2⟩ := List.getElem?_eq_some_iff.1 h
  exact ⟨by rw [bs_size]; exact h1, h2⟩
set_option maxHeartbeats 4000000 in
set_option maxRecDepth 20000 in
theorem rrest (s : List UInt8) (op id nn ty : Int) (nm : List UInt8) (p : Int) {a : Nat} {L : List Tok} {E : Int} {n : Nat} {l lf : List Tok} {y : Ins} (w : World) (h : RR a L E n l w) (hs : ∀ c ∈ s, c = 118 ∨ c = 115 ∨ c = 110 ∨ c = 108) (hsl : s.length ≤ 100) (hr : restG E s (op, id, nn, ty, [], [], nm, p) l = .ok (y, lf)) :
    Calls Tryz.prog 131 #[.pointer (some ⟨a, 0, none⟩), .agg (bare8 op id nn ty (bs nm) p), .string (bs s)] w (ROut a L E n y lf w) := by
  obtain ⟨i0, hi0, hz0, hz1, hz2⟩ := info_parts Tryz.info3
  have M0 : Hid (MidR w a (w.heap.size + 1 + 1) (w.heap.size + 1) L E n (op, id, nn, ty, [], [], nm, p) l (((w.alloc (.cells (bare8 op id nn ty (bs nm) p) 39)).alloc (.cells (bare8 0 0 0 0 ⟨#[]⟩ 0) 39)).alloc (.cells (bare8 op id nn ty (bs nm) p) 39))) := hide (MidR.start h op id nn ty nm p)
  have HR := hide hr
  have HS := hide hs
  have hz : (bs s).size ≤ 100 := by rw [bs_size]; exact hsl
  have HZ := hide (bs_size s)
  clear hr hs
  clear h
  generalize hg : w.heap.size + 1 = g at *
  generalize hc : g + 1 = c at *
  go_enter Tryz.func131, Tryz.ntmps131
  go_upto_region 2 with fail
  show Code.wp _ _ _ _ (((w.alloc (.cells (bare8 op id nn ty (bs nm) p) 39)).alloc (.cells (bare8 0 0 0 0 ⟨#[]⟩ 0) 39)).alloc (.cells (bare8 op id nn ty (bs nm) p) 39))
  generalize ((w.alloc (.cells (bare8 op id nn ty (bs nm) p) 39)).alloc (.cells (bare8 0 0 0 0 ⟨#[]⟩ 0) 39)).alloc (.cells (bare8 op id nn ty (bs nm) p) 39) = W0 at *
  clear hg hc
  go_wp2_with fail
  go_loopw [8] (fun i wr => ∃ (k : Nat) (x' : Ins) (l' : List Tok), i = .int .i64 k ∧ k ≤ s.length ∧ x'.2.2.2.2.1.length ≤ k ∧ x'.2.2.2.2.2.1.length ≤ k ∧ Hid (MidR w a c g L E n x' l' wr) ∧ Hid (restG E (s.drop k) x' l' = .ok (y, lf))) (fun i _ => s.length - (intOf i).toNat)
  case atStart => exact ⟨0, _, l, rfl, Nat.zero_le _, Nat.le_refl _, Nat.le_refl _, M0, HR⟩
  case round =>
    obtain ⟨k, x', l', rfl, hk, hA, hT, M, HR'⟩ := hrel
    by_cases hlt : k < s.length
    · obtain ⟨d, hd, hdr⟩ := drop_at hlt
      obtain ⟨hkz, hb⟩ := bs_at hd
      have HD := HS.out d (List.mem_of_getElem? hd)
      have hRR : Hid (restG E (d :: s.drop (k + 1)) x' l' = .ok (y, lf)) := hide (by rw [← hdr]; exact HR'.out)
      have hkz' : (k : Int) < ((bs s).size : Int) := by omega
      clear hd hdr HR'
      rcases HD with rfl | rfl | rfl | rfl
      · obtain ⟨v, l2, hv, hr2⟩ := then_inv (show G.andThen (G.value idxF E l') (fun v l'' => restG E (s.drop (k + 1)) (addArg x' v) l'') = .ok (y, lf) from hRR.out)
        have hb1 : ((bs s)[k].toNat : Int) = 118 := by rw [hb]; rfl
        have HV := hide hv
        have HR2 := hide hr2
        clear hb hv hr2 hRR
        go_wp2_with fail
        refine (rvalue _ M.out.1 HV.out).mono ?_; rintro e w1 ⟨rfl, a1⟩
        have M1 := hide (M.out.ate a1)
        clear M a1
        obtain ⟨va, vt, HC, HZ4, o1, o2, o3⟩ := M1.out.2.1.cells
        have hcl5 := M1.out.lt
        have cA := HC 4 _ rfl
        have zA := HZ4 4
        have hne : va.ownBlock ≠ some c := (o3 c (by obtain ⟨ua, ut, q1, _⟩ := M1.out.2.1; exact ⟨_, _, q1⟩)).1
        obtain ⟨ao5, cp5, rfl⟩ := own_len o1
        have O5 := hide o1
        obtain ⟨cB, zB⟩ := Cel.below (below_box w1 (.cells #[.int .i64 v] 3)) hcl5.2.2.2.1 cA zA
        clear HC HZ4 o1 o2 o3
        have t25 : x'.2.2.2.2.1.length + 1 ≤ maxLen := by unfold maxLen; omega
        have t35 : (x'.2.2.2.2.1.length + 1) * 8 ≤ 140737488355328 := by omega
        have t45 : w.heap.size ≤ (w1.alloc (.cells #[.int .i64 v] 3)).heap.size := by simp; omega
        have t55 : c < (w1.alloc (.cells #[.int .i64 v] 3)).heap.size := by simp; omega
        go_wp2_with (at_builtin; refine wpList_append_lies _ rfl (.tmp 26) (.tmp 28) 31 rfl w.heap.size 3 i0 _ 1 8 Tryz.underlying31 hi0 hz0 hz1 hz2 rfl (by decide) _ _ _ rfl (O5.out.alloc _) ⟨w1.heap.size, 0, none⟩ 1 1 [.int .i64 v] rfl rfl one_cell one_one (by decide) t25 t35 t45 (w1.heap.size + 1) (by simp) ?_; intro gg5 cap5 w5 hown5 hgrow5 hat5 hlt5; obtain ⟨cC5, zC5⟩ := Cel.grown hgrow5 t55 hne cB zB)
        have M3 := hide ((M1.out.below (below_box w1 (.cells #[.int .i64 v] 3))).arg cB hown5 hgrow5 (hat5.imp (fun e => e) (fun e => e.trans (by simp))))
        go_roundw
        case rel => exact ⟨k + 1, _, l2, by go_num, by omega, by (show _ ≤ _ + 1; grind [addArg, addTo, setN]), by (show _ ≤ _ + 1; grind [addArg, addTo, setN]), M3, HR2⟩
        case measure => simp [intOf]; omega
      · obtain ⟨v, l2, hv, hr2⟩ := then_inv (show G.andThen (G.number numF E 0 15 l') (fun v l'' => restG E (s.drop (k + 1)) (setN x' v) l'') = .ok (y, lf) from hRR.out)
        have hb1 : ((bs s)[k].toNat : Int) = 115 := by rw [hb]; rfl
        obtain rfl : l2 = l'.tail := (number_ok hv).1
        have HV := hide hv
        have HR2 := hide hr2
        clear hb hv hr2 hRR
        go_wp2_with fail
        refine (rnumber 0 15 v _ M.out.1 (number_ok HV.out).2.1 (number_ok HV.out).2.2.1 (number_ok HV.out).2.2.2).mono ?_; rintro e w1 ⟨rfl, a1⟩
        have M1 := hide (M.out.ate a1)
        clear M a1
        obtain ⟨va, vt, HC, HZ4, o1, o2, o3⟩ := M1.out.2.1.cells
        have cA := HC 2 _ rfl
        have zA := HZ4 2
        have M3 := hide (M1.out.put (M1.out.2.1.setN v))
        clear HC HZ4 o1 o2 o3
        go_wp2_with fail
        go_roundw
        case rel => exact ⟨k + 1, _, l'.tail, by go_num, by omega, by (show _ ≤ _ + 1; grind [addArg, addTo, setN]), by (show _ ≤ _ + 1; grind [addArg, addTo, setN]), M3, HR2⟩
        case measure => simp [intOf]; omega
      · obtain ⟨v, l2, hv, hr2⟩ := then_inv (show G.andThen (G.number numF E 0 1048576 l') (fun v l'' => restG E (s.drop (k + 1)) (setN x' v) l'') = .ok (y, lf) from hRR.out)
        have hb1 : ((bs s)[k].toNat : Int) = 110 := by rw [hb]; rfl
        obtain rfl : l2 = l'.tail := (number_ok hv).1
        have HV := hide hv
        have HR2 := hide hr2
        clear hb hv hr2 hRR
        go_wp2_with fail
        refine (rnumber 0 1048576 v _ M.out.1 (number_ok HV.out).2.1 (number_ok HV.out).2.2.1 (number_ok HV.out).2.2.2).mono ?_; rintro e w1 ⟨rfl, a1⟩
        have M1 := hide (M.out.ate a1)
        clear M a1
        obtain ⟨va, vt, HC, HZ4, o1, o2, o3⟩ := M1.out.2.1.cells
        have cA := HC 2 _ rfl
        have zA := HZ4 2
        have M3 := hide (M1.out.put (M1.out.2.1.setN v))
        clear HC HZ4 o1 o2 o3
        go_wp2_with fail
        go_roundw
        case rel => exact ⟨k + 1, _, l'.tail, by go_num, by omega, by (show _ ≤ _ + 1; grind [addArg, addTo, setN]), by (show _ ≤ _ + 1; grind [addArg, addTo, setN]), M3, HR2⟩
        case measure => simp [intOf]; omega
      · obtain ⟨v, l2, hv, hr2⟩ := then_inv (show G.andThen (G.label idxF E l') (fun v l'' => restG E (s.drop (k + 1)) (addTo x' v) l'') = .ok (y, lf) from hRR.out)
        have hb1 : ((bs s)[k].toNat : Int) = 108 := by rw [hb]; rfl
        have HV := hide hv
        have HR2 := hide hr2
        clear hb hv hr2 hRR
        go_wp2_with fail
        refine (rlabel _ M.out.1 HV.out).mono ?_; rintro e w1 ⟨rfl, a1⟩
        have M1 := hide (M.out.ate a1)
        clear M a1
        obtain ⟨va, vt, HC, HZ4, o1, o2, o3⟩ := M1.out.2.1.cells
        have hcl5 := M1.out.lt
        have cA := HC 5 _ rfl
        have zA := HZ4 5
        have hne : vt.ownBlock ≠ some c := (o3 c (by obtain ⟨ua, ut, q1, _⟩ := M1.out.2.1; exact ⟨_, _, q1⟩)).2
        obtain ⟨ao5, cp5, rfl⟩ := own_len o2
        have O5 := hide o2
        obtain ⟨cB, zB⟩ := Cel.below (below_box w1 (.cells #[.int .i64 v] 3)) hcl5.2.2.2.1 cA zA
        clear HC HZ4 o1 o2 o3
        have t25 : x'.2.2.2.2.2.1.length + 1 ≤ maxLen := by unfold maxLen; omega
        have t35 : (x'.2.2.2.2.2.1.length + 1) * 8 ≤ 140737488355328 := by omega
        have t45 : w.heap.size ≤ (w1.alloc (.cells #[.int .i64 v] 3)).heap.size := by simp; omega
        have t55 : c < (w1.alloc (.cells #[.int .i64 v] 3)).heap.size := by simp; omega
        go_wp2_with (at_builtin; refine wpList_append_lies _ rfl (.tmp 46) (.tmp 48) 31 rfl w.heap.size 3 i0 _ 1 8 Tryz.underlying31 hi0 hz0 hz1 hz2 rfl (by decide) _ _ _ rfl (O5.out.alloc _) ⟨w1.heap.size, 0, none⟩ 1 1 [.int .i64 v] rfl rfl one_cell one_one (by decide) t25 t35 t45 (w1.heap.size + 1) (by simp) ?_; intro gg5 cap5 w5 hown5 hgrow5 hat5 hlt5; obtain ⟨cC5, zC5⟩ := Cel.grown hgrow5 t55 hne cB zB)
        have M3 := hide ((M1.out.below (below_box w1 (.cells #[.int .i64 v] 3))).to cB hown5 hgrow5 (hat5.imp (fun e => e) (fun e => e.trans (by simp))))
        go_roundw
        case rel => exact ⟨k + 1, _, l2, by go_num, by omega, by (show _ ≤ _ + 1; grind [addArg, addTo, setN]), by (show _ ≤ _ + 1; grind [addArg, addTo, setN]), M3, HR2⟩
        case measure => simp [intOf]; omega
    · have hk2 : k = s.length := by omega
      have HE : Hid (restG E [] x' l' = .ok (y, lf)) := hide (by have := HR'.out; rwa [hk2, List.drop_length] at this)
      obtain ⟨rfl, rfl⟩ : x' = y ∧ l' = lf := by have := HE.out; cases this; exact ⟨rfl, rfl⟩
      have hkz' : ¬ (k : Int) < ((bs s).size : Int) := by have := HZ.out; omega
      have hkz2 : decide ((k : Int) < ((bs s).size : Int)) = false := by simpa using hkz'
      obtain ⟨va', vt', HC, HZ4, o1, o2, o3⟩ := M.out.2.1.cells
      obtain ⟨aoA, mA, cA, rfl⟩ := own_slice o1
      obtain ⟨aoT, mT, cT, rfl⟩ := own_slice o2
      have y0 := HC 0 _ rfl
      have y1 := HC 1 _ rfl
      have y2 := HC 2 _ rfl
      have y3 := HC 3 _ rfl
      have y4 := HC 4 _ rfl
      have y5 := HC 5 _ rfl
      have y6 := HC 6 _ rfl
      have y7 := HC 7 _ rfl
      have hS := M.out.2.2.1
      obtain ⟨o3a, o3b⟩ := o3 g ⟨_, _, hS⟩
      have hS := hide hS
      have o1 := hide o1
      have o2 := hide o2
      clear HC HZ4 o3
      obtain ⟨s0, s1, s2, s3, s4, s5, s6, s7, f0, f1, f2, f3, f4, f5, f6, f7⟩ := res8 hS.out
      have hcn : c ≠ g := fun e => M.out.2.2.2.2.2.2 e.symm
      have FF := hide (((((((((Far.refl g wr).set 0 (.int .i64 x'.1)).set 1 (.int .i64 x'.2.1)).set 2 (.int .i64 x'.2.2.1)).set 3 (.int .i64 x'.2.2.2.1)).set 4 (.slice aoA mA cA)).set 5 (.slice aoT mT cT)).set 6 (.string (bs x'.2.2.2.2.2.2.1))).set 7 (.int .i64 x'.2.2.2.2.2.2.2))
      have KK := hide (FF.out.kr M.out.2.2.2.1 M.out.2.2.2.2.2.1)
      have QQ := hide (FF.out.rr M.out.1 hS.out (by decide) (by have := M.out.lt; omega))
      have OO := hide (⟨FF.out.own o1.out o3a, FF.out.own o2.out o3b⟩ : _ ∧ _)
      go_wp2_with fail
      exact bodyPost_ret (v := .agg (insCells x' (.slice aoA mA cA) (.slice aoT mT cT)).toArray) (by simp [results, Tryz.results131, go_sem, insCells, s0, s1, s2, s3, s4, s5, s6, s7]) rfl ⟨_, rfl, ⟨_, _, rfl, OO.out.1, OO.out.2⟩, QQ.out, KK.out⟩
end Go.Proofs.YtahhbckccdigoaaGreatDoor
namespace Go.Proofs.YtahhbckccdigoaaGreatDoor
open Go Go.RowKit
theorem Tryz.info9 : (Tryz.prog.info? 9).map (fun i => (i.zero, i.size, i.bytes)) = some (some (.string ⟨#[]⟩), 1, 16) := by kernel_rfl
theorem endP {P : Program} {fn : Func} {R : Ending → World → Prop} {t : Array Value} {d : List Deferred} {w : World} (hr : fn.results = #[]) (hd : d = []) (hR : R (.returned (.tuple #[])) w) : bodyPost P fn R .normal { tmps := t, defers := d } w :=
  bodyPost_end (results_none hr _ _ _) hd hR
/-- Texts as cells. -/
abbrev strs (l : List (List UInt8)) : List Value := l.map fun s => Value.string (bs s)
theorem strs_one (l : List (List UInt8)) : ∀ u ∈ strs l, u.oneCell' = true := by
  intro u hu
  simp only [strs, List.mem_map] at hu
  obtain ⟨s, _, rfl⟩ := hu
  rfl
/-- All blocks below B, and all that are neither lists of texts nor boxes of such, are as they were. -/
def Kb (B : Nat) (w w' : World) : Prop := Below B w w' ∧ ∀ (k : Nat) (cs : Array Value) (t : TypeId) (fz : Nat × Nat), w.heap[k]? = some (.cells cs t fz) → t ≠ 9 → t ≠ 83 → w'.heap[k]? = some (.cells cs t fz)
theorem Kb.refl (B : Nat) (w : World) : Kb B w w := ⟨Below.refl _ _, fun _ _ _ _ h _ _ => h⟩
theorem Kb.trans {B : Nat} {u v w : World} (h : Kb B u v) (k : Kb B v w) : Kb B u w := ⟨h.1.trans k.1, fun i cs t fz e h9 h83 => k.2 i cs t fz (h.2 i cs t fz e h9 h83) h9 h83⟩
theorem Kb.size {B : Nat} {u v : World} (h : Kb B u v) : u.heap.size ≤ v.heap.size := h.1.size
theorem Kb.of_below {B : Nat} {u v : World} (h : Below u.heap.size u v) (hB : B ≤ u.heap.size) : Kb B u v :=
  ⟨h.mono hB, fun k _ _ _ e _ _ => (h.block k (Array.getElem?_eq_some_iff.1 e).1).trans e⟩
theorem Kb.step {B : Nat} {u v w : World} (h : Kb B u v) (k : Below v.heap.size v w) (hB : B ≤ v.heap.size) : Kb B u w := h.trans (Kb.of_below k hB)
theorem Kb.setCell {B : Nat} {u w : World} (h : Kb B u w) {p : Addr} (hp : B ≤ p.block) {cs : Array Value} {t : TypeId} {fz : Nat × Nat} (hc : w.heap[p.block]? = some (.cells cs t fz)) (ht : t = 9 ∨ t = 83) (x : Value) : Kb B u (w.setCell p x) := by
  refine ⟨h.1.setCell hp x, fun k c2 t2 fz2 e h9 h83 => ?_⟩
  have e2 := h.2 k c2 t2 fz2 e h9 h83
  rw [Below.heap_setCell w p x k ?_]
  · exact e2
  · intro hk
    rw [hk, hc] at e2
    simp at e2
    obtain ⟨_, rfl, _⟩ := e2
    rcases ht with rfl | rfl
    · exact h9 rfl
    · exact h83 rfl
theorem Kb.grown {B : Nat} {u w w' : World} {v : Value} {b s n : Nat} {xs : List Value} (h : Kb B u w) (ho : w.ownsRow b 9 s v n xs) (hg : w.grownBy w' v.ownBlock) (hb : B ≤ b) (hB : B ≤ w.heap.size) : Kb B u w' := by
  refine ⟨h.1.grown hg hB fun k hk => Nat.le_trans hb (ho.lt k hk).1, fun k cs t fz e h9 h83 => ?_⟩
  have e2 := h.2 k cs t fz e h9 h83
  exact (hg.block k (Array.getElem?_eq_some_iff.1 e2).1 (fun e3 => own_ne ho e2 h9 e3.symm)).trans e2
/-- The words that are kept in box b, in lists from block B on. -/
def Pen (B b : Nat) (ws : List (List UInt8)) (w : World) : Prop := B ≤ b ∧ ∃ v, w.heap[b]? = some (.cells #[v] 83 (0, 0)) ∧ w.ownsRow B 9 1 v ws.length (strs ws)
theorem ownS_below {w w' : World} {B : Nat} {v : Value} {n : Nat} {xs : List Value} (k : Below w.heap.size w w') (h : w.ownsRow B 9 1 v n xs) : w'.ownsRow B 9 1 v n xs := by
  refine ⟨h.1, ?_⟩
  rcases h.2 with hn | ⟨g, cap, cur, hv2, hbb, hg, rest⟩
  · exact .inl hn
  · exact .inr ⟨g, cap, cur, hv2, hbb, (k.block g (Array.getElem?_eq_some_iff.1 hg).1).trans hg, rest⟩
theorem Pen.below {B b : Nat} {ws : List (List UInt8)} {w w' : World} (h : Pen B b ws w) (k : Below w.heap.size w w') : Pen B b ws w' := by
  obtain ⟨hb, v, h1, h2⟩ := h
  exact ⟨hb, v, (k.block b (Array.getElem?_eq_some_iff.1 h1).1).trans h1, ownS_below k h2⟩
theorem own_setCell' {w : World} {b e s n : Nat} {v : Value} {xs : List Value} (h : w.ownsRow b e s v n xs) {p : Addr} (hp : v.ownBlock ≠ some p.block) (u : Value) : (w.setCell p u).ownsRow b e s v n xs := by
  refine ⟨h.1, ?_⟩
  rcases h.2 with hn | ⟨g, cap, cur, hv2, hbb, hg, rest⟩
  · exact .inl hn
  · refine .inr ⟨g, cap, cur, hv2, hbb, ?_, rest⟩
    rw [Below.heap_setCell _ _ _ _ (fun e => hp (by rw [hv2, ← e]; rfl))]
    exact hg
theorem ownS_len {w : World} {b e s n : Nat} {v : Value} {xs : List Value} (h : w.ownsRow b e s v n xs) : ∃ ao cap, v = .slice ao n cap := by
  rcases h.2 with ⟨rfl, rfl⟩ | ⟨g, cap, cur, rfl, _⟩
  · exact ⟨_, _, rfl⟩
  · exact ⟨_, _, rfl⟩
/-- A list of texts that is read. -/
def SlS (w : World) (v : Value) (us : List (List UInt8)) : Prop := (v = .slice none 0 0 ∧ us = []) ∨ ∃ a c, v = .slice (some a) us.length c ∧ ∀ j u, (strs us)[j]? = some u → w.cell? (a.add j) = some u
theorem SlS.of_own {w : World} {B : Nat} {v : Value} {us : List (List UInt8)} (h : w.ownsRow B 9 1 v us.length (strs us)) : SlS w v us := by
  rcases h.2 with ⟨hv, hn⟩ | ⟨g, cap, cur, hv2, hbb, hg, rest⟩
  · exact .inl ⟨hv, List.length_eq_zero_iff.1 hn⟩
  · refine .inr ⟨_, _, hv2, fun j u hj => ?_⟩
    exact h.cells (g := g) (by rw [hv2]; rfl) j u hj
set_option maxHeartbeats 1000000 in
set_option maxRecDepth 20000 in
theorem put_any (B b : Nat) (ws us : List (List UInt8)) (v : Value) (w : World) (h : Pen B b ws w) (hs : SlS w v us) (hl : ws.length + us.length ≤ 1000000) (hB : B ≤ w.heap.size) :
    Calls Tryz.prog 60 #[v, .pointer (some ⟨b, 0, none⟩)] w fun e w' => e = .returned (.tuple #[]) ∧ Pen B b (ws ++ us) w' ∧ Kb B w w' := by
  obtain ⟨i0, hi0, hz0, hz1, hz2⟩ := info_parts Tryz.info9
  obtain ⟨hb, v0, h1, h2⟩ := h
  obtain ⟨ao0, cap0, rfl⟩ := ownS_len h2
  have c0 : w.cell? ⟨b, 0, none⟩ = some (.slice ao0 ws.length cap0) := by simp [World.cell?, h1]
  have z0 : w.frozen? ⟨b, 0, none⟩ = false := by simp [World.frozen?, h1]
  have hbl : b < w.heap.size := (Array.getElem?_eq_some_iff.1 h1).1
  have hne : (Value.slice ao0 ws.length cap0).ownBlock ≠ some b := own_ne h2 h1 (by decide)
  have H1 := hide h1
  have H2 := hide h2
  clear h1 h2
  rcases hs with ⟨rfl, rfl⟩ | ⟨a, c, rfl, hc⟩
  · go_enter Tryz.func60, Tryz.ntmps60
    go_wp2_with (at_builtin; refine wpList_append_own_none rfl (.tmp 3) (.tmp 4) 83 rfl B 9 i0 1 Tryz.underlying83 hi0 _ _ _ rfl H2.out rfl ?_)
    refine endP rfl rfl ⟨rfl, ?_, ?_⟩
    · rw [List.append_nil]
      refine ⟨hb, _, ?_, own_setCell' H2.out hne _⟩
      rw [heap_setCell_same w b 0 _ 83 _ H1.out]
      rfl
    · exact (Kb.refl B w).setCell (p := ⟨b, 0, none⟩) hb H1.out (.inr rfl) _
  · have HC := hide hc
    clear hc
    go_enter Tryz.func60, Tryz.ntmps60
    go_wp2_with (at_builtin; refine wpList_append_own _ rfl (.tmp 3) (.tmp 4) 83 rfl B 9 i0 (.string ⟨#[]⟩) 1 16 Tryz.underlying83 hi0 hz0 hz1 hz2 rfl (by decide) _ _ _ rfl H2.out a us.length c (strs us) rfl (by simp) HC.out (strs_one us) (by unfold maxLen; omega) (by omega) hB ?_; intro v2 w2 own2 grow2 _; obtain ⟨ao2, cap2, rfl⟩ := ownS_len own2; have c2 := (grow2.cell_far ⟨b, 0, none⟩ hbl (Ne.symm hne)).trans c0; have z2 := (grow2.frozen_far ⟨b, 0, none⟩ hbl (Ne.symm hne)).trans z0; have g2 := hide (grow2.block b hbl (Ne.symm hne)); replace own2 := hide own2; replace grow2 := hide grow2)
    refine endP rfl rfl ⟨rfl, ?_, ?_⟩
    · have g3 := g2.out.trans H1.out
      refine ⟨hb, .slice ao2 (ws.length + us.length) cap2, ?_, ?_⟩
      · rw [heap_setCell_same w2 b 0 _ 83 _ g3]
        rfl
      · have := own_setCell' own2.out (p := ⟨b, 0, none⟩) (own_ne own2.out g3 (by decide)) (.slice ao2 (ws.length + us.length) cap2)
        simpa using this
    · exact ((Kb.refl B w).grown H2.out grow2.out (Nat.le_refl _) hB).setCell (p := ⟨b, 0, none⟩) hb (g2.out.trans H1.out) (.inr rfl) _
end Go.Proofs.YtahhbckccdigoaaGreatDoor
namespace Go.Proofs.YtahhbckccdigoaaGreatDoor
open Go Go.RowKit
/-- All tables read as they were laid. -/
def Tb (w : World) : Prop := L1.Tab w ∧ L3.Tab w ∧ L5.Tab w
theorem Tb.below {w w' : World} (h : Tb w) (k : Below w.heap.size w w') : Tb w' := ⟨h.1.below k, h.2.1.below k, h.2.2.below k⟩
/-- A list of numbers that is read, wherever it begins. -/
def Sl (w : World) (ao : Option Addr) (l : List Int) : Prop := l = [] ∨ ∃ b o, ao = some ⟨b, o, none⟩ ∧ b < w.heap.size ∧ ∀ i n, l[i]? = some n → w.cell? ⟨b, o + i, none⟩ = some (.int .i64 n)
theorem Sl.below {w w' : World} {ao : Option Addr} {l : List Int} (h : Sl w ao l) (hb : Below w.heap.size w w') : Sl w' ao l := by
  rcases h with h | ⟨b, o, e, hl, hc⟩
  · exact .inl h
  · exact .inr ⟨b, o, e, Nat.lt_of_lt_of_le hl hb.size, fun i n hi => (hb.cell (p := ⟨b, o + i, none⟩) hl).trans (hc i n hi)⟩
/-- A number's digits, with a sign ahead. -/
def dig (n : Int) : List UInt8 := Lib.itoa n
def valW (n : Int) : List UInt8 := 37 :: dig n
def labW (n : Int) : List UInt8 := 98 :: dig n
def I64 (n : Int) : Prop := -9223372036854775808 ≤ n ∧ n ≤ 9223372036854775807
theorem dig_len {n : Int} (h : I64 n) : (dig n).length ≤ 21 := by
  have h1 := L1.dec_len 19 n.natAbs (by have := h.1; have := h.2; omega)
  have h2 := L1.dec_len 19 n.toNat (by have := h.1; have := h.2; omega)
  unfold dig Lib.itoa
  split <;> simp <;> omega
theorem cat_bs (x y : List UInt8) : bs x ++ bs y = bs (x ++ y) := by
  apply ByteArray.ext
  simp [bs]
theorem print_w (n : Int) (w : World) (h : I64 n) (ht : L1.Tab w) : Calls Tryz.prog 67 #[.int .i64 n] w fun e w' => e = .returned (.string (bs (dig n))) ∧ Below w.heap.size w w' := L1.print_any n w h.1 h.2 ht
theorem small_w (n : Int) (w : World) (h : I64 n) (ht : L1.Tab w) : Calls Tryz.prog 64 #[.int .i64 n] w fun e w' => e = .returned (.string (bs (dig n))) ∧ Below w.heap.size w w' := L1.small_any n w h.1 h.2 ht
theorem value_w (n : Int) (w : World) (h : I64 n) (ht : L1.Tab w) : Calls Tryz.prog 32 #[.int .i64 n] w fun e w' => e = .returned (.string (bs (valW n))) ∧ Below w.heap.size w w' := by
  have hl := dig_len h
  rw [← bs_size] at hl
  have HE : Hid ((⟨#[37]⟩ : ByteArray) ++ bs (dig n) = bs (valW n)) := hide (cat_bs [37] (dig n))
  go_enter Tryz.func32, Tryz.ntmps32
  go_wp2_with fail
  refine (small_w n _ h ht).mono ?_; rintro e w1 ⟨rfl, b1⟩
  generalize bs (dig n) = s at *
  go_wp2_with fail
  go_ret
  exact ⟨L5.ret_str HE.out, b1⟩
theorem label_w (n : Int) (w : World) (h : I64 n) (ht : L1.Tab w) : Calls Tryz.prog 28 #[.int .i64 n] w fun e w' => e = .returned (.string (bs (labW n))) ∧ Below w.heap.size w w' := by
  have hl := dig_len h
  rw [← bs_size] at hl
  have HE : Hid ((⟨#[98]⟩ : ByteArray) ++ bs (dig n) = bs (labW n)) := hide (cat_bs [98] (dig n))
  go_enter Tryz.func28, Tryz.ntmps28
  go_wp2_with fail
  refine (small_w n _ h ht).mono ?_; rintro e w1 ⟨rfl, b1⟩
  generalize bs (dig n) = s at *
  go_wp2_with fail
  go_ret
  exact ⟨L5.ret_str HE.out, b1⟩
/-- Words that stand in new memory while they are gathered. -/
def Gath (w : World) (l : List (List UInt8)) (v : Value) (wr : World) : Prop := wr.ownsRow w.heap.size 9 1 v l.length (strs l) ∧ Below w.heap.size w wr
theorem Gath.step {w wr w1 w2 : World} {l : List (List UInt8)} {v v' : Value} {x : List UInt8} {o : Obj} (h : Gath w l v wr) (b1 : Below wr.heap.size wr w1) (own : w2.ownsRow w.heap.size 9 1 v' (l.length + 1) (strs l ++ [.string (bs x)])) (hg : (w1.alloc o).grownBy w2 v.ownBlock) : Gath w (l ++ [x]) v' w2 := by
  refine ⟨by simpa using own, ?_⟩
  have b2 := below_step h.2 b1
  refine Below.grown (b2.alloc b2.size o) hg (by simp; have := b2.size; omega) ?_
  intro k hk
  exact (h.1.lt k hk).1
theorem one_str {a : ByteArray} : ∀ u ∈ [Value.string a], u.oneCell' = true := by
  intro u hu
  simp only [List.mem_singleton] at hu
  subst hu; rfl
set_option maxHeartbeats 1000000 in
set_option maxRecDepth 20000 in
theorem each_any (k : Nat) (f : Int → List UInt8) (l : List Int) (ao : Option Addr) (c : Nat) (w : World) (ek : ∀ args w, (callFunc k args).run Tryz.prog w = .ok (.enter k args) w)
    (hf : ∀ n ∈ l, ∀ w1, Below w.heap.size w w1 → Calls Tryz.prog k #[.int .i64 n] w1 fun e w' => e = .returned (.string (bs (f n))) ∧ Below w1.heap.size w1 w') (hs : Sl w ao l) (hlen : l.length ≤ 100000) :
    Calls Tryz.prog 63 #[.func (Fn.func k) #[] #[], .slice ao l.length c] w fun e w' => ∃ v, e = .returned v ∧ Gath w (l.map f) v w' := by
  obtain ⟨i0, hi0, hz0, hz1, hz2⟩ := info_parts Tryz.info9
  have HS := hide hs
  have HF := hide hf
  clear hs hf
  go_enter Tryz.func63, Tryz.ntmps63
  go_wp2_with fail
  go_loopw [5, 10] (fun v i wr => ∃ j : Nat, i = .int .i64 j ∧ j ≤ l.length ∧ Hid (Gath w ((l.take j).map f) v wr)) (fun _ i _ => l.length - (intOf i).toNat)
  case atStart => exact ⟨0, rfl, Nat.zero_le _, hide ⟨World.ownsRow_nil _ _ _ _, Below.refl _ _⟩⟩
  case round =>
    obtain ⟨j, rfl, hj, hG⟩ := hrel
    by_cases hlt : j < l.length
    · obtain ⟨n, hn⟩ : ∃ n, l[j]? = some n := ⟨l[j], List.getElem?_eq_getElem hlt⟩
      have hB := hG.out.2
      rcases HS.out with he | ⟨b, o, rfl, hb, hc⟩
      · subst he; simp at hlt
      have hcell := (hB.cell (p := ⟨b, o + j, none⟩) hb).trans (hc j n hn)
      have hlt' : (j : Int) < l.length := by omega
      have hlen1 : ((l.take j).map f).length = j := by simp; omega
      have Hcall := hide (HF.out n (List.mem_of_getElem? hn) wr hB)
      have HT : Hid ((l.take (j + 1)).map f = (l.take j).map f ++ [f n]) := hide (by rw [List.take_add_one, hn]; simp)
      clear hc hB
      go_wp2_with fail
      refine Hcall.out.mono ?_; rintro e w1 ⟨rfl, b1⟩
      have B1 := hide b1
      clear b1
      go_wp2_with (at_builtin; refine wpList_append_own _ rfl (.tmp 14) (.tmp 18) 83 rfl w.heap.size 9 i0 _ 1 16 Tryz.underlying83 hi0 hz0 hz1 hz2 rfl (by decide) _ _ _ rfl ((ownS_below B1.out hG.out.1).alloc _) ⟨w1.heap.size, 0, none⟩ 1 1 [.string (bs (f n))] rfl rfl L5.one_cell one_str (by rw [hlen1]; unfold maxLen; omega) (by rw [hlen1]; omega) (by simp; have := hG.out.2.size; have := B1.out.size; omega) ?_; intro v2 w2 own2 grow2 _; replace own2 := hide own2; replace grow2 := hide grow2)
      go_roundw
      case rel => exact ⟨j + 1, by go_num, by omega, hide (by rw [HT.out]; exact hG.out.step B1.out own2.out grow2.out)⟩
      case measure => simp [intOf]; omega
    · obtain rfl : j = l.length := by omega
      have HT : Hid (l.take l.length = l) := hide (by simp)
      go_wp2_with fail
      go_ret
      exact ⟨_, rfl, by have := hG.out; rwa [HT.out] at this⟩
theorem pen_any (sep : ByteArray) (w : World) : Calls Tryz.prog 25 #[.string sep] w fun e w' => e = .returned (.tuple #[.func (Fn.func 60) #[] #[.pointer (some ⟨w.heap.size + 1, 0, none⟩)], .func (Fn.func 61) #[] #[.pointer (some ⟨w.heap.size + 1, 0, none⟩), .pointer (some ⟨w.heap.size, 0, none⟩)]]) ∧ w' = (w.alloc (.cells #[.string sep] 9)).alloc (.cells #[.slice none 0 0] 83) := by
  have hmf : ∀ (fn : Fn) (first cap : Array Value) (w : World), (Instr.makeFunc fn first cap).run Tryz.prog w = .ok (.func fn first cap) w := fun _ _ _ _ => rfl
  go_enter Tryz.func25, Tryz.ntmps25
  go_wp2_with fail
  go_ret2
  exact ⟨by simp, rfl⟩
end Go.Proofs.YtahhbckccdigoaaGreatDoor
namespace Go.Proofs.YtahhbckccdigoaaGreatDoor
open Go Go.RowKit
open G (Tok Er Ins Fun peek0 peek1 atOf)
/-- The kinds of an operation's operands. -/
def letG (op : Int) : List UInt8 :=
  if op = 11 then [118, 115] else if op = 12 then [118, 115] else if op = 15 then [118, 115] else if op = 13 then [118, 115, 118] else if op = 14 then [118, 115, 118]
  else if op = 23 then [110] else if op = 24 then [118, 110] else if op = 26 then [108] else if op = 27 then [118, 108, 108] else List.replicate (tksF op) 118
theorem tks_le (op : Int) : tksF op ≤ 2 := by
  unfold tksF L5.takes
  exact List.length_filter_le _ _
theorem v_more (k : Nat) : bs (List.replicate k 118) ++ ⟨#[118]⟩ = bs (List.replicate (k + 1) 118) := by
  rw [show (⟨#[118]⟩ : ByteArray) = bs [118] from rfl, cat_bs, List.replicate_succ']
set_option maxRecDepth 20000 in
theorem rletters_11 (w : World) : Calls Tryz.prog 132 #[.int .i64 11] w fun e w' => e = .returned (.string (bs (letG 11))) ∧ Below w.heap.size w w' := by
  go_enter Tryz.func132, Tryz.ntmps132
  go_wp2_with fail
  go_ret
  exact ⟨rfl, Below.refl _ _⟩
set_option maxRecDepth 20000 in
theorem rletters_12 (w : World) : Calls Tryz.prog 132 #[.int .i64 12] w fun e w' => e = .returned (.string (bs (letG 12))) ∧ Below w.heap.size w w' := by
  go_enter Tryz.func132, Tryz.ntmps132
  go_wp2_with fail
  go_ret
  exact ⟨rfl, Below.refl _ _⟩
set_option maxRecDepth 20000 in
theorem rletters_15 (w : World) : Calls Tryz.prog 132 #[.int .i64 15] w fun e w' => e = .returned (.string (bs (letG 15))) ∧ Below w.heap.size w w' := by
  go_enter Tryz.func132, Tryz.ntmps132
  go_wp2_with fail
  go_ret
  exact ⟨rfl, Below.refl _ _⟩
set_option maxRecDepth 20000 in
theorem rletters_13 (w : World) : Calls Tryz.prog 132 #[.int .i64 13] w fun e w' => e = .returned (.string (bs (letG 13))) ∧ Below w.heap.size w w' := by
  go_enter Tryz.func132, Tryz.ntmps132
  go_wp2_with fail
  go_ret
  exact ⟨rfl, Below.refl _ _⟩
set_option maxRecDepth 20000 in
theorem rletters_14 (w : World) : Calls Tryz.prog 132 #[.int .i64 14] w fun e w' => e = .returned (.string (bs (letG 14))) ∧ Below w.heap.size w w' := by
  go_enter Tryz.func132, Tryz.ntmps132
  go_wp2_with fail
  go_ret
  exact ⟨rfl, Below.refl _ _⟩
set_option maxRecDepth 20000 in
theorem rletters_23 (w : World) : Calls Tryz.prog 132 #[.int .i64 23] w fun e w' => e = .returned (.string (bs (letG 23))) ∧ Below w.heap.size w w' := by
  go_enter Tryz.func132, Tryz.ntmps132
  go_wp2_with fail
  go_ret
  exact ⟨rfl, Below.refl _ _⟩
set_option maxRecDepth 20000 in
theorem rletters_24 (w : World) : Calls Tryz.prog 132 #[.int .i64 24] w fun e w' => e = .returned (.string (bs (letG 24))) ∧ Below w.heap.size w w' := by
  go_enter Tryz.func132, Tryz.ntmps132
  go_wp2_with fail
  go_ret
  exact ⟨rfl, Below.refl _ _⟩
set_option maxRecDepth 20000 in
theorem rletters_26 (w : World) : Calls Tryz.prog 132 #[.int .i64 26] w fun e w' => e = .returned (.string (bs (letG 26))) ∧ Below w.heap.size w w' := by
  go_enter Tryz.func132, Tryz.ntmps132
  go_wp2_with fail
  go_ret
  exact ⟨rfl, Below.refl _ _⟩
set_option maxRecDepth 20000 in
theorem rletters_27 (w : World) : Calls Tryz.prog 132 #[.int .i64 27] w fun e w' => e = .returned (.string (bs (letG 27))) ∧ Below w.heap.size w w' := by
  go_enter Tryz.func132, Tryz.ntmps132
  go_wp2_with fail
  go_ret
  exact ⟨rfl, Below.refl _ _⟩
set_option maxRecDepth 20000 in
theorem rletters_else (op : Int) (w : World) (h11 : (op == 11) = false) (h12 : (op == 12) = false) (h15 : (op == 15) = false) (h13 : (op == 13) = false) (h14 : (op == 14) = false) (h23 : (op == 23) = false) (h24 : (op == 24) = false) (h26 : (op == 26) = false) (h27 : (op == 27) = false) : Calls Tryz.prog 132 #[.int .i64 op] w fun e w' => e = .returned (.string (bs (letG op))) ∧ Below w.heap.size w w' := by
  have HL : Hid (List.replicate (tksF op) 118 = letG op) := hide (by
    simp only [beq_eq_false_iff_ne, ne_eq] at *
    unfold letG
    rw [if_neg h11, if_neg h12, if_neg h15, if_neg h13, if_neg h14, if_neg h23, if_neg h24, if_neg h26, if_neg h27])
  have hm := tks_le op
  go_enter Tryz.func132, Tryz.ntmps132
  go_wp2_with fail
  clear h11 h12 h15 h13 h14 h23 h24 h26 h27
  go_loopw [3, 4] (fun sv i wr => ∃ k : Nat, k ≤ tksF op ∧ sv = .string (bs (List.replicate k 118)) ∧ i = .int .i64 k ∧ Hid (Below w.heap.size w wr)) (fun _ i _ => tksF op - (intOf i).toNat)
  case atStart => exact ⟨0, Nat.zero_le _, rfl, rfl, Below.refl _ _⟩
  case round =>
    obtain ⟨k, hk, rfl, rfl, HB⟩ := hrel
    go_wp2_with fail
    refine (L5.refTakes_any op _).mono ?_; rintro e w1 ⟨ao, cap, rfl, _, b1⟩
    have HB1 := hide (below_step HB.out b1)
    clear HB b1
    change k ≤ (L5.takes (L5.num op)).length at hk
    have hm' : (L5.takes (L5.num op)).length ≤ 2 := hm
    by_cases hlt : k < (L5.takes (L5.num op)).length
    · have hlt' : (k : Int) < ((L5.takes (L5.num op)).length : Int) := by omega
      have hz : (bs (List.replicate k 118)).size ≤ 2 := by rw [bs_size, List.length_replicate]; omega
      have hv := v_more k
      go_wp2_with fail
      go_roundw
      case rel => exact ⟨k + 1, by show k + 1 ≤ (L5.takes (L5.num op)).length; omega, by first | rfl | rw [← hv], by go_num, HB1⟩
      case measure => simp [intOf, tksF]; omega
    · have hk2 : Hid (k = tksF op) := hide (by show k = (L5.takes (L5.num op)).length; omega)
      have hlt' : ¬ (k : Int) < ((L5.takes (L5.num op)).length : Int) := by omega
      have HQ : Hid (bs (List.replicate k 118) = bs (letG op)) := hide (by rw [hk2.out, HL.out])
      have hlt2 : decide ((k : Int) < ((L5.takes (L5.num op)).length : Int)) = false := by simpa using hlt'
      go_wp2_with fail
      go_ret
      exact ⟨L5.ret_str HQ.out, HB1.out⟩
theorem rletters (op : Int) (w : World) : Calls Tryz.prog 132 #[.int .i64 op] w fun e w' => e = .returned (.string (bs (letG op))) ∧ Below w.heap.size w w' := by
  by_cases h11 : op = 11
  · subst h11; exact rletters_11 w
  by_cases h12 : op = 12
  · subst h12; exact rletters_12 w
  by_cases h15 : op = 15
  · subst h15; exact rletters_15 w
  by_cases h13 : op = 13
  · subst h13; exact rletters_13 w
  by_cases h14 : op = 14
  · subst h14; exact rletters_14 w
  by_cases h23 : op = 23
  · subst h23; exact rletters_23 w
  by_cases h24 : op = 24
  · subst h24; exact rletters_24 w
  by_cases h26 : op = 26
  · subst h26; exact rletters_26 w
  by_cases h27 : op = 27
  · subst h27; exact rletters_27 w
  exact rletters_else op w (by simpa using h11) (by simpa using h12) (by simpa using h15) (by simpa using h13) (by simpa using h14) (by simpa using h23) (by simpa using h24) (by simpa using h26) (by simpa using h27)
end Go.Proofs.YtahhbckccdigoaaGreatDoor
