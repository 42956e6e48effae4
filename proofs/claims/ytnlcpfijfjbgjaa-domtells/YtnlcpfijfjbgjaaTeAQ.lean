/- Layer 6, the reference's reader, where nothing is wrong: what stands in memory while an instruction's operands are read. Layer 6, the reference's reader, where nothing is wrong: pairs of a label and a value. -/
import Derived.Test.YtnlcpfijfjbgjaaTeAP
namespace Go.Proofs.Ytnlcpfijfjbgjaa
open Go Go.RowKit
open G (Tok Er Ins Fun peek0 peek1 atOf)
/-- The instruction stands at c, the place of the answer at g. -/
def MidR (w : World) (a c g : Nat) (L : List Tok) (E : Int) (n : Nat) (x : Ins) (l : List Tok) (wk : World) : Prop :=
  RR a L E n l wk ∧ InsAt w.heap.size c x wk ∧ wk.heap[g]? = some (.cells #[.int .i64 0, .int .i64 0, .int .i64 0, .int .i64 0, .slice none 0 0, .slice none 0 0, .string ⟨#[]⟩, .int .i64 0] 60 (0, 0)) ∧ Kr a w wk ∧ a < w.heap.size ∧ w.heap.size ≤ g ∧ g ≠ c
section
variable {w : World} {a c g : Nat} {L : List Tok} {E : Int} {n : Nat} {x : Ins} {l : List Tok} {wk : World}
theorem MidR.lt (h : MidR w a c g L E n x l wk) : a < w.heap.size ∧ w.heap.size ≤ g ∧ w.heap.size ≤ c ∧ c < wk.heap.size ∧ g < wk.heap.size ∧ g ≠ c ∧ w.heap.size ≤ wk.heap.size := by
  obtain ⟨h1, h2, h3, h4, h5, h6, h7⟩ := h
  exact ⟨h5, h6, h2.lt.2, h2.lt.1, (Array.getElem?_eq_some_iff.1 h3).1, h7, h4.size⟩
theorem MidR.below {wk' : World} (h : MidR w a c g L E n x l wk) (b : Below wk.heap.size wk wk') : MidR w a c g L E n x l wk' := by
  have hl := h.lt
  obtain ⟨h1, h2, h3, h4, h5, h6, h7⟩ := h
  exact ⟨h1.below b, h2.step b, (b.block g (by omega)).trans h3, h4.step b, h5, h6, h7⟩
theorem MidR.ate {l' : List Tok} {wk' : World} (h : MidR w a c g L E n x l wk) (b : Ate a L E n l' wk wk') : MidR w a c g L E n x l' wk' := by
  have hl := h.lt
  obtain ⟨h1, h2, h3, h4, h5, h6, h7⟩ := h
  exact ⟨b.1, h2.keep fun k k1 k2 => b.2.2.2.2.2 k k2 (by omega), (b.2.2.2.2.2 g (by omega) (by omega)).trans h3, h4.trans b.2, h5, h6, h7⟩
theorem RR.set {p : Nat} (h : RR a L E n l wk) {cs : Array Value} {t : TypeId} {fz : Nat × Nat} (hp : wk.heap[p]? = some (.cells cs t fz)) (ht : t ≠ 92) (hpa : p ≠ a) (i : Nat) (v : Value) : RR a L E n l (wk.setCell ⟨p, i, none⟩ v) := by
  obtain ⟨u, h1, h2, h3⟩ := h
  exact ⟨u, (Below.heap_setCell _ _ _ _ (fun e => hpa e.symm)).trans h1, own_setCell h2 (own_ne h2 hp ht) _, h3⟩
theorem RR.grown {w3 : World} {row : Value} {B m : Nat} {ys : List Value} {e' s' : Nat} (h : RR a L E n l wk) (hg : wk.grownBy w3 row.ownBlock) (hr : wk.ownsRow B e' s' row m ys) (he : 92 ≠ e') (hB : a < B) : RR a L E n l w3 := by
  have hlt := h.lt
  obtain ⟨u, h1, h2, h3⟩ := h
  exact ⟨u, (hg.block a hlt (fun e => by have := (hr.lt a e.symm).1; omega)).trans h1, own_other hg hr he _ _ _ h2, h3⟩
theorem Kr.grown {w3 : World} {row : Option Nat} (h : Kr a w wk) (hg : wk.grownBy w3 row) (hr : ∀ q, row = some q → w.heap.size ≤ q) : Kr a w w3 :=
  ⟨hg.os.trans h.1, hg.tape.trans h.2.1, hg.output.trans h.2.2.1, Nat.le_trans h.size hg.size, fun k k1 k2 => (hg.block k (Nat.lt_of_lt_of_le k1 h.size) (fun e => by have := hr k e.symm; omega)).trans (h.2.2.2.2 k k1 k2)⟩
theorem MidR.put {y : Ins} {i : Nat} {v : Value} (h : MidR w a c g L E n x l wk) (hy : InsAt w.heap.size c y (wk.setCell ⟨c, i, none⟩ v)) : MidR w a c g L E n y l (wk.setCell ⟨c, i, none⟩ v) := by
  have hl := h.lt
  obtain ⟨h1, h2, h3, h4, h5, h6, h7⟩ := h
  have hc : ∃ cs, wk.heap[c]? = some (.cells cs 60 (0, 0)) := by obtain ⟨va, vt, k1, _⟩ := h2; exact ⟨_, k1⟩
  obtain ⟨cs, hc⟩ := hc
  refine ⟨h1.set hc (by decide) (by omega) i v, hy, (Below.heap_setCell _ _ _ _ (fun e => h7 e)).trans h3, ?_, h5, h6, h7⟩
  have hb := (Below.refl 0 wk).setCell (p := ⟨c, i, none⟩) (Nat.zero_le c) v
  exact ⟨hb.os.trans h4.1, hb.tape.trans h4.2.1, hb.output.trans h4.2.2.1, Nat.le_trans h4.size hb.size, fun k k1 k2 => (Below.heap_setCell wk ⟨c, i, none⟩ v k (by show k ≠ c; omega)).trans (h4.2.2.2.2 k k1 k2)⟩
theorem MidR.grown {w3 : World} {row : Value} {m : Nat} {ys : List Value} (h : MidR w a c g L E n x l wk) (hg : wk.grownBy w3 row.ownBlock) (hr : wk.ownsRow w.heap.size 3 1 row m ys) : RR a L E n l w3 ∧ w3.heap[g]? = some (.cells #[.int .i64 0, .int .i64 0, .int .i64 0, .int .i64 0, .slice none 0 0, .slice none 0 0, .string ⟨#[]⟩, .int .i64 0] 60 (0, 0)) ∧ Kr a w w3 := by
  have hl := h.lt
  obtain ⟨h1, h2, h3, h4, h5, h6, h7⟩ := h
  exact ⟨h1.grown hg hr (by decide) h5, (hg.block g (by omega) (fun e => own_ne hr h3 (by decide) e.symm)).trans h3, h4.grown hg fun q hq => (hr.lt q hq).1⟩
theorem MidR.arg {gg cap : Nat} {k : Int} {va : Value} {w3 : World} (h : MidR w a c g L E n x l wk) (hc : wk.cell? ⟨c, 4, none⟩ = some va)
    (hown : w3.ownsRow w.heap.size 3 1 (.slice (some ⟨gg, 0, none⟩) (x.2.2.2.2.1.length + 1) cap) (x.2.2.2.2.1.length + 1) (ints x.2.2.2.2.1 ++ [.int .i64 k])) (hg : wk.grownBy w3 va.ownBlock) (hat : va.ownBlock = some gg ∨ gg = wk.heap.size) :
    MidR w a c g L E n (addArg x k) l (w3.setCell ⟨c, 4, none⟩ (.slice (some ⟨gg, 0, none⟩) (x.2.2.2.2.1.length + 1) cap)) := by
  have hl := h.lt
  have hi := h.2.1.arg hc hown hg hat
  obtain ⟨va', vt, k1, k2, k3, k4, k5⟩ := h.2.1
  have e : va' = va := by
    have : wk.cell? ⟨c, 4, none⟩ = some va' := by simp [World.cell?, k1, insCells]
    rw [hc] at this; exact (Option.some.inj this).symm
  subst e
  obtain ⟨r1, r2, r3⟩ := h.grown hg k2
  have k1' : w3.heap[c]? = some (.cells (insCells x va' vt).toArray 60 (0, 0)) := (hg.block c hl.2.2.2.1 (fun e => own_ne k2 k1 (by decide) e.symm)).trans k1
  refine ⟨r1.set k1' (by decide) (by omega) 4 _, hi, (Below.heap_setCell _ _ _ _ (fun e => h.2.2.2.2.2.2 e)).trans r2, ?_, h.2.2.2.2.1, h.2.2.2.2.2.1, h.2.2.2.2.2.2⟩
  have hb := (Below.refl 0 w3).setCell (p := ⟨c, 4, none⟩) (Nat.zero_le c) (.slice (some ⟨gg, 0, none⟩) (x.2.2.2.2.1.length + 1) cap)
  exact ⟨hb.os.trans r3.1, hb.tape.trans r3.2.1, hb.output.trans r3.2.2.1, Nat.le_trans r3.size hb.size, fun k k1 k2 => (Below.heap_setCell w3 ⟨c, 4, none⟩ _ k (by show k ≠ c; omega)).trans (r3.2.2.2.2 k k1 k2)⟩
theorem MidR.to {gg cap : Nat} {k : Int} {vt : Value} {w3 : World} (h : MidR w a c g L E n x l wk) (hc : wk.cell? ⟨c, 5, none⟩ = some vt)
    (hown : w3.ownsRow w.heap.size 3 1 (.slice (some ⟨gg, 0, none⟩) (x.2.2.2.2.2.1.length + 1) cap) (x.2.2.2.2.2.1.length + 1) (ints x.2.2.2.2.2.1 ++ [.int .i64 k])) (hg : wk.grownBy w3 vt.ownBlock) (hat : vt.ownBlock = some gg ∨ gg = wk.heap.size) :
    MidR w a c g L E n (addTo x k) l (w3.setCell ⟨c, 5, none⟩ (.slice (some ⟨gg, 0, none⟩) (x.2.2.2.2.2.1.length + 1) cap)) := by
  have hl := h.lt
  have hi := h.2.1.to hc hown hg hat
  obtain ⟨va, vt', k1, k2, k3, k4, k5⟩ := h.2.1
  have e : vt' = vt := by
    have : wk.cell? ⟨c, 5, none⟩ = some vt' := by simp [World.cell?, k1, insCells]
    rw [hc] at this; exact (Option.some.inj this).symm
  subst e
  obtain ⟨r1, r2, r3⟩ := h.grown hg k3
  have k1' : w3.heap[c]? = some (.cells (insCells x va vt').toArray 60 (0, 0)) := (hg.block c hl.2.2.2.1 (fun e => own_ne k3 k1 (by decide) e.symm)).trans k1
  refine ⟨r1.set k1' (by decide) (by omega) 5 _, hi, (Below.heap_setCell _ _ _ _ (fun e => h.2.2.2.2.2.2 e)).trans r2, ?_, h.2.2.2.2.1, h.2.2.2.2.2.1, h.2.2.2.2.2.2⟩
  have hb := (Below.refl 0 w3).setCell (p := ⟨c, 5, none⟩) (Nat.zero_le c) (.slice (some ⟨gg, 0, none⟩) (x.2.2.2.2.2.1.length + 1) cap)
  exact ⟨hb.os.trans r3.1, hb.tape.trans r3.2.1, hb.output.trans r3.2.2.1, Nat.le_trans r3.size hb.size, fun k k1 k2 => (Below.heap_setCell w3 ⟨c, 5, none⟩ _ k (by show k ≠ c; omega)).trans (r3.2.2.2.2 k k1 k2)⟩
end
/-- The cells of an instruction without lists. -/
abbrev bare8 (op id nn ty : Int) (nm : ByteArray) (p : Int) : Array Value := #[.int .i64 op, .int .i64 id, .int .i64 nn, .int .i64 ty, .slice none 0 0, .slice none 0 0, .string nm, .int .i64 p]
theorem MidR.start {w : World} {a : Nat} {L : List Tok} {E : Int} {n : Nat} {l : List Tok} (h : RR a L E n l w) (op id nn ty : Int) (nm : List UInt8) (p : Int) :
    MidR w a (w.heap.size + 2) (w.heap.size + 1) L E n (op, id, nn, ty, [], [], nm, p) l (((w.alloc (.cells (bare8 op id nn ty (bs nm) p) 60)).alloc (.cells (bare8 0 0 0 0 ⟨#[]⟩ 0) 60)).alloc (.cells (bare8 op id nn ty (bs nm) p) 60)) := by
  have b1 := below_box w (.cells (bare8 op id nn ty (bs nm) p) 60)
  have b2 := below_box (w.alloc (.cells (bare8 op id nn ty (bs nm) p) 60)) (.cells (bare8 0 0 0 0 ⟨#[]⟩ 0) 60)
  have b3 := below_box ((w.alloc (.cells (bare8 op id nn ty (bs nm) p) 60)).alloc (.cells (bare8 0 0 0 0 ⟨#[]⟩ 0) 60)) (.cells (bare8 op id nn ty (bs nm) p) 60)
  have s1 : (w.alloc (.cells (bare8 op id nn ty (bs nm) p) 60)).heap.size = w.heap.size + 1 := by simp
  have s2 : ((w.alloc (.cells (bare8 op id nn ty (bs nm) p) 60)).alloc (.cells (bare8 0 0 0 0 ⟨#[]⟩ 0) 60)).heap.size = w.heap.size + 2 := by simp
  refine ⟨((h.below b1).below b2).below b3, ⟨.slice none 0 0, .slice none 0 0, ?_, World.ownsRow_nil _ _ _ _, World.ownsRow_nil _ _ _ _, .inl rfl, by omega⟩, ?_, Kr.of_below (below_step (below_step b1 b2) b3), h.lt, by omega, by omega⟩
  · rw [← s2]; exact heap_alloc_new _ _
  · refine (b3.block (w.heap.size + 1) (by rw [s2]; omega)).trans ?_
    rw [← s1]; exact heap_alloc_new _ _
/-- What the reading of an instruction answers. -/
def ROut (a : Nat) (L : List Tok) (E : Int) (n : Nat) (y : Ins) (l' : List Tok) (w : World) (e : Ending) (w' : World) : Prop :=
  ∃ v, e = .returned v ∧ InsVal w.heap.size y v w' ∧ RR a L E n l' w' ∧ Kr a w w'
theorem then_inv {α β : Type} {X : Except Er (α × List Tok)} {f : α → G.Rd β} {p : β × List Tok} (h : G.andThen X f = .ok p) : ∃ v r, X = .ok (v, r) ∧ f v r = .ok p := by
  cases X with
  | error e => cases h
  | ok q => exact ⟨q.1, q.2, rfl, h⟩
theorem Far.kr {q a : Nat} {u w wk : World} (h : Far q wk w) (hk : Kr a u wk) (hq : u.heap.size ≤ q) : Kr a u w :=
  ⟨h.1.trans hk.1, h.2.1.trans hk.2.1, h.2.2.1.trans hk.2.2.1, by rw [h.2.2.2.1]; exact hk.size, fun k k1 k2 => (h.2.2.2.2 k (by omega)).trans (hk.2.2.2.2 k k1 k2)⟩
theorem Far.rr {q a : Nat} {L : List Tok} {E : Int} {n : Nat} {l : List Tok} {u w : World} (h : Far q u w) (hr : RR a L E n l u) {cs : Array Value} {t : TypeId} {fz : Nat × Nat} (hq : u.heap[q]? = some (.cells cs t fz)) (ht : t ≠ 92) (hqa : q ≠ a) : RR a L E n l w := by
  obtain ⟨v, h1, h2, h3⟩ := hr
  exact ⟨v, (h.2.2.2.2 a (fun e => hqa e.symm)).trans h1, h.own h2 (own_ne h2 hq ht), h3⟩
end Go.Proofs.Ytnlcpfijfjbgjaa
namespace Go.Proofs.Ytnlcpfijfjbgjaa
open Go Go.RowKit
open G (Tok Er Ins Fun peek0 peek1 atOf)
theorem RR.readAt {a : Nat} {L : List Tok} {E : Int} {n : Nat} {l : List Tok} {w : World} (h : RR a L E n l w) : Ytnlcpfijfjbgjaa.readAt a w = L.length - l.length := by
  obtain ⟨c1, _⟩ := h.at1
  unfold Ytnlcpfijfjbgjaa.readAt
  rw [c1]; simp [intOf]
theorem RR.len {a : Nat} {L : List Tok} {E : Int} {n : Nat} {l : List Tok} {w : World} (h : RR a L E n l w) : l.length ≤ L.length ∧ L.length ≤ 131072 := by
  obtain ⟨v, h1, h2, h5, h6, h7⟩ := h
  exact ⟨h5.length_le, h6.1⟩
set_option maxHeartbeats 4000000 in
set_option maxRecDepth 20000 in
theorem rphi (op id nn ty : Int) (nm : List UInt8) (p : Int) {a : Nat} {L : List Tok} {E : Int} {n : Nat} {l lf : List Tok} {args to : List Int} (w : World) (h : RR a L E n l w) (hr : G.phi idxF E l = .ok ((to, args), lf)) :
    Calls Try.prog 77 #[.pointer (some ⟨a, 0, none⟩), .agg (bare8 op id nn ty (bs nm) p)] w (ROut a L E n (op, id, nn, ty, args, to, nm, p) lf w) := by
  obtain ⟨i0, hi0, hz0, hz1, hz2⟩ := info_parts Try.info3
  have M0 : Hid (MidR w a (w.heap.size + 1 + 1) (w.heap.size + 1) L E n (op, id, nn, ty, [], [], nm, p) l (((w.alloc (.cells (bare8 op id nn ty (bs nm) p) 60)).alloc (.cells (bare8 0 0 0 0 ⟨#[]⟩ 0) 60)).alloc (.cells (bare8 op id nn ty (bs nm) p) 60))) := hide (MidR.start h op id nn ty nm p)
  have HR : Hid (G.phiW idxF E (l.length + 1) [] [] l = .ok ((to, args), lf)) := hide hr
  have hLl := h.len
  clear hr
  clear h
  generalize hg : w.heap.size + 1 = g at *
  generalize hc : g + 1 = c at *
  go_enter Try.func77, Try.ntmps77
  go_upto_region 2 with fail
  show Code.wp _ _ _ _ (((w.alloc (.cells (bare8 op id nn ty (bs nm) p) 60)).alloc (.cells (bare8 0 0 0 0 ⟨#[]⟩ 0) 60)).alloc (.cells (bare8 op id nn ty (bs nm) p) 60))
  generalize ((w.alloc (.cells (bare8 op id nn ty (bs nm) p) 60)).alloc (.cells (bare8 0 0 0 0 ⟨#[]⟩ 0) 60)).alloc (.cells (bare8 op id nn ty (bs nm) p) 60) = W0 at *
  clear hg hc
  go_wp2_with fail
  go_loopw [] (fun wr => ∃ (f : Nat) (ar tt : List Int) (l' : List Tok), Hid (MidR w a c g L E n (op, id, nn, ty, ar, tt, nm, p) l' wr) ∧ l'.length < f ∧ tt.length + l'.length ≤ L.length ∧ ar.length + l'.length ≤ L.length ∧ Hid (G.phiW idxF E f tt ar l' = .ok ((to, args), lf))) (fun wr => L.length - readAt a wr)
  case atStart => exact ⟨l.length + 1, [], [], l, M0, by omega, by simp; omega, by simp; omega, HR⟩
  case round =>
    obtain ⟨f, ar, tt, l', M, hf, hT, hA, HR'⟩ := hrel
    have hra := M.out.1.readAt
    have hll := M.out.1.len
    obtain ⟨f, rfl⟩ : ∃ q, f = q + 1 := ⟨f - 1, by omega⟩
    obtain ⟨va0, vt0, HC0, HZ0, o10, o20, o30⟩ := M.out.2.1.cells
    obtain ⟨ao0, cp0, rfl⟩ := own_len o20
    have q5 : wr.cell? ⟨c, 5, none⟩ = some (.slice ao0 tt.length cp0) := HC0 5 _ rfl
    have q4 := M.out.1.at1.2.2.1
    clear HC0 HZ0 o10 o20 o30
    by_cases hgo : tt = [] ∨ G.paired l' = true
    · obtain ⟨b, l2, hb, hr2⟩ := then_inv (show G.andThen (G.label idxF E l') (fun b r => G.andThen (G.value idxF E r) fun v => G.phiW idxF E f (tt ++ [b]) (ar ++ [v])) = .ok ((to, args), lf) from by have := HR'.out; unfold G.phiW at this; rwa [if_pos hgo] at this)
      obtain ⟨v, l3, hv, hr3⟩ := then_inv hr2
      have e2 := (G.label_ok hb).1
      have e2' := (G.label_ok hb).2.1
      have e3 := (G.value_ok hv).1
      have e3' := (G.value_ok hv).2.1
      have hl23 : l3.length + 2 ≤ l'.length := by
        have := tail_bulk e2
        have := tail_bulk e3
        rw [e3', ← e2'] at *
        rw [← e2'] at *
        omega
      have HB := hide hb
      have HV := hide hv
      have HR3 := hide hr3
      clear hb hr2 hv hr3 e2 e2' e3 e3' HR'
      by_cases ht0 : tt = []
      · have hto : ((tt.length : Int) == 0) = true := by rw [ht0]; rfl
        have M5 := M
        clear hgo M
        go_wp2_with fail
        clear ht0 hto q4 q5
        refine (rlabel _ M5.out.1 HB.out).mono ?_; rintro e w2 ⟨rfl, a2⟩
        have M1 := hide (M5.out.ate a2)
        clear M5 a2
        go_wp2_with fail
        refine (rvalue _ M1.out.1 HV.out).mono ?_; rintro e w3 ⟨rfl, a3⟩
        have M2 := hide (M1.out.ate a3)
        clear M1 a3
        obtain ⟨va, vt, HC, HZ4, o1, o2, o3⟩ := M2.out.2.1.cells
        have hcl7 := M2.out.lt
        have cA := HC 5 _ rfl
        have zA := HZ4 5
        have hne : vt.ownBlock ≠ some c := (o3 c (by obtain ⟨ua, ut, q1, _⟩ := M2.out.2.1; exact ⟨_, _, q1⟩)).2
        obtain ⟨ao7, cp7, rfl⟩ := own_len o2
        have O7 := hide o2
        obtain ⟨cB, zB⟩ := Cel.below (below_box w3 (.cells #[.int .i64 b] 3)) hcl7.2.2.2.1 cA zA
        clear HC HZ4 o1 o2 o3
        have t27 : tt.length + 1 ≤ maxLen := by unfold maxLen; omega
        have t37 : (tt.length + 1) * 8 ≤ 140737488355328 := by omega
        have t47 : w.heap.size ≤ (w3.alloc (.cells #[.int .i64 b] 3)).heap.size := by simp; omega
        have t57 : c < (w3.alloc (.cells #[.int .i64 b] 3)).heap.size := by simp; omega
        go_upto_region 6 with (at_builtin; refine wpList_append_lies _ rfl (.tmp 30) (.tmp 32) 22 rfl w.heap.size 3 i0 _ 1 8 Try.underlying22 hi0 hz0 hz1 hz2 rfl (by decide) _ _ _ rfl (O7.out.alloc _) ⟨w3.heap.size, 0, none⟩ 1 1 [.int .i64 b] rfl rfl one_cell one_one (by decide) t27 t37 t47 (w3.heap.size + 1) (by simp) ?_; intro gg7 cap7 w7 hown7 hgrow7 hat7 hlt7; obtain ⟨cC7, zC7⟩ := Cel.grown hgrow7 t57 hne cB zB)
        have M3 := hide ((M2.out.below (below_box w3 (.cells #[.int .i64 b] 3))).to cB hown7 hgrow7 (hat7.imp (fun e => e) (fun e => e.trans (by simp))))
        show Code.wp _ _ _ _ (w7.setCell ⟨c, 5, none⟩ (.slice (some ⟨gg7, 0, none⟩) (tt.length + 1) cap7))
        have M3 : Hid (MidR w a c g L E n (op, id, nn, ty, ar, tt ++ [b], nm, p) l3 (w7.setCell ⟨c, 5, none⟩ (.slice (some ⟨gg7, 0, none⟩) (tt.length + 1) cap7))) := M3
        clear cC7 zC7 hown7 hgrow7 hat7 hlt7 O7 cA zA cB zB hne t27 t37 t47 t57 hcl7 M2
        generalize w7.setCell ⟨c, 5, none⟩ (.slice (some ⟨gg7, 0, none⟩) (tt.length + 1) cap7) = W7 at *
        clear va
        obtain ⟨va, vt, HC, HZ4, o1, o2, o3⟩ := M3.out.2.1.cells
        have hcl8 := M3.out.lt
        have cA := HC 4 _ rfl
        have zA := HZ4 4
        have hne : va.ownBlock ≠ some c := (o3 c (by obtain ⟨ua, ut, q1, _⟩ := M3.out.2.1; exact ⟨_, _, q1⟩)).1
        obtain ⟨ao8, cp8, rfl⟩ := own_len o1
        have O8 := hide o1
        obtain ⟨cB, zB⟩ := Cel.below (below_box W7 (.cells #[.int .i64 v] 3)) hcl8.2.2.2.1 cA zA
        clear HC HZ4 o1 o2 o3
        have t28 : ar.length + 1 ≤ maxLen := by unfold maxLen; omega
        have t38 : (ar.length + 1) * 8 ≤ 140737488355328 := by omega
        have t48 : w.heap.size ≤ (W7.alloc (.cells #[.int .i64 v] 3)).heap.size := by simp; omega
        have t58 : c < (W7.alloc (.cells #[.int .i64 v] 3)).heap.size := by simp; omega
        go_wp2_with (at_builtin; refine wpList_append_lies _ rfl (.tmp 36) (.tmp 38) 22 rfl w.heap.size 3 i0 _ 1 8 Try.underlying22 hi0 hz0 hz1 hz2 rfl (by decide) _ _ _ rfl (O8.out.alloc _) ⟨W7.heap.size, 0, none⟩ 1 1 [.int .i64 v] rfl rfl one_cell one_one (by decide) t28 t38 t48 (W7.heap.size + 1) (by simp) ?_; intro gg8 cap8 w8 hown8 hgrow8 hat8 hlt8; obtain ⟨cC8, zC8⟩ := Cel.grown hgrow8 t58 hne cB zB)
        have M4 := hide ((M3.out.below (below_box W7 (.cells #[.int .i64 v] 3))).arg cB hown8 hgrow8 (hat8.imp (fun e => e) (fun e => e.trans (by simp))))
        have hra4 := M4.out.1.readAt
        have hll4 := M4.out.1.len
        go_roundw
        case rel => exact ⟨f, ar ++ [v], tt ++ [b], l3, M4, by omega, by simp; omega, by simp; omega, HR3⟩
        case measure => rw [hra, hra4]; omega
      · have hto : ((tt.length : Int) == 0) = false := by cases tt with
          | nil => exact absurd rfl ht0
          | cons x y => simp; omega
        have HP0 := hide (hgo.resolve_left ht0)
        clear hgo ht0
        go_wp2_with fail
        refine (rpaired _ M.out.1).mono ?_; rintro e w1 ⟨rfl, b1⟩
        rw [HP0.out]
        have M5 := hide (M.out.below b1)
        clear M b1 q4 q5
        go_wp2_with fail
        clear hto
        refine (rlabel _ M5.out.1 HB.out).mono ?_; rintro e w2 ⟨rfl, a2⟩
        have M1 := hide (M5.out.ate a2)
        clear M5 a2
        go_wp2_with fail
        refine (rvalue _ M1.out.1 HV.out).mono ?_; rintro e w3 ⟨rfl, a3⟩
        have M2 := hide (M1.out.ate a3)
        clear M1 a3
        obtain ⟨va, vt, HC, HZ4, o1, o2, o3⟩ := M2.out.2.1.cells
        have hcl7 := M2.out.lt
        have cA := HC 5 _ rfl
        have zA := HZ4 5
        have hne : vt.ownBlock ≠ some c := (o3 c (by obtain ⟨ua, ut, q1, _⟩ := M2.out.2.1; exact ⟨_, _, q1⟩)).2
        obtain ⟨ao7, cp7, rfl⟩ := own_len o2
        have O7 := hide o2
        obtain ⟨cB, zB⟩ := Cel.below (below_box w3 (.cells #[.int .i64 b] 3)) hcl7.2.2.2.1 cA zA
        clear HC HZ4 o1 o2 o3
        have t27 : tt.length + 1 ≤ maxLen := by unfold maxLen; omega
        have t37 : (tt.length + 1) * 8 ≤ 140737488355328 := by omega
        have t47 : w.heap.size ≤ (w3.alloc (.cells #[.int .i64 b] 3)).heap.size := by simp; omega
        have t57 : c < (w3.alloc (.cells #[.int .i64 b] 3)).heap.size := by simp; omega
        go_upto_region 6 with (at_builtin; refine wpList_append_lies _ rfl (.tmp 30) (.tmp 32) 22 rfl w.heap.size 3 i0 _ 1 8 Try.underlying22 hi0 hz0 hz1 hz2 rfl (by decide) _ _ _ rfl (O7.out.alloc _) ⟨w3.heap.size, 0, none⟩ 1 1 [.int .i64 b] rfl rfl one_cell one_one (by decide) t27 t37 t47 (w3.heap.size + 1) (by simp) ?_; intro gg7 cap7 w7 hown7 hgrow7 hat7 hlt7; obtain ⟨cC7, zC7⟩ := Cel.grown hgrow7 t57 hne cB zB)
        have M3 := hide ((M2.out.below (below_box w3 (.cells #[.int .i64 b] 3))).to cB hown7 hgrow7 (hat7.imp (fun e => e) (fun e => e.trans (by simp))))
        show Code.wp _ _ _ _ (w7.setCell ⟨c, 5, none⟩ (.slice (some ⟨gg7, 0, none⟩) (tt.length + 1) cap7))
        have M3 : Hid (MidR w a c g L E n (op, id, nn, ty, ar, tt ++ [b], nm, p) l3 (w7.setCell ⟨c, 5, none⟩ (.slice (some ⟨gg7, 0, none⟩) (tt.length + 1) cap7))) := M3
        clear cC7 zC7 hown7 hgrow7 hat7 hlt7 O7 cA zA cB zB hne t27 t37 t47 t57 hcl7 M2
        generalize w7.setCell ⟨c, 5, none⟩ (.slice (some ⟨gg7, 0, none⟩) (tt.length + 1) cap7) = W7 at *
        clear va
        obtain ⟨va, vt, HC, HZ4, o1, o2, o3⟩ := M3.out.2.1.cells
        have hcl8 := M3.out.lt
        have cA := HC 4 _ rfl
        have zA := HZ4 4
        have hne : va.ownBlock ≠ some c := (o3 c (by obtain ⟨ua, ut, q1, _⟩ := M3.out.2.1; exact ⟨_, _, q1⟩)).1
        obtain ⟨ao8, cp8, rfl⟩ := own_len o1
        have O8 := hide o1
        obtain ⟨cB, zB⟩ := Cel.below (below_box W7 (.cells #[.int .i64 v] 3)) hcl8.2.2.2.1 cA zA
        clear HC HZ4 o1 o2 o3
        have t28 : ar.length + 1 ≤ maxLen := by unfold maxLen; omega
        have t38 : (ar.length + 1) * 8 ≤ 140737488355328 := by omega
        have t48 : w.heap.size ≤ (W7.alloc (.cells #[.int .i64 v] 3)).heap.size := by simp; omega
        have t58 : c < (W7.alloc (.cells #[.int .i64 v] 3)).heap.size := by simp; omega
        go_wp2_with (at_builtin; refine wpList_append_lies _ rfl (.tmp 36) (.tmp 38) 22 rfl w.heap.size 3 i0 _ 1 8 Try.underlying22 hi0 hz0 hz1 hz2 rfl (by decide) _ _ _ rfl (O8.out.alloc _) ⟨W7.heap.size, 0, none⟩ 1 1 [.int .i64 v] rfl rfl one_cell one_one (by decide) t28 t38 t48 (W7.heap.size + 1) (by simp) ?_; intro gg8 cap8 w8 hown8 hgrow8 hat8 hlt8; obtain ⟨cC8, zC8⟩ := Cel.grown hgrow8 t58 hne cB zB)
        have M4 := hide ((M3.out.below (below_box W7 (.cells #[.int .i64 v] 3))).arg cB hown8 hgrow8 (hat8.imp (fun e => e) (fun e => e.trans (by simp))))
        have hra4 := M4.out.1.readAt
        have hll4 := M4.out.1.len
        go_roundw
        case rel => exact ⟨f, ar ++ [v], tt ++ [b], l3, M4, by omega, by simp; omega, by simp; omega, HR3⟩
        case measure => rw [hra, hra4]; omega
    · have ht0 : tt ≠ [] := fun e => hgo (.inl e)
      have hp0 : G.paired l' = false := by cases hq : G.paired l' with
        | false => rfl
        | true => exact absurd (.inr hq) hgo
      have hto : ((tt.length : Int) == 0) = false := by cases tt with
        | nil => exact absurd rfl ht0
        | cons x y => simp; omega
      obtain ⟨⟨rfl, rfl⟩, rfl⟩ : (tt = to ∧ ar = args) ∧ l' = lf := by have := HR'.out; unfold G.phiW at this; rw [if_neg hgo] at this; cases this; exact ⟨⟨rfl, rfl⟩, rfl⟩
      have HP0 := hide hp0
      clear hgo ht0 hp0 HR'
      go_wp2_with fail
      refine (rpaired _ M.out.1).mono ?_; rintro e w1 ⟨rfl, b1⟩
      rw [HP0.out]
      have M1 := hide (M.out.below b1)
      clear M b1 q4 q5
      obtain ⟨va', vt', HC, HZ4, o1, o2, o3⟩ := M1.out.2.1.cells
      obtain ⟨aoA, mA, cA, rfl⟩ := own_slice o1
      obtain ⟨aoT, mT, cT, rfl⟩ := own_slice o2
      have y0 := HC 0 _ rfl
      have y1 := HC 1 _ rfl
      have y2 := HC 2 _ rfl
      have y3 := HC 3 _ rfl
      have y4 := HC 4 _ rfl
      have y5 := HC 5 _ rfl
      have y6 := HC 6 _ rfl
      have y7 := HC 7 _ rfl
      have hS := M1.out.2.2.1
      obtain ⟨o3a, o3b⟩ := o3 g ⟨_, _, hS⟩
      have hS := hide hS
      have o1 := hide o1
      have o2 := hide o2
      clear HC HZ4 o3
      obtain ⟨s0, s1, s2, s3, s4, s5, s6, s7, f0, f1, f2, f3, f4, f5, f6, f7⟩ := res8 hS.out
      have hcn : c ≠ g := fun e => M1.out.2.2.2.2.2.2 e.symm
      have FF := hide (((((((((Far.refl g w1).set 0 (.int .i64 op)).set 1 (.int .i64 id)).set 2 (.int .i64 nn)).set 3 (.int .i64 ty)).set 4 (.slice aoA mA cA)).set 5 (.slice aoT mT cT)).set 6 (.string (bs nm))).set 7 (.int .i64 p))
      have KK := hide (FF.out.kr M1.out.2.2.2.1 M1.out.2.2.2.2.2.1)
      have QQ := hide (FF.out.rr M1.out.1 hS.out (by decide) (by have := M1.out.lt; omega))
      have OO := hide (⟨FF.out.own o1.out o3a, FF.out.own o2.out o3b⟩ : _ ∧ _)
      go_wp2_with fail
      exact bodyPost_ret (v := .agg (insCells (op, id, nn, ty, ar, tt, nm, p) (.slice aoA mA cA) (.slice aoT mT cT)).toArray) (by simp [results, Try.results77, go_sem, insCells, s0, s1, s2, s3, s4, s5, s6, s7]) rfl ⟨_, rfl, ⟨_, _, rfl, OO.out.1, OO.out.2⟩, QQ.out, KK.out⟩
end Go.Proofs.Ytnlcpfijfjbgjaa
