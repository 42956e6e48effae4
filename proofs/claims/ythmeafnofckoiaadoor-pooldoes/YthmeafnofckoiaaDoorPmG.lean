/- Layer 12, the program over memory: another object. -/
import Derived.Test.YthmeafnofckoiaaDoorPmF
namespace Go.Proofs.YthmeafnofckoiaaDoor
open Go Go.RowKit
open Layertwelve (Ob trapF objN loadF storeF slotF wordsF shapeF makeF firstF slotsF goF reachF)

theorem stepP_run {P : Program} {ops : Array Oper} {o : Oper} {a : Act} {w : World} {K : Act → World → Prop} {Q : Exit → Act → World → Prop} {E : Prop} (hgd : o.guard = none) (s x : Operand) (t : TypeId)
    (ho : o.op = .call { callee := .builtin .append, args := #[s, x], argTypes := #[t, t] }) (v vx : Value) (hs : a.eval s = v) (hx : a.eval x = vx) (v2 : Value) (w2 : World) (hr : (Builtin.append_ #[t, t] o.type #[v, vx]).run P w = .ok v2 w2)
    (h : K (a.put o.dst v2) w2) : if Region.wanted o (yielded ops a.tmps) = true then Oper.wp P o a w K Q else E := by
  have hw : Region.wanted o (yielded ops a.tmps) = true := by simp [Region.wanted, hgd]
  rw [if_pos hw]
  unfold Oper.wp
  simp [execOp, ho, resolve, invoke, builtin, hs, hx, hr, Result.andThen]
  exact h
/-- Whatever order is drawn, one end. -/
theorem wp_one {P : Program} {c : Code} {Q : Exit → Act → World → Prop} {a : Act} {w : World} {A : Act} {W : World} (hr : ∀ (K : Act → World → Prop), K A W → c.wp P (Exit.then K (fun _ _ _ => False)) a w) (h : Q .normal A W) : c.wp P Q a w :=
  Code.wp_mono (fun e a w q => by
    unfold Exit.then at q
    split at q
    · obtain ⟨rfl, rfl⟩ := q; exact h
    · exact q.elim) (hr (fun a' w' => a' = A ∧ w' = W) ⟨rfl, rfl⟩)
theorem words_make (l : List Ob) (x : Nat × Nat) : wordsF (makeF l x) = wordsF l + (x.1 + 1) := by
  unfold wordsF makeF; simp
/-- The row of a new object's slots. -/
theorem zeros_row (n : Nat) : madeCells #[Value.int .i64 0] n = (ints12 (List.replicate n 0)).toArray := by
  apply Array.ext'
  rw [toList_madeCells_one]
  simp [ints12]
theorem pool_made {w w4 : World} {B gp b n m : Nat} {l : List Ob} {v v' : Value} {ss : List Nat} (h : PoolW w B gp l v ss) (hb : w.heap[b]? = some (.cells (ints12 (List.replicate n 0)).toArray 2 (0, 0))) (hB : B ≤ b) (hbs : b ∉ ss)
    (own : w4.ownsRow B 66 3 v' (l.length + 1) (rowCells l ss ++ obCells ((n, m), List.replicate n 0) b)) (hg : w.grownBy w4 v.ownBlock) :
    PoolW ((w4.setCell ⟨gp, 0, none⟩ v').setCell ⟨gp, 1, none⟩ (.int .i64 ((wordsF l : Int) + ((n : Int) + 1)))) B gp (makeF l (n, m)) v' (ss ++ [b]) := by
  have ty : ∀ (k : Nat) (c : Array Value) (t : TypeId), w.heap[k]? = some (Obj.cells c t (0, 0)) → t ≠ 66 → v.ownBlock ≠ some k := fun k c t hk ht e => by
    obtain ⟨c', hc⟩ := own_kind h.2.2.1 e
    rw [hk] at hc; injection hc with hc; injection hc with _ hc; exact ht hc
  have keep : ∀ (k : Nat) (c : Array Value) (t : TypeId), w.heap[k]? = some (Obj.cells c t (0, 0)) → t ≠ 66 → w4.heap[k]? = some (Obj.cells c t (0, 0)) := fun k c t hk ht =>
    (hg.block k (Array.getElem?_eq_some_iff.1 hk).1 (fun e => ty k c t hk ht e.symm)).trans hk
  have hgp := keep gp _ _ h.2.1 (by decide)
  have hne : v'.ownBlock ≠ some gp := fun e => by
    obtain ⟨c, hc⟩ := own_kind own e
    rw [hgp] at hc
    injection hc with hc; injection hc with _ hc; exact absurd hc (by decide)
  have ngp : ∀ (k : Nat) (c : Array Value), w.heap[k]? = some (Obj.cells c 2 (0, 0)) → k ≠ gp := fun k c hk e => by
    rw [e, h.2.1] at hk; injection hk with hk; injection hk with _ hk; exact absurd hk (by decide)
  refine ⟨h.1, ?_, ?_, by simp [makeF, h.2.2.2.1], ?_, fun i o b' hi hb' => ?_⟩
  · rw [words_make]
    have := put_gp1 (x := .int .i64 ((wordsF l : Int) + ((n : Int) + 1))) (put_gp (x := v') hgp)
    rw [this]; simp
  · have e : rowCells (makeF l (n, m)) (ss ++ [b]) = rowCells l ss ++ obCells ((n, m), List.replicate n 0) b := rowCells_snoc l ss _ b h.2.2.2.1
    rw [e, show (makeF l (n, m)).length = l.length + 1 by simp [makeF]]
    exact own_setCell (own_setCell own hne _) hne _
  · exact List.nodup_append.2 ⟨h.2.2.2.2.1, by simp, fun x hx y hy => by rw [List.mem_singleton.1 hy]; intro e; exact hbs (e ▸ hx)⟩
  · by_cases hl : i < l.length
    · have hs : i < ss.length := by rw [h.2.2.2.1]; exact hl
      rw [makeF, List.getElem?_append_left hl] at hi
      rw [List.getElem?_append_left hs] at hb'
      obtain ⟨k1, k2⟩ := h.2.2.2.2.2 i o b' hi hb'
      refine ⟨k1, ?_⟩
      rw [Below.heap_setCell _ _ _ _ (ngp _ _ k2), Below.heap_setCell _ _ _ _ (ngp _ _ k2)]
      exact keep _ _ _ k2 (by decide)
    · have hi2 := (List.getElem?_eq_some_iff.1 hi).1
      have e : i = l.length := by simp [makeF] at hi2; omega
      subst e
      rw [makeF, List.getElem?_append_right (Nat.le_refl _)] at hi
      rw [List.getElem?_append_right (by rw [h.2.2.2.1]; omega), h.2.2.2.1] at hb'
      simp at hi hb'
      subst hi; subst hb'
      refine ⟨hB, ?_⟩
      rw [Below.heap_setCell _ _ _ _ (ngp _ _ hb), Below.heap_setCell _ _ _ _ (ngp _ _ hb)]
      exact keep _ _ _ hb (by decide)
theorem ob_cell {w1 : World} {a b c : Value} {t : TypeId} : ∀ j u, [a, b, c][j]? = some u → (w1.alloc (.cells #[a, b, c] t)).cell? ((⟨w1.heap.size, 0, none⟩ : Addr).add j) = some u := by
  intro j u hj
  match j, hj with
  | 0, hj => simp at hj; subst hj; simp [Addr.add]
  | 1, hj => simp at hj; subst hj; simp [Addr.add]
  | 2, hj => simp at hj; subst hj; simp [Addr.add]
set_option maxHeartbeats 2000000 in
set_option maxRecDepth 20000 in
theorem pmake_any (l : List Ob) (n m : Nat) (B gp : Nat) (F : Nat → Prop) (w : World) (h : PoolF w B gp l F) (hn : n ≤ 16) (hm : m < 2 ^ n) (hl : l.length ≤ 1000) (hws : wordsF l ≤ 100000) (hB : B ≤ w.heap.size) :
    Calls Tryd.prog 10 #[.pointer (some ⟨gp, 0, none⟩), .agg #[.int .i64 (n : Int), .int .i64 (m : Int)]] w fun e w' => e = .returned (.int .i64 ((l.length : Int) + 1)) ∧ PoolF w' B gp (makeF l (n, m)) (more F w w') ∧ Kf F w w' := by
  obtain ⟨⟨v, ss, h1, h2⟩, h3⟩ := h
  have b0 := below_box w (.cells #[.int .i64 (n : Int), .int .i64 (m : Int)] 31)
  have HC := hide (check_yes n m (w.alloc (.cells #[.int .i64 (n : Int), .int .i64 (m : Int)] 31)) hn hm)
  have z0 : (w.alloc (.cells #[.int .i64 (n : Int), .int .i64 (m : Int)] 31)).cell? ⟨w.heap.size, 0, none⟩ = some (.int .i64 (n : Int)) := by simp
  have z1 : (w.alloc (.cells #[.int .i64 (n : Int), .int .i64 (m : Int)] 31)).cell? ⟨w.heap.size, 1, none⟩ = some (.int .i64 (m : Int)) := by simp
  have hz : w.heap.size < (w.alloc (.cells #[.int .i64 (n : Int), .int .i64 (m : Int)] 31)).heap.size := by simp
  obtain ⟨W, hW⟩ : ∃ W, W = w.alloc (.cells #[.int .i64 (n : Int), .int .i64 (m : Int)] 31) := ⟨_, rfl⟩
  rw [← hW] at b0 HC z0 z1 hz
  have hgw := (h1.foot (.inl rfl)).2
  have hgq : gp ≠ w.heap.size := by omega
  have HW := hide hW
  clear hW
  go_enter Tryd.func10, Tryd.ntmps10
  go_upto_region 1 with fail
  show Code.wp _ _ _ _ (w.alloc (.cells #[.int .i64 (n : Int), .int .i64 (m : Int)] 31))
  rw [← HW.out]
  clear HW
  go_wp2_with fail
  refine HC.out.mono ?_; rintro e w1 ⟨rfl, b1⟩
  replace z0 := (b1.cell (p := ⟨w.heap.size, 0, none⟩) hz).trans z0
  replace z1 := (b1.cell (p := ⟨w.heap.size, 1, none⟩) hz).trans z1
  have B1 : Below w.heap.size w w1 := b0.trans (b1.mono b0.size)
  have hz1 : w.heap.size < w1.heap.size := Nat.lt_of_lt_of_le hz b1.size
  have P1 := h1.below B1
  clear HC b0 b1
  obtain ⟨Wa, hWa⟩ : ∃ Wa, Wa = w1.drew.alloc (.cells (madeCells #[Value.int .i64 0] n) 2) := ⟨_, rfl⟩
  obtain ⟨Wb, hWb⟩ : ∃ Wb, Wb = Wa.alloc (.cells #[.int .i64 (n : Int), .int .i64 (m : Int), .slice (some ⟨w1.heap.size, 0, none⟩) n n] 66) := ⟨_, rfl⟩
  have sa : Wa.heap.size = w1.heap.size + 1 := by rw [hWa]; simp
  have sb : Wb.heap.size = w1.heap.size + 2 := by rw [hWb]; simp [sa]
  have Bb : Below w1.heap.size w1 Wb := by
    rw [hWb, hWa]
    exact ((Below.refl w1.heap.size w1).drew.alloc (by simp) _).alloc (by simp) _
  have Pb := P1.below Bb
  have hblk : Wb.heap[w1.heap.size]? = some (.cells (ints12 (List.replicate n 0)).toArray 2 (0, 0)) := by
    rw [hWb]
    have e1 := heap_alloc_old Wa (.cells #[.int .i64 (n : Int), .int .i64 (m : Int), .slice (some ⟨w1.heap.size, 0, none⟩) n n] 66) (show w1.heap.size < Wa.heap.size by omega)
    rw [e1, hWa, ← zeros_row]
    exact heap_alloc_new w1.drew _
  obtain ⟨i0, hi0, hiz, his, hib⟩ := info12_parts Tryd.info66
  have hob : obCells ((n, m), List.replicate n 0) w1.heap.size = [.int .i64 (n : Int), .int .i64 (m : Int), .slice (some ⟨w1.heap.size, 0, none⟩) n n] := by simp [obCells]
  obtain ⟨v', w4, hr4, own4, grow4, _, at4⟩ := run_append_own_at (P := Tryd.prog) Wb B 56 56 66 i0 _ 3 40 Tryd.underlying56 hi0 hiz his hib rfl (by decide) v l.length (rowCells l ss) Pb.2.2.1 ⟨Wa.heap.size, 0, none⟩ 1 1
    [.int .i64 (n : Int), .int .i64 (m : Int), .slice (some ⟨w1.heap.size, 0, none⟩) n n] rfl (by rw [hWb]; exact ob_cell) (by intro u hu; simp at hu; rcases hu with rfl | rfl | rfl <;> rfl) (by unfold maxLen; omega) (by omega) (by have := B1.size; omega)
  rw [← hob] at own4
  have hnb : w1.heap.size ∉ ss := fun hin => by have := (P1.foot (.inr (.inr hin))).2; omega
  have hgp4 : w4.heap[gp]? = some (.cells #[v, .int .i64 (wordsF l : Int)] 58 (0, 0)) := (grow4.block gp (Pb.foot (.inl rfl)).2 (fun e => by
    obtain ⟨c, hc⟩ := own_kind Pb.2.2.1 e.symm
    rw [Pb.2.1] at hc; injection hc with hc; injection hc with _ hc; exact absurd hc (by decide))).trans Pb.2.1
  have hbx : w4.cell? ⟨w.heap.size, 0, none⟩ = some (.int .i64 (n : Int)) := by
    have q : Wb.heap[w.heap.size]? = w1.heap[w.heap.size]? := Bb.block _ hz1
    have q2 : w4.heap[w.heap.size]? = Wb.heap[w.heap.size]? := grow4.block _ (by omega) (fun e => by have := (h1.foot (.inr (.inl e.symm))).2; omega)
    rw [World.cell?_of_block (w := w1) (q2.trans q)]; exact z0
  have PM := pool_made (m := m) Pb hblk (by have := B1.size; omega) hnb own4 grow4
  have HE : Hid (PoolF ((w4.setCell ⟨gp, 0, none⟩ v').setCell ⟨gp, 1, none⟩ (.int .i64 ((wordsF l : Int) + ((n : Int) + 1)))) B gp (makeF l (n, m)) (more F w w4) ∧ Kf F w ((w4.setCell ⟨gp, 0, none⟩ v').setCell ⟨gp, 1, none⟩ (.int .i64 ((wordsF l : Int) + ((n : Int) + 1))))) := hide (by
    have hs4 := grow4.size
    have hs1 := B1.size
    refine ⟨⟨⟨v', _, PM, fun b hb => ?_⟩, fun b hb => ?_⟩, ?_⟩
    · rcases hb with rfl | hb | hb
      · exact .inl (h2 _ (.inl rfl))
      · rcases at4 with e | e
        · rw [e] at hb; exact .inl (h2 _ (.inr (.inl hb)))
        · rw [e] at hb; cases hb
          have := (own4.lt Wb.heap.size e).2
          exact .inr ⟨by omega, this⟩
      · rcases List.mem_append.1 hb with hb | hb
        · exact .inl (h2 _ (.inr (.inr hb)))
        · rw [List.mem_singleton.1 hb]; exact .inr ⟨by omega, by omega⟩
    · rcases hb with hb | hb
      · have := h3 b hb; simp; omega
      · simp; omega
    · have hos : w4.os = w.os ∧ w4.tape = w.tape ∧ w4.output = w.output := ⟨grow4.os.trans (Bb.os.trans B1.os), grow4.tape.trans (Bb.tape.trans B1.tape), grow4.output.trans (Bb.output.trans B1.output)⟩
      refine ⟨hos.1, hos.2.1, hos.2.2, by simp; omega, fun k hk hf => ?_⟩
      have e1 : k ≠ gp := fun e => hf (e ▸ h2 gp (.inl rfl))
      rw [Below.heap_setCell _ _ _ _ e1, Below.heap_setCell _ _ _ _ e1]
      exact (grow4.block k (by omega) (fun e => hf (h2 k (.inr (.inl e.symm))))).trans ((Bb.block k (by omega)).trans (B1.block k hk)))
  obtain ⟨c0, c1, f0, f1⟩ := two_cells P1.2.1
  obtain ⟨d0, d1, g0, g1⟩ := two_cells hgp4
  have hfin : (w4.setCell ⟨gp, 0, none⟩ v').cell? ⟨gp, 0, none⟩ = some v' := World.cell?_setCell_same _ _ _ d0
  obtain ⟨ao, cp, hvv⟩ := own12_len P1.2.2.1
  obtain ⟨ao', cp', hvv'⟩ := own12_len own4
  have bm := below_box w1 (.cells (madeCells #[Value.int .i64 0] n) 2)
  have za0 := (bm.cell (p := ⟨w.heap.size, 0, none⟩) hz1).trans z0
  have za1 := (bm.cell (p := ⟨w.heap.size, 1, none⟩) hz1).trans z1
  have ca0 := (bm.cell (p := ⟨gp, 0, none⟩) (show gp < w1.heap.size by omega)).trans c0
  have cb0 := ((below_box (w1.alloc (.cells (madeCells #[Value.int .i64 0] n) 2)) (.cells #[.int .i64 (n : Int), .int .i64 (m : Int), .slice (some ⟨w1.heap.size, 0, none⟩) n n] 66)).cell (p := ⟨gp, 0, none⟩) (show gp < (w1.alloc (.cells (madeCells #[Value.int .i64 0] n) 2)).heap.size by simp; omega)).trans ca0
  clear bm
  rw [sa] at hr4
  have HR4 := hide hr4
  have hmk : ∀ w, (Instr.makeSlice 60 (.int .i64 (n : Int)) (.int .i64 (n : Int))).run Tryd.prog w = .ok (.slice (some ⟨w.heap.size, 0, none⟩) n n) (w.alloc (.cells (madeCells #[.int .i64 0] n) 2)) := fun w => run_make_row' (P := Tryd.prog) 60 2 (.int .i64 0) 8 Tryd.underlying60 Tryd.info2 rfl .i64 .i64 n (by omega) (by omega) w
  clear PM hgp4 hnb own4 grow4 at4 hr4 hob Pb hblk Bb P1 B1 h1 h2 h3 his hib hiz hi0 sb sa hfin hz hz1
  subst hvv hvv'
  rw [hWb, hWa] at HR4
  clear hWb hWa
  go_upto_region 3 with fail
  apply wp_one
  · intro K0 HK0
    go_region_law (refine stepP_run rfl (.tmp 16) (.tmp 22) 56 rfl _ _ rfl rfl _ w4 HR4.out ?_)
    all_goals exact HK0
  have hfin := World.cell?_setCell_same w4 ⟨gp, 0, none⟩ (.slice ao' (l.length + 1) cp') d0
  have hwr : IntKind.i64.wrap ((n : Int) + 1) = (n : Int) + 1 := IntWalk.i64_in _ ⟨by omega, by omega⟩
  have hwr2 : IntKind.i64.wrap ((wordsF l : Int) + ((n : Int) + 1)) = (wordsF l : Int) + ((n : Int) + 1) := IntWalk.i64_in _ ⟨by omega, by omega⟩
  clear HR4 hmk z0 z1 c0 c1 f0 f1 za0 za1 ca0 cb0
  generalize wordsF l = wl at *
  go_upto_region 4 with fail
  go_region
  go_wp2_with fail
  go_ret
  have e : more F w (((w4.setCell ⟨gp, 0, none⟩ (.slice ao' (l.length + 1) cp')).setCell ⟨gp, 1, none⟩ (.int .i64 ((wl : Int) + ((n : Int) + 1)))).drew) = more F w w4 := by
    funext b; simp [more]
  exact ⟨rfl, by rw [e]; exact HE.out.1, HE.out.2⟩
end Go.Proofs.YthmeafnofckoiaaDoor
