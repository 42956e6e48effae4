/- Layer 12, the program over memory: all objects are taken away. -/
import Derived.Test.YthmeafnofckoiaaDoorPmE
import Derived.Laws.OwnMore
import Derived.Deep.OwnRows
namespace Go.Proofs.YthmeafnofckoiaaDoor
open Go Go.RowKit
open Layertwelve (Ob trapF objN loadF storeF slotF wordsF shapeF makeF firstF slotsF goF reachF)

theorem Tryd.info66 : (Tryd.prog.info? 66).map (fun i => (i.zero, i.size, i.bytes)) = some (some (obV 0 0 (.slice none 0 0)), 3, 40) := by kernel_rfl
theorem Tryd.info62 : (Tryd.prog.info? 62).map (fun i => (i.zero, i.size, i.bytes)) = some (some (obV 0 0 (.slice none 0 0)), 3, 40) := by kernel_rfl
theorem Tryd.info2 : (Tryd.prog.info? 2).map (fun i => (i.zero, i.size, i.bytes)) = some (some (.int .i64 0), 1, 8) := by kernel_rfl
theorem Tryd.info4 : (Tryd.prog.info? 4).map (fun i => (i.zero, i.size, i.bytes)) = some (some (.bool false), 1, 1) := by kernel_rfl
theorem info12_parts {P : Program} {t : TypeId} {z : Value} {s b : Nat} (h : (P.info? t).map (fun i => (i.zero, i.size, i.bytes)) = some (some z, s, b)) : ∃ i, P.info? t = some i ∧ i.zero = some z ∧ i.size = s ∧ i.bytes = b := by
  obtain ⟨i, hi, hz⟩ := Option.map_eq_some_iff.1 h
  simp only [Prod.mk.injEq] at hz
  exact ⟨i, hi, hz.1, hz.2.1, hz.2.2⟩
/-- Cleared: the row's cells are others, its size stays. -/
theorem run_clear_row {P : Program} (w : World) (t e ty : TypeId) (z : Value) (s : Nat) (ht : P.underlying t = some (.slice e)) (hv : ∀ w, (zeroValue e).run P w = .ok z w) (hs : z.cells.size = s) (h1 : ∀ u ∈ z.cells, u.oneCell' = true) (g n c : Nat) (hn : 0 < n) (h0 : 0 < s)
    (cur : Array Value) (hg : w.heap[g]? = some (.cells cur e (0, 0))) (hc : n * s ≤ cur.size) :
    ∃ cur', (Builtin.clear_ #[t] ty #[.slice (some ⟨g, 0, none⟩) n c]).run P w = .ok (.tuple #[]) (w.setRow g cur') ∧ cur'.size = cur.size := by
  have hl : (Builtin.zeroCells z.cells n).toList.length = n * s := by rw [Array.length_toList, size_zeroCells, hs]
  have hst := run_storeCells_at P g 0 e (Builtin.zeroCells z.cells n).toList 0 cur w hg (by rw [hl]; omega) (by
    intro v hv'
    simp only [Builtin.zeroCells, Array.toList_map, List.mem_map] at hv'
    obtain ⟨j, _, rfl⟩ := hv'
    have hlt : j % z.cells.size < z.cells.size := Nat.mod_lt _ (by omega)
    rw [getElem!_pos z.cells _ hlt]
    exact h1 _ (Array.getElem_mem hlt))
  obtain ⟨q, hq⟩ : ∃ q, q = (cur.toList.take (0 + 0) ++ (Builtin.zeroCells z.cells n).toList ++ cur.toList.drop (0 + 0 + (Builtin.zeroCells z.cells n).toList.length)).toArray := ⟨_, rfl⟩
  rw [← hq] at hst
  refine ⟨q, ?_, ?_⟩
  · obtain ⟨m, rfl⟩ : ∃ m, n = m + 1 := ⟨n - 1, by omega⟩
    simp [Builtin.clear_, run_underlying ht, hv, hst]
  · rw [hq]
    simp only [List.size_toArray, List.length_append, List.length_take, List.length_drop, hl, Array.length_toList]
    omega
theorem zero66 (w : World) : (zeroValue 66).run Tryd.prog w = .ok (obV 0 0 (.slice none 0 0)) w := by
  obtain ⟨i, hi, hz, _, _⟩ := info12_parts Tryd.info66
  simp [zeroValue, typeInfo, hi, hz]
theorem put_gp {w : World} {gp : Nat} {a b x : Value} {t : TypeId} (h : w.heap[gp]? = some (.cells #[a, b] t (0, 0))) : (w.setCell ⟨gp, 0, none⟩ x).heap[gp]? = some (.cells #[x, b] t (0, 0)) := by
  have := heap_setCell_same w gp 0 _ t x h
  simpa using this
theorem put_gp1 {w : World} {gp : Nat} {a b x : Value} {t : TypeId} (h : w.heap[gp]? = some (.cells #[a, b] t (0, 0))) : (w.setCell ⟨gp, 1, none⟩ x).heap[gp]? = some (.cells #[a, x] t (0, 0)) := by
  have := heap_setCell_same w gp 1 _ t x h
  simpa using this
/-- What is left behind: no objects. -/
theorem wiped {w w1 : World} {B gp g : Nat} {l : List Ob} {F : Nat → Prop} {v v' : Value} {ss : List Nat} (h1 : PoolW w B gp l v ss) (h2 : ∀ b, Foot gp v ss b → F b) (h3 : ∀ b, F b → B ≤ b ∧ b < w.heap.size)
    (k1 : w1.heap[gp]? = w.heap[gp]?) (k2 : Kf F w w1) (own : w1.ownsRow B 66 3 v' 0 []) (hv : v'.ownBlock = none ∨ (v'.ownBlock = some g ∧ v.ownBlock = some g)) :
    PoolF ((w1.setCell ⟨gp, 0, none⟩ v').setCell ⟨gp, 1, none⟩ (.int .i64 0)) B gp [] F ∧ Kf F w ((w1.setCell ⟨gp, 0, none⟩ v').setCell ⟨gp, 1, none⟩ (.int .i64 0)) := by
  have hgF : F gp := h2 gp (.inl rfl)
  have hne : v'.ownBlock ≠ some gp := fun e => by
    obtain ⟨c, hc⟩ := own_kind own e
    rw [k1, h1.2.1] at hc
    injection hc with hc; injection hc with _ hc; exact absurd hc (by decide)
  refine ⟨⟨⟨v', [], ⟨h1.1, ?_, own_setCell (own_setCell own hne _) hne _, rfl, by simp, fun i o b h => by simp at h⟩, fun b hb => ?_⟩, fun b hb => ⟨(h3 b hb).1, ?_⟩⟩, ?_⟩
  · exact put_gp1 (put_gp (k1.trans h1.2.1))
  · rcases hb with rfl | hb | hb
    · exact hgF
    · rcases hv with hv | ⟨hv, hv2⟩
      · rw [hv] at hb; cases hb
      · rw [hv] at hb; cases hb; exact h2 _ (.inr (.inl hv2))
    · cases hb
  · have := (h3 b hb).2
    have := k2.2.2.2.1
    simp; omega
  · refine ⟨k2.1, k2.2.1, k2.2.2.1, by simpa using k2.2.2.2.1, fun k hk hf => ?_⟩
    have : k ≠ gp := fun e => hf (e ▸ hgF)
    rw [Below.heap_setCell _ _ _ _ this, Below.heap_setCell _ _ _ _ this]
    exact k2.2.2.2.2 k hk hf
set_option maxHeartbeats 1000000 in
set_option maxRecDepth 20000 in
theorem pwipe_any (l : List Ob) (B gp : Nat) (F : Nat → Prop) (w : World) (h : PoolF w B gp l F) :
    Calls Tryd.prog 15 #[.pointer (some ⟨gp, 0, none⟩)] w fun e w' => e = .returned (.tuple #[]) ∧ PoolF w' B gp [] F ∧ Kf F w w' := by
  obtain ⟨⟨v, ss, h1, h2⟩, h3⟩ := h
  obtain ⟨c0, c1, f0, f1⟩ := two_cells h1.2.1
  rcases h1.2.2.1.2 with ⟨hv, hn⟩ | ⟨g, cap, cur, hv, hbb, hg, hc1, hc2, hc3, hc4⟩
  · have HE := hide (wiped (g := 0) (v' := .slice none 0 0) h1 h2 h3 rfl ⟨rfl, rfl, rfl, Nat.le_refl _, fun _ _ _ => rfl⟩ (World.ownsRow_nil _ _ _ _) (.inl rfl))
    subst hv
    have hcl : ∀ ty, (Builtin.clear_ #[56] ty #[.slice none 0 0]).run Tryd.prog w = .ok (.tuple #[]) w := fun ty => by simp [Builtin.clear_, run_underlying Tryd.underlying56]
    clear h1 h2 h3 hn
    go_enter Tryd.func15, Tryd.ntmps15
    go_wp2_with fail
    go_end0
    exact ⟨rfl, HE.out⟩
  · subst hv
    by_cases hn : l.length = 0
    · have HE := hide (wiped (g := g) (v' := .slice (some ⟨g, 0, none⟩) 0 cap) h1 h2 h3 rfl ⟨rfl, rfl, rfl, Nat.le_refl _, fun _ _ _ => rfl⟩ ⟨by simp, .inr ⟨g, cap, cur, rfl, hbb, hg, Nat.zero_le _, hc2, hc3, by simp⟩⟩ (.inr ⟨rfl, rfl⟩))
      rw [hn] at c0
      have hcl : ∀ ty, (Builtin.clear_ #[56] ty #[.slice (some ⟨g, 0, none⟩) 0 cap]).run Tryd.prog w = .ok (.tuple #[]) w := fun ty => by simp [Builtin.clear_, run_underlying Tryd.underlying56]
      clear h1 h2 h3 hn hc1 hc4
      go_enter Tryd.func15, Tryd.ntmps15
      go_wp2_with fail
      go_end0
      exact ⟨rfl, HE.out⟩
    · obtain ⟨cur', hr, hsz⟩ := run_clear_row (P := Tryd.prog) w 56 66 0 (obV 0 0 (.slice none 0 0)) 3 Tryd.underlying56 zero66 rfl (by decide) g l.length cap (by omega) (by omega) cur hg (by rw [hc3]; omega)
      have hgF : F g := h2 g (.inr (.inl rfl))
      have hgp : gp ≠ g := fun e => by
        have := h1.2.1
        rw [e, hg] at this
        injection this with this; injection this with _ this; exact absurd this (by decide)
      have k1 : (w.setRow g cur').heap[gp]? = w.heap[gp]? := setRow_other w g gp _ hgp
      have HE := hide (wiped (w1 := w.setRow g cur') (g := g) (v' := .slice (some ⟨g, 0, none⟩) 0 cap) h1 h2 h3 k1 ⟨rfl, rfl, rfl, by simp, fun k _ hf => setRow_other w g k _ (fun e => hf (e ▸ hgF))⟩ ⟨by simp, .inr ⟨g, cap, cur', rfl, hbb, setRow_heap w g cur _ 66 _ hg, Nat.zero_le _, hc2, by omega, by simp⟩⟩ (.inr ⟨rfl, rfl⟩))
      obtain ⟨d0, d1, e0, e1⟩ := two_cells (k1.trans h1.2.1)
      generalize w.setRow g cur' = W at *
      generalize l.length = ln at *
      clear h1 h2 h3 hn hc1 hc4 k1 hgp hgF
      go_enter Tryd.func15, Tryd.ntmps15
      go_wp2_with fail
      go_end0
      exact ⟨rfl, HE.out⟩
end Go.Proofs.YthmeafnofckoiaaDoor
