/- Layer 12, the reference over memory: a store. -/
import Derived.Test.YthmeafnofckoiaaDoorPrC
namespace Go.Proofs.YthmeafnofckoiaaDoor
open Go Go.RowKit
open Layertwelve (Ob trapF objN loadF storeF slotF wordsF shapeF makeF firstF slotsF goF reachF)

/-- A row that is not empty. -/
theorem own_some {w : World} {B e s n : Nat} {v : Value} {xs : List Value} (h : w.ownsRow B e s v n xs) (hn : 0 < n) : ∃ g c, v = .slice (some ⟨g, 0, none⟩) n c ∧ B ≤ g ∧ g < w.heap.size ∧ n ≤ c ∧ c ≤ maxLen := by
  rcases h.2 with ⟨_, h0⟩ | ⟨g, cap, cur, hv, hB, hg, h1, h2, _⟩
  · omega
  · exact ⟨g, cap, hv, hB, (Array.getElem?_eq_some_iff.1 hg).1, h1, h2⟩
/-- What a copy of an object's slots is. -/
theorem copy_ints {F : Nat → Prop} {w : World} {s : List Int} {b c : Nat} (h : InX F w s b) (hl : s.length ≤ 1000) : ∃ v1 w1, (Builtin.append_ #[60, 60] 60 #[.slice none 0 0, .slice (some ⟨b, 0, none⟩) s.length c]).run Tryd.prog w = .ok v1 w1 ∧ w1.ownsRow w.heap.size 2 1 v1 s.length (ints12 s) ∧ Below w.heap.size w w1 := by
  obtain ⟨i0, hi0, hiz, his, hib⟩ := info12_parts Tryd.info2
  obtain ⟨v1, w1, hr, own, grow, _, _⟩ := run_append_own_at (P := Tryd.prog) w w.heap.size 60 60 2 i0 _ 1 8 Tryd.underlying60 hi0 hiz his hib rfl (by decide) (.slice none 0 0) 0 [] (World.ownsRow_nil _ _ _ _) ⟨b, 0, none⟩ s.length c
    (ints12 s) (by simp) (fun j u hj => by
      rw [Addr.add_lit, Nat.zero_add]
      simp at hj
      obtain ⟨n, h1, rfl⟩ := hj
      exact h.2.2 j n h1) (fun u hu => by
      simp at hu
      obtain ⟨n, _, rfl⟩ := hu
      rfl) (by unfold maxLen; omega) (by omega) (Nat.le_refl _)
  rw [Nat.zero_add] at own
  exact ⟨v1, w1, hr, own, below_grown grow (Nat.le_refl _) (fun k hk => by cases hk)⟩
set_option maxHeartbeats 2000000 in
set_option maxRecDepth 20000 in
theorem rstore_any (l : List Ob) (id slot : Int) (p : Bool) (n : Int) (F : Nat → Prop) (v : Value) (w : World) (hX : ObjsX F w l v) (hs : ∀ o ∈ l, Sh o) (hF : ∀ b, F b → b < w.heap.size) (hl : l.length ≤ 1000) :
    Calls Tryd.prog 13 #[v, .int .i64 id, .int .i64 slot, .bool p, .int .i64 n] w fun e w' => ∃ v', e = .returned (.tuple #[v', .int .i64 (trapF has l id slot p)]) ∧ ObjsX F w' (storeF has l id slot p n) v' ∧ Below w.heap.size w w' := by
  have CT : Hid (Calls Tryd.prog 29 #[v, .int .i64 id, .int .i64 slot, .bool p] w fun e w' => e = .returned (.int .i64 (trapF has l id slot p)) ∧ Below w.heap.size w w') := hide (by
    obtain ⟨ao, c, rfl⟩ := hX.val
    exact rtrap_any l id slot p ao c w hX.read hs)
  by_cases h0 : trapF has l id slot p = 0
  · obtain ⟨i, k, rfl, rfl, hi, hk⟩ := trap_split hs h0
    have e := Layertwelve.objN_mem (l := l) (id := (i : Int) + 1) (by omega) (by omega)
    rw [show ((i : Int) + 1 - 1).toNat = i from by omega] at e
    have hx16 : (objN l ((i : Int) + 1)).2.length ≤ 16 := by
      have := hs _ (List.mem_of_getElem? e)
      rw [this.2.2]; exact this.1
    rw [h0] at CT
    rw [store_at h0, h0]
    -- what lies where, behind the check
    have HC : Hid (∀ w1, Below w.heap.size w w1 → ∃ g c b sc g2 c2 w2 g3 c3 w3 z, v = .slice (some ⟨g, 0, none⟩) l.length c ∧
        (Builtin.append_ #[26, 26] 26 #[.slice none 0 0, v]).run Tryd.prog w1 = .ok (.slice (some ⟨g2, 0, none⟩) l.length c2) w2 ∧
        w2.cell? ⟨g, i * 3 + 2, none⟩ = some (.slice (some ⟨b, 0, none⟩) (objN l ((i : Int) + 1)).2.length sc) ∧
        (Builtin.append_ #[60, 60] 60 #[.slice none 0 0, .slice (some ⟨b, 0, none⟩) (objN l ((i : Int) + 1)).2.length sc]).run Tryd.prog w2 = .ok (.slice (some ⟨g3, 0, none⟩) (objN l ((i : Int) + 1)).2.length c3) w3 ∧
        (w3.cell? ⟨g3, k, none⟩ = some (.int .i64 z) ∧ w3.frozen? ⟨g3, k, none⟩ = false) ∧
        ((w3.setCell ⟨g3, k, none⟩ (.int .i64 n)).cell? ⟨g, i * 3, none⟩ = some (.int .i64 ((objN l ((i : Int) + 1)).1.1 : Int)) ∧ (w3.setCell ⟨g3, k, none⟩ (.int .i64 n)).cell? ⟨g, i * 3 + 1, none⟩ = some (.int .i64 ((objN l ((i : Int) + 1)).1.2 : Int))) ∧
        (∃ z0 z1 z2, (w3.setCell ⟨g3, k, none⟩ (.int .i64 n)).cell? ⟨g2, i * 3, none⟩ = some z0 ∧ (w3.setCell ⟨g3, k, none⟩ (.int .i64 n)).cell? ⟨g2, i * 3 + 1, none⟩ = some z1 ∧ (w3.setCell ⟨g3, k, none⟩ (.int .i64 n)).cell? ⟨g2, i * 3 + 2, none⟩ = some z2) ∧
        (∀ j, (w3.setCell ⟨g3, k, none⟩ (.int .i64 n)).frozen? ⟨g2, j, none⟩ = false) ∧
        ObjsX F ((((w3.setCell ⟨g3, k, none⟩ (.int .i64 n)).setCell ⟨g2, i * 3, none⟩ (.int .i64 ((objN l ((i : Int) + 1)).1.1 : Int))).setCell ⟨g2, i * 3 + 1, none⟩ (.int .i64 ((objN l ((i : Int) + 1)).1.2 : Int))).setCell ⟨g2, i * 3 + 2, none⟩ (.slice (some ⟨g3, 0, none⟩) (objN l ((i : Int) + 1)).2.length c3)) (l.set i ((objN l ((i : Int) + 1)).1, (objN l ((i : Int) + 1)).2.set k n)) (.slice (some ⟨g2, 0, none⟩) l.length c2) ∧
        Below w.heap.size w ((((w3.setCell ⟨g3, k, none⟩ (.int .i64 n)).setCell ⟨g2, i * 3, none⟩ (.int .i64 ((objN l ((i : Int) + 1)).1.1 : Int))).setCell ⟨g2, i * 3 + 1, none⟩ (.int .i64 ((objN l ((i : Int) + 1)).1.2 : Int))).setCell ⟨g2, i * 3 + 2, none⟩ (.slice (some ⟨g3, 0, none⟩) (objN l ((i : Int) + 1)).2.length c3))) := hide (fun w1 b1 => by
      obtain ⟨v2, w2, raw, hr2, own2, raw2, bl2⟩ := copy_run (hX.below b1) hl
      obtain ⟨g2, c2, rfl, hg2, hg2s, hc2, hc2m⟩ := own_some own2 (by omega)
      rcases hX with ⟨rfl, _⟩ | ⟨g, c, rfl, q1, q2, q3, q4, q5⟩
      · simp at hi
      obtain ⟨b, sc, a1, a2, a3, a4, a5, a6, a7, a8⟩ := q5 i _ e
      have B2 : Below w.heap.size w w2 := b1.trans (bl2.mono b1.size)
      have hin2 : InX F w2 (objN l ((i : Int) + 1)).2 b := InX.below ⟨a4, a5, a6⟩ B2
      obtain ⟨v3, w3, hr3, own3, bl3⟩ := copy_ints (c := sc) hin2 (by omega)
      obtain ⟨g3, c3, rfl, hg3, hg3s, hc3, hc3m⟩ := own_some own3 (by omega)
      have B3 : Below w.heap.size w w3 := B2.trans (bl3.mono B2.size)
      have hs1 := b1.size
      have hs2 := bl2.size
      have B4 : Below w.heap.size w (w3.setCell ⟨g3, k, none⟩ (.int .i64 n)) := B3.setCell (p := ⟨g3, k, none⟩) (by show w.heap.size ≤ g3; omega) _
      have own4 := (own3.stored k (.int .i64 n)).1
      have own24 : (w3.setCell ⟨g3, k, none⟩ (.int .i64 n)).ownsRow w1.heap.size 62 3 (.slice (some ⟨g2, 0, none⟩) l.length c2) l.length raw := own_setCell (own_below bl3 _ _ _ _ _ _ own2) (fun h => by
        have h' : g2 = g3 := by simpa [Value.ownBlock] using h
        omega) _
      have hlen := own24.1
      have s0 := own24.cellAt (i * 3) (by omega)
      have s1 := own24.cellAt (i * 3 + 1) (by omega)
      have s2 := own24.cellAt (i * 3 + 2) (by omega)
      rw [List.getElem?_eq_getElem (by omega)] at s0 s1 s2
      have t3 := own3.cellAt k (by omega)
      have t3' : (ints12 (objN l ((i : Int) + 1)).2)[k]? = some (.int .i64 ((objN l ((i : Int) + 1)).2[k])) := by simp [hk]
      rw [t3'] at t3
      refine ⟨g, c, b, sc, g2, c2, w2, g3, c3, w3, (objN l ((i : Int) + 1)).2[k], rfl, hr2, (B2.cell (p := ⟨g, i * 3 + 2, none⟩) q3).trans a3, hr3, ⟨t3, own3.frozenAt k⟩, ⟨(B4.cell (p := ⟨g, i * 3, none⟩) q3).trans a1, (B4.cell (p := ⟨g, i * 3 + 1, none⟩) q3).trans a2⟩, ⟨_, _, _, s0, s1, s2⟩, fun j => own24.frozenAt j, ?_, ?_⟩
      · have o1 := (own24.stored (i * 3) (.int .i64 ((objN l ((i : Int) + 1)).1.1 : Int))).1
        have o2 := (o1.stored (i * 3 + 1) (.int .i64 ((objN l ((i : Int) + 1)).1.2 : Int))).1
        have o3 := (o2.stored (i * 3 + 2) (.slice (some ⟨g3, 0, none⟩) (objN l ((i : Int) + 1)).2.length c3)).1
        have B5 : Below w1.heap.size w1 ((((w3.setCell ⟨g3, k, none⟩ (.int .i64 n)).setCell ⟨g2, i * 3, none⟩ (.int .i64 ((objN l ((i : Int) + 1)).1.1 : Int))).setCell ⟨g2, i * 3 + 1, none⟩ (.int .i64 ((objN l ((i : Int) + 1)).1.2 : Int))).setCell ⟨g2, i * 3 + 2, none⟩ (.slice (some ⟨g3, 0, none⟩) (objN l ((i : Int) + 1)).2.length c3)) :=
          ((((bl2.trans (bl3.mono hs2)).setCell (p := ⟨g3, k, none⟩) (by show w1.heap.size ≤ g3; omega) _).setCell (p := ⟨g2, i * 3, none⟩) hg2 _).setCell (p := ⟨g2, i * 3 + 1, none⟩) hg2 _).setCell (p := ⟨g2, i * 3 + 2, none⟩) hg2 _
        have hne : g3 ≠ g2 := by omega
        have hin : InX F ((((w3.setCell ⟨g3, k, none⟩ (.int .i64 n)).setCell ⟨g2, i * 3, none⟩ (.int .i64 ((objN l ((i : Int) + 1)).1.1 : Int))).setCell ⟨g2, i * 3 + 1, none⟩ (.int .i64 ((objN l ((i : Int) + 1)).1.2 : Int))).setCell ⟨g2, i * 3 + 2, none⟩ (.slice (some ⟨g3, 0, none⟩) (objN l ((i : Int) + 1)).2.length c3)) ((objN l ((i : Int) + 1)).2.set k n) g3 := by
          refine ⟨by simpa using hg3s, fun f => by have := hF _ f; omega, fun j z hj => ?_⟩
          have hj2 := (List.getElem?_eq_some_iff.1 hj).1
          rw [World.cell?_of_block (w := w3.setCell ⟨g3, k, none⟩ (.int .i64 n)) (by rw [Below.heap_setCell _ _ _ _ hne, Below.heap_setCell _ _ _ _ hne, Below.heap_setCell _ _ _ _ hne])]
          rw [own4.cellAt j (by simp at hj2; omega)]
          have e5 : (ints12 (objN l ((i : Int) + 1)).2).set k (.int .i64 n) = ints12 ((objN l ((i : Int) + 1)).2.set k n) := by simp [ints12, List.map_set]
          rw [e5]
          show (List.map (Value.int .i64) ((objN l ((i : Int) + 1)).2.set k n))[j]? = _
          rw [List.getElem?_map, hj]; rfl
        have hR := (raw2.below B5).put hi ((objN l ((i : Int) + 1)).1, (objN l ((i : Int) + 1)).2.set k n) g3 c3 hin (by simpa using hc3) hc3m
        have e6 : (((objN l ((i : Int) + 1)).1, (objN l ((i : Int) + 1)).2.set k n) : Ob).2.length = (objN l ((i : Int) + 1)).2.length := by simp
        rw [e6] at hR
        exact RawF.objs hR (by rw [List.length_set]; exact o3) (fun b hb => by have := hF b hb; omega)
      · exact ((B4.setCell (p := ⟨g2, i * 3, none⟩) (by show w.heap.size ≤ g2; omega) _).setCell (p := ⟨g2, i * 3 + 1, none⟩) (by show w.heap.size ≤ g2; omega) _).setCell (p := ⟨g2, i * 3 + 2, none⟩) (by show w.heap.size ≤ g2; omega) _)
    have hilI : (i : Int) < (l.length : Int) := by omega
    have hkI : (k : Int) < ((objN l ((i : Int) + 1)).2.length : Int) := by omega
    have hw : IntKind.i64.wrap ((i : Int) + 1 - 1) = (i : Int) := by rw [IntWalk.i64_in _ ⟨by omega, by omega⟩]; omega
    clear hX hs hF h0 e hi hk
    generalize l.set i ((objN l ((i : Int) + 1)).1, (objN l ((i : Int) + 1)).2.set k n) = L2 at *
    generalize objN l ((i : Int) + 1) = x at *
    obtain ⟨⟨xn, xm⟩, xs⟩ := x
    generalize xs.length = xl at *
    generalize l.length = ln at *
    go_enter Tryd.func13, Tryd.ntmps13
    go_wp2_with fail
    refine CT.out.mono ?_; rintro e w1 ⟨rfl, b1⟩
    obtain ⟨g, c, b, sc, g2, c2, w2, g3, c3, w3, z, rfl, hr2, d2, hr3, ⟨d3, f3⟩, ⟨d4, d5⟩, ⟨z0, z1, z2, d6, d7, d8⟩, f4, hE⟩ := HC.out w1 b1
    have HR2 := hide hr2
    have HR3 := hide hr3
    have HE := hide hE
    clear HC CT b1 hr2 hr3 hE
    have f40 := f4 (i * 3)
    have f41 := f4 (i * 3 + 1)
    have f42 := f4 (i * 3 + 2)
    clear f4
    go_upto_region 6 with (at_builtin; refine wpList_run rfl (.tmp 24) (.tmp 25) 26 rfl _ _ rfl rfl _ w2 HR2.out ?_)
    go_upto_region 8 with (at_builtin; refine wpList_run rfl (.tmp 27) (.tmp 33) 60 rfl _ _ rfl rfl _ w3 HR3.out ?_)
    go_upto_region 9 with fail
    show Code.wp _ _ _ _ (w3.setCell ⟨g3, k, none⟩ (.int .i64 n))
    generalize w3.setCell ⟨g3, k, none⟩ (.int .i64 n) = w4 at *
    go_wp2_with fail
    exact bodyPost_ret (v := .tuple #[_, _]) (by simp [results, Tryd.results13, go_sem]) rfl ⟨_, rfl, HE.out⟩
  · rw [store_no h0]
    have HE := hide (fun w1 (bl : Below w.heap.size w w1) => And.intro (hX.below bl) bl)
    generalize trapF has l id slot p = t at *
    have k1 : (t == 0) = false := by simpa using h0
    have k2 : (t != 0) = true := by simpa using h0
    clear hX hs hF h0
    go_enter Tryd.func13, Tryd.ntmps13
    go_wp2_with fail
    refine CT.out.mono ?_; rintro e w1 ⟨rfl, b1⟩
    have HE2 := hide (HE.out w1 b1)
    clear b1 CT HE
    go_wp2_with fail
    exact bodyPost_ret (v := .tuple #[_, _]) (by simp [results, Tryd.results13, go_sem]) rfl ⟨_, rfl, HE2.out⟩
end Go.Proofs.YthmeafnofckoiaaDoor
