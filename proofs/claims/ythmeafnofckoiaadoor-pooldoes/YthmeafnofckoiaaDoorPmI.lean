/- Layer 12, the program over memory: what is reached. -/
import Derived.Test.YthmeafnofckoiaaDoorPmH
namespace Go.Proofs.YthmeafnofckoiaaDoor
open Go Go.RowKit
open Layertwelve (Ob trapF objN loadF storeF slotF wordsF shapeF makeF firstF slotsF goF reachF Ok)

theorem firstF_meet {n : Nat} (a : List Int) (x : Int) (out : List Int) : firstF n (a ++ [x]) out = meetF n x (firstF n a out) := firstF_snoc a x out
theorem slotsF_meet {n : Nat} {o : Ob} {k s : Nat} {out : List Int} (h : has o.1.1 o.1.2 (s : Int) = true) : slotsF has n o (k + 1) s out = slotsF has n o k (s + 1) (meetF n (o.2.getD s 0) out) := by
  show slotsF has n o k (s + 1) _ = _
  congr 1
  unfold meetF
  by_cases hc : 1 ≤ o.2.getD s 0 ∧ o.2.getD s 0 ≤ (n : Int) ∧ o.2.getD s 0 ∉ out
  · rw [if_pos hc, if_pos ⟨h, hc⟩]
  · rw [if_neg hc, if_neg (fun q => hc q.2)]
theorem slotsF_pass {n : Nat} {o : Ob} {k s : Nat} {out : List Int} (h : has o.1.1 o.1.2 (s : Int) = false) : slotsF has n o (k + 1) s out = slotsF has n o k (s + 1) out := by
  show slotsF has n o k (s + 1) _ = _
  rw [if_neg (fun q => by rw [h] at q; exact absurd q.1 (by decide))]
theorem Ok.meet {n : Nat} {x : Int} {out : List Int} (h : Ok n out) : Ok n (meetF n x out) := by
  unfold meetF
  split
  · rename_i hc; exact Layertwelve.Ok.add h ⟨hc.1, hc.2.1⟩ hc.2.2
  · exact h
theorem meet_len {n : Nat} {x : Int} {out : List Int} : out.length ≤ (meetF n x out).length := by
  unfold meetF; split <;> simp
theorem false_row (n : Nat) : madeCells #[Value.bool false] n = metRow n [] := by
  apply Array.ext'
  rw [toList_madeCells_one]
  unfold metRow
  apply List.ext_getElem?
  intro i
  by_cases h : i < n
  · simp [h]
  · simp [h]
/-- Whatever order is drawn: the same end, but for a block's number and the world. -/
theorem wp_some {P : Program} {c : Code} {Q : Exit → Act → World → Prop} {a : Act} {w : World} {A : Nat → Act} (S : Nat → World → Prop) (hr : ∀ (K : Act → World → Prop), (∀ b w', S b w' → K (A b) w') → c.wp P (Exit.then K (fun _ _ _ => False)) a w) (h : ∀ b w', S b w' → Q .normal (A b) w') : c.wp P Q a w :=
  Code.wp_mono (fun e a w q => by
    unfold Exit.then at q
    split at q
    · obtain ⟨b, hs, rfl⟩ := q; exact h b _ hs
    · exact q.elim) (hr (fun a' w' => ∃ b, S b w' ∧ a' = A b) (fun b w' hs => ⟨b, hs, rfl⟩))
/-- A box for an object was made. -/
def Made3 (wr : World) (x y z : Value) (b : Nat) (w' : World) : Prop := wr.heap.size ≤ b ∧ b < w'.heap.size ∧ Below wr.heap.size wr w' ∧ w'.heap[b]? = some (.cells #[x, y, z] 66 (0, 0))
theorem three_cells {w : World} {c : Nat} {x y z : Value} {t : TypeId} (h : w.heap[c]? = some (.cells #[x, y, z] t (0, 0))) : (w.cell? ⟨c, 0, none⟩ = some x ∧ w.cell? ⟨c, 1, none⟩ = some y ∧ w.cell? ⟨c, 2, none⟩ = some z) ∧ w.frozen? ⟨c, 0, none⟩ = false ∧ w.frozen? ⟨c, 1, none⟩ = false ∧ w.frozen? ⟨c, 2, none⟩ = false := by
  simp [World.cell?, World.frozen?, h]
theorem made3_new {wr w1 : World} (x y z : Value) (b : Below wr.heap.size wr w1) : Made3 wr x y z w1.heap.size (w1.alloc (.cells #[x, y, z] 66)) :=
  ⟨b.size, by simp, b.alloc b.size _, heap_alloc_new _ _⟩
theorem made3_set {wr w1 : World} {p q r : Value} {b : Nat} (x y z : Value) (h : Below wr.heap.size wr w1) (hb : wr.heap.size ≤ b) (hc : w1.heap[b]? = some (.cells #[p, q, r] 66 (0, 0))) : Made3 wr x y z b (((w1.setCell ⟨b, 0, none⟩ x).setCell ⟨b, 1, none⟩ y).setCell ⟨b, 2, none⟩ z) := by
  refine ⟨hb, by simpa using (Array.getElem?_eq_some_iff.1 hc).1, ((h.setCell (p := ⟨b, 0, none⟩) hb _).setCell (p := ⟨b, 1, none⟩) hb _).setCell (p := ⟨b, 2, none⟩) hb _, ?_⟩
  have e1 := heap_setCell_same w1 b 0 _ 66 x hc
  have e2 := heap_setCell_same _ b 1 _ 66 y e1
  have e3 := heap_setCell_same _ b 2 _ 66 z e2
  simpa using e3
/-- The first world. -/
def reach0 (w : World) (n gp : Nat) : World := (((w.alloc (.cells #[.pointer (some ⟨gp, 0, none⟩)] 24)).alloc (.cells #[.slice none 0 0] 48)).alloc (.cells (madeCells #[.bool false] n) 4)).alloc (.cells #[.slice (some ⟨w.heap.size + 2, 0, none⟩) n n] 73)
theorem reach0_rs (w : World) (n gp : Nat) : RS w n gp w.heap.size (w.heap.size + 3) (w.heap.size + 1) (w.heap.size + 2) [] [] (.slice none 0 0) (reach0 w n gp) := by
  unfold reach0
  have a1 := heap_alloc_new w (.cells #[.pointer (some ⟨gp, 0, none⟩)] 24)
  have b1 := below_box w (.cells #[.pointer (some ⟨gp, 0, none⟩)] 24)
  have s1 : (w.alloc (.cells #[.pointer (some ⟨gp, 0, none⟩)] 24)).heap.size = w.heap.size + 1 := by simp
  generalize w.alloc (.cells #[.pointer (some ⟨gp, 0, none⟩)] 24) = w1 at *
  have a2 := heap_alloc_new w1 (.cells #[.slice none 0 0] 48)
  have b2 := below_box w1 (.cells #[.slice none 0 0] 48)
  have s2 : (w1.alloc (.cells #[.slice none 0 0] 48)).heap.size = w.heap.size + 2 := by simp [s1]
  generalize w1.alloc (.cells #[.slice none 0 0] 48) = w2 at *
  rw [false_row]
  have a3 := heap_alloc_new w2 (.cells (metRow n []) 4)
  have b3 := below_box w2 (.cells (metRow n []) 4)
  have s3 : (w2.alloc (.cells (metRow n []) 4)).heap.size = w.heap.size + 3 := by simp [s2]
  generalize w2.alloc (.cells (metRow n []) 4) = w3 at *
  have a4 := heap_alloc_new w3 (.cells #[.slice (some ⟨w.heap.size + 2, 0, none⟩) n n] 73)
  have b4 := below_box w3 (.cells #[.slice (some ⟨w.heap.size + 2, 0, none⟩) n n] 73)
  generalize w3.alloc (.cells #[.slice (some ⟨w.heap.size + 2, 0, none⟩) n n] 73) = w4 at *
  rw [s1] at a2 b2
  rw [s2] at a3 b3
  rw [s3] at a4 b4
  refine ⟨b1.trans ((b2.mono (by omega)).trans ((b3.mono (by omega)).trans (b4.mono (by omega)))), ⟨by omega, by omega, by omega, by omega⟩, ?_, a4, ?_, ?_, World.ownsRow_nil _ _ _ _⟩
  · exact (b4.block _ (by omega)).trans ((b3.block _ (by omega)).trans ((b2.block _ (by omega)).trans a1))
  · exact (b4.block _ (by omega)).trans a3
  · exact (b4.block _ (by omega)).trans ((b3.block _ (by omega)).trans a2)
set_option maxHeartbeats 8000000 in
set_option maxRecDepth 20000 in
theorem preach_any (l : List Ob) (from_ : List Int) (gp : Nat) (fo : Option Addr) (fc : Nat) (w : World) (hp : PoolR w l gp) (hs : ∀ o ∈ l, Sh o) (ht : Tab w) (hl : l.length ≤ 1000) (hf : IntsR w from_ fo) (hfl : from_.length ≤ 1000) :
    Calls Tryd.prog 24 #[.pointer (some ⟨gp, 0, none⟩), .slice fo from_.length fc] w fun e w' => ∃ v, e = .returned v ∧ OutR w (reachF has l from_) v w' := by
  have hmf : ∀ (fn : Fn) (first cap : Array Value) (w : World), (Instr.makeFunc fn first cap).run Tryd.prog w = .ok (.func fn first cap) w := fun _ _ _ _ => rfl
  have hmk : ∀ w, (Instr.makeSlice 73 (.int .i64 (l.length : Int)) (.int .i64 (l.length : Int))).run Tryd.prog w = .ok (.slice (some ⟨w.heap.size, 0, none⟩) l.length l.length) (w.alloc (.cells (madeCells #[.bool false] l.length) 4)) := fun w => run_make_row' (P := Tryd.prog) 73 4 (.bool false) 1 Tryd.underlying73 Tryd.info4 rfl .i64 .i64 l.length (by omega) (by omega) w
  have HL := hide (fun w' (b : Below w.heap.size w w') => plen_any l gp w' (hp.below b))
  have HR0 := hide (reach0_rs w l.length gp)
  have HF : Hid (∀ i, i < from_.length → ∃ b o, fo = some ⟨b, o, none⟩ ∧ ∀ w', Below w.heap.size w w' → w'.cell? ⟨b, o + i, none⟩ = some (.int .i64 (from_.getD i 0))) := hide (fun i hi => by
    rcases hf with h | ⟨b, o, e, hb, h⟩
    · subst h; simp at hi
    · exact ⟨b, o, e, fun w' bl => (bl.cell (p := ⟨b, o + i, none⟩) hb).trans (h i _ (by rw [List.getD_eq_getElem?_getD, List.getElem?_eq_getElem hi]; rfl))⟩)
  have HMeet := hide (fun (x : Int) (bp bm br gm : Nat) (out : List Int) (v : Value) (wr : World) (ho : Ok l.length out) (h : RS w l.length gp bp bm br gm out out v wr) => meet_any l x gp bp bm br gm out v w wr hp hl ho h)
  have HOk : Hid (∀ i, Ok l.length (firstF l.length (from_.take i) [])) := hide (fun i => (Layertwelve.first_ok (n := l.length) (from_.take i) [] ⟨by simp, by simp⟩).1)
  have HT : Hid (∀ i, i < from_.length → firstF l.length (from_.take (i + 1)) [] = meetF l.length (from_.getD i 0) (firstF l.length (from_.take i) [])) := hide (fun i hi => by
    rw [List.take_add_one, List.getElem?_eq_getElem hi]
    simp only [Option.toList_some]
    rw [firstF_meet, List.getD_eq_getElem?_getD, List.getElem?_eq_getElem hi]; rfl)
  have HTl : Hid (from_.take from_.length = from_) := hide List.take_length
  obtain ⟨R0, hR0⟩ : ∃ r, r = reachF has l from_ := ⟨_, rfl⟩
  rw [← hR0]
  have HRe := hide hR0
  clear hR0
  have HP := hide hp
  have HS := hide hs
  have HTab := hide ht
  clear hf hp hs ht
  obtain ⟨fl, hfle⟩ : ∃ n, n = from_.length := ⟨_, rfl⟩
  rw [← hfle] at HF HT HTl hfl ⊢
  clear hfle
  obtain ⟨bp, hbp⟩ : ∃ n, n = w.heap.size := ⟨_, rfl⟩
  go_enter Tryd.func24, Tryd.ntmps24
  go_wp2_with fail
  refine (HL.out _ ((Below.refl _ _).alloc (Nat.le_refl _) _ |>.alloc (by simp) _)).mono ?_; rintro e w1 ⟨rfl, hw1⟩
  rw [hw1]
  clear hw1 HL
  go_upto_region 3 with fail
  show Code.wp _ _ _ _ (reach0 w l.length gp)
  generalize reach0 w l.length gp = W at *
  go_wp2_with fail
  go_loopw [21] (fun iv wr => ∃ i : Nat, i ≤ fl ∧ iv = .int .i64 i ∧ Hid (∃ v, RS w l.length gp w.heap.size (w.heap.size + 3) (w.heap.size + 1) (w.heap.size + 2) (firstF l.length (from_.take i) []) (firstF l.length (from_.take i) []) v wr)) (fun iv _ => fl - (intOf iv).toNat)
  case atStart => exact ⟨0, Nat.zero_le _, rfl, hide ⟨_, HR0.out⟩⟩
  case round =>
    obtain ⟨i, hi, rfl, HV⟩ := hrel
    obtain ⟨v, R⟩ := HV.out
    by_cases hit : i < fl
    · have hiI : (i : Int) < fl := by omega
      obtain ⟨b, o, rfl, d⟩ := HF.out i hit
      have d0 := d wr R.1
      have HC := hide (HMeet.out (from_.getD i 0) _ _ _ _ _ v wr (HOk.out i) R)
      rw [← HT.out i hit] at HC
      clear R d HV
      generalize from_.getD i 0 = x at *
      go_wp2_with fail
      refine HC.out.mono ?_; rintro e w2 ⟨rfl, _, v2, R2⟩
      have HR2 := hide R2
      clear R2 HC
      go_wp2_with fail
      go_roundw
      case rel => exact ⟨i + 1, by omega, by go_num, hide ⟨v2, HR2.out⟩⟩
      case measure => simp [intOf]; omega
    · obtain rfl : i = fl := by omega
      rw [HTl.out] at R
      have HO1 := HOk.out i
      rw [HTl.out] at HO1
      replace HO1 := hide HO1
      clear HV HF HT HTl HOk HR0 hmk
      have HG0 : Hid (goF has l (l.length + 1 - 0) 0 (firstF l.length from_ []) = R0) := hide (by rw [HRe.out]; rfl)
      have HR := hide R
      clear R
      generalize firstF l.length from_ [] = out0 at *
      clear HRe
      go_wp2_with fail
      go_loopw [10] (fun nv wr => ∃ (k : Nat) (out : List Int), nv = .int .i64 k ∧ k ≤ out.length ∧ Hid (Ok l.length out) ∧ Hid (∃ v, RS w l.length gp w.heap.size (w.heap.size + 3) (w.heap.size + 1) (w.heap.size + 2) out out v wr) ∧ Hid (goF has l (l.length + 1 - k) k out = R0)) (fun nv _ => l.length + 1 - (intOf nv).toNat)
      case atStart => exact ⟨0, out0, rfl, Nat.zero_le _, HO1, hide ⟨v, HR.out⟩, HG0⟩
      case round =>
        obtain ⟨k, out, rfl, hk, HO, HV, HG⟩ := hrel
        clear HR HG0 HO1
        obtain ⟨v2, R2⟩ := HV.out
        clear HV
        have hlen := HO.out.len
        obtain ⟨vo, vc, hv⟩ := own12_len R2.2.2.2.2.2.2
        subst hv
        obtain ⟨q0, q1, q2, q3, q4⟩ := R2.cells
        by_cases hkt : k < out.length
        · have hkI : (k : Int) < (out.length : Int) := by omega
          have hx := HO.out.2 (out.getD k 0) (List.mem_of_getElem? (show out[k]? = some (out.getD k 0) by rw [List.getD_eq_getElem?_getD, List.getElem?_eq_getElem hkt]; rfl))
          rcases ints_row R2.2.2.2.2.2.2 with e | ⟨rb, ro, rfl, hrb, hrc⟩
          · subst e; simp at hkt
          have d0 := hrc k (out.getD k 0) (by rw [List.getD_eq_getElem?_getD, List.getElem?_eq_getElem hkt]; rfl)
          clear hrc q4 q1 q3
          obtain ⟨ao, c, c0, c1, hg, hob⟩ := HP.out
          obtain ⟨g, o, i, hi, rfl, hgg, hmem, hobj⟩ := objs_at hob (id := out.getD k 0) hx.1 hx.2
          obtain ⟨n1, n2, n3⟩ := HS.out _ hmem
          obtain ⟨so, sc, e0, e1, e2, e3, _⟩ := hobj
          have hil : i < l.length := by omega
          have HFd := hide (fun w' (bl : Below w.heap.size w w') => find_yes i gp l.length c g o _ _ so _ sc w' ((bl.cell (p := ⟨gp, 0, none⟩) hg).trans c0) (Nat.lt_of_lt_of_le hg bl.size) (by unfold maxLen; omega) hil (Nat.lt_of_lt_of_le hgg bl.size) ((bl.cell (p := ⟨g, o + i * 3, none⟩) hgg).trans e0) ((bl.cell (p := ⟨g, o + i * 3 + 1, none⟩) hgg).trans e1) ((bl.cell (p := ⟨g, o + i * 3 + 2, none⟩) hgg).trans e2))
          have HG2 : Hid (goF has l (l.length + 1 - (k + 1)) (k + 1) (slotsF has l.length (objN l (out.getD k 0)) (objN l (out.getD k 0)).2.length 0 out) = R0) := hide (by
            rw [← HG.out]
            have e : l.length + 1 - k = (l.length + 1 - (k + 1)) + 1 := by omega
            rw [e]
            show _ = (if k < out.length then _ else _)
            rw [if_pos hkt])
          have hxe : out.getD k 0 = (i : Int) + 1 := by omega
          rw [hxe] at HFd HG2 d0 e3 n1 n2 n3
          clear hi hmem hob c0 c1 e0 e1 e2 hx HG hxe
          generalize objN l ((i : Int) + 1) = xo at *
          have HFe : Hid (∀ w', Below wr.heap.size wr w' → Calls Tryd.prog 30 #[.pointer (some ⟨gp, 0, none⟩), .int .i64 ((i : Int) + 1)] w' fun e w1 => e = .returned (.tuple #[obV xo.1.1 xo.1.2 (.slice so xo.2.length sc), .bool true]) ∧ Below wr.heap.size wr w1 ∧ ∀ q, q < w'.heap.size → w1.heap[q]? = w'.heap[q]?) := hide (fun w' bl => (HFd.out w' (below_step R2.1 bl)).mono fun e w1 q => ⟨q.1, bl.trans (q.2.mono bl.size), fun j hj => q.2.block j hj⟩)
          have hxl : xo.2.length ≤ 16 := by omega
          have HE3 := hide (fun (s : Nat) (hs : s < xo.2.length) (w' : World) (bl : Below w.heap.size w w') => show ∃ b p, so = some ⟨b, p, none⟩ ∧ w'.cell? ⟨b, p + s, none⟩ = some (.int .i64 (xo.2.getD s 0)) by
            rcases e3 with q | ⟨b, p, q1, q2, q3⟩
            · rw [q] at hs; simp at hs
            · exact ⟨b, p, q1, (bl.cell (p := ⟨b, p + s, none⟩) q2).trans (q3 s _ (by rw [List.getD_eq_getElem?_getD, List.getElem?_eq_getElem hs]; rfl))⟩)
          have HPt := hide (fun (s : Int) (w' : World) (bl : Below w.heap.size w w') => pointer_any xo.1.1 xo.1.2 s w' n1 n2 (HTab.out.below bl))
          have HR2 := hide R2
          clear HFd n1 n2 n3 e3 R2
          obtain ⟨xl, hxe2⟩ : ∃ n, n = xo.2.length := ⟨_, rfl⟩
          rw [← hxe2] at HFe hxl HE3 HG2
          have HXE := hide hxe2
          clear hxe2
          obtain ⟨xn, hxn⟩ : ∃ n, n = xo.1.1 := ⟨_, rfl⟩
          obtain ⟨xm, hxm⟩ : ∃ n, n = xo.1.2 := ⟨_, rfl⟩
          rw [← hxn, ← hxm] at HFe HPt
          have HXn := hide hxn
          have HXm := hide hxm
          clear hxn hxm
          have bz := below_box wr (.cells #[.int .i64 0, .int .i64 0, .slice none 0 0] 66)
          have qa0 := (bz.cell (p := ⟨w.heap.size, 0, none⟩) (World.block_lt_of_cell? wr _ q0)).trans q0
          have qa2 := (bz.cell (p := ⟨w.heap.size + 1, 0, none⟩) (World.block_lt_of_cell? wr _ q2)).trans q2
          have da0 := (bz.cell (p := ⟨rb, ro + k, none⟩) (World.block_lt_of_cell? wr _ d0)).trans d0
          clear bz
          go_upto_region 12 with fail
          apply wp_some (Made3 wr (.int .i64 (xn : Int)) (.int .i64 (xm : Int)) (.slice so xl sc))
          · intro K0 HK0
            go_region_with ((go_at_call 30; refine (HFe.out _ (by first | exact below_drew1 wr | exact (below_drew1 wr).alloc (by simp) _ | exact (below_box wr _).drew)).mono ?_; rintro e w1 ⟨rfl, b1, k1⟩; first | (have hq := (k1 wr.heap.size (by simp)).trans (heap_alloc_new wr (.cells #[.int .i64 0, .int .i64 0, .slice none 0 0] 66)); obtain ⟨⟨z0, z1, z2⟩, f0, f1, f2⟩ := three_cells hq; have hq := hide hq) | skip))
            all_goals
              show K0 _ _
              first
                | (generalize hbb : w1.heap.size = bb; exact HK0 bb _ (by rw [← hbb]; exact made3_new _ _ _ b1))
                | (generalize hbb : wr.heap.size = bb; exact HK0 bb _ (by rw [← hbb]; exact made3_set _ _ _ b1 (Nat.le_refl _) hq.out))
          · intro bb W2 hM
            have R3 := HR2.out.below hM.2.2.1
            have HMb := hide hM.2.2.2
            clear HFe HR2 hM qa0 qa2 da0 q0 q2 d0 hrb
            have HR3 := hide R3
            obtain ⟨⟨z0, z1, z2⟩, _⟩ := three_cells HMb.out
            clear R3
            go_wp2_with fail
            clear z0 z1 z2
            go_loopw [47] (fun iv wr => ∃ (s : Nat) (cur : List Int), iv = .int .i64 s ∧ s ≤ xl ∧ k < cur.length ∧ Hid (Ok l.length cur) ∧ Hid (∃ v, RS w l.length gp w.heap.size (w.heap.size + 3) (w.heap.size + 1) (w.heap.size + 2) cur cur v wr) ∧ Hid (slotsF has l.length xo (xl - s) s cur = slotsF has l.length xo xl 0 out) ∧ Hid (wr.heap[bb]? = some (.cells #[.int .i64 (xn : Int), .int .i64 (xm : Int), .slice so xl sc] 66 (0, 0)))) (fun iv _ => xl - (intOf iv).toNat)
            case atStart => exact ⟨0, out, rfl, Nat.zero_le _, hkt, HO, hide ⟨_, HR3.out⟩, hide rfl, HMb⟩
            case round =>
              obtain ⟨s, cur, rfl, hsl, hkc, HOc, HVc, HSc, HBc⟩ := hrel
              clear HR3 HMb
              obtain ⟨vc3, R4⟩ := HVc.out
              clear HVc
              obtain ⟨⟨z0, z1, z2⟩, _⟩ := three_cells HBc.out
              by_cases hst : s < xl
              · have hsI : (s : Int) < (xl : Int) := by omega
                obtain ⟨sb, sp, rfl, dS⟩ := HE3.out s hst wr R4.1
                have CP := hide (HPt.out (s : Int) wr R4.1)
                have HR4 := hide R4
                clear R4
                cases hh : has xn xm (s : Int) with
                | false =>
                  rw [hh] at CP
                  have HS2 : Hid (slotsF has l.length xo (xl - (s + 1)) (s + 1) cur = slotsF has l.length xo xl 0 out) := hide (by
                    rw [← HSc.out, show xl - s = (xl - (s + 1)) + 1 by omega, slotsF_pass (by rw [← HXn.out, ← HXm.out]; exact hh)])
                  clear HSc hh
                  generalize xo.2.getD s 0 = y at *
                  go_wp2_with fail
                  refine CP.out.mono ?_; rintro e w4 ⟨rfl, b4⟩
                  have HR5 := hide (HR4.out.below b4)
                  have HB5 := hide ((k66_below b4) _ _ HBc.out)
                  clear b4 CP HR4 HBc z0 z1 z2
                  go_wp2_with fail
                  go_roundw
                  case rel => exact ⟨s + 1, cur, by go_num, by omega, hkc, HOc, hide ⟨_, HR5.out⟩, HS2, HB5⟩
                  case measure => simp [intOf]; omega
                | true =>
                  rw [hh] at CP
                  have HS2 : Hid (slotsF has l.length xo (xl - (s + 1)) (s + 1) (meetF l.length (xo.2.getD s 0) cur) = slotsF has l.length xo xl 0 out) := hide (by
                    rw [← HSc.out, show xl - s = (xl - (s + 1)) + 1 by omega, slotsF_meet (by rw [← HXn.out, ← HXm.out]; exact hh)])
                  clear HSc hh
                  generalize xo.2.getD s 0 = y at *
                  go_wp2_with fail
                  refine CP.out.mono ?_; rintro e w4 ⟨rfl, b4⟩
                  have HR5 := hide (HR4.out.below b4)
                  have HB5 := hide ((k66_below b4) _ _ HBc.out)
                  clear b4 CP HR4 HBc z0 z1 z2
                  have CM := hide (HMeet.out y _ _ _ _ cur vc3 w4 HOc.out HR5.out)
                  go_wp2_with fail
                  refine CM.out.mono ?_; rintro e w5 ⟨rfl, k5, v5, r5⟩
                  have HR6 := hide r5
                  have HB6 := hide (k5 _ _ HB5.out)
                  clear r5 k5 CM HR5 HB5
                  go_wp2_with fail
                  go_roundw
                  case rel => exact ⟨s + 1, meetF l.length y cur, by go_num, by omega, Nat.lt_of_lt_of_le hkc meet_len, hide (Ok.meet HOc.out), hide ⟨_, HR6.out⟩, HS2, HB6⟩
                  case measure => simp [intOf]; omega
              · obtain rfl : s = xl := by omega
                have HC2 : Hid (cur = slotsF has l.length xo s 0 out) := hide (by
                  rw [← HSc.out, Nat.sub_self]; rfl)
                have HG3 : Hid (goF has l (l.length + 1 - (k + 1)) (k + 1) cur = R0) := hide (by rw [HC2.out]; exact HG2.out)
                have HR4 := hide R4
                clear R4 HSc HC2 HG2 HBc z0 z1 z2
                go_wp2_with fail
                go_roundw
                case rel => exact ⟨k + 1, cur, by go_num, hkc, HOc, hide ⟨_, HR4.out⟩, HG3⟩
                case measure => simp [intOf]; omega
        · obtain rfl : k = out.length := by omega
          have HQ : Hid (out = R0) := hide (by
            rw [← HG.out]
            have e : l.length + 1 - out.length = (l.length - out.length) + 1 := by omega
            rw [e]
            show _ = (if out.length < out.length then _ else out)
            rw [if_neg (Nat.lt_irrefl _)])
          have HE : Hid (OutR w R0 (.slice vo out.length vc) wr) := hide (by rw [← HQ.out]; exact ⟨R2.2.2.2.2.2.2, R2.1⟩)
          clear R2 HQ HG q4
          go_wp2_with fail
          go_ret
          exact ⟨_, rfl, HE.out⟩
end Go.Proofs.YthmeafnofckoiaaDoor
