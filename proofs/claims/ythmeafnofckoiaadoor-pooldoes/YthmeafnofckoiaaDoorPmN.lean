/- Layer 12: what is stored is loaded (PoolKeeps), over memory. -/
import Derived.Test.YthmeafnofckoiaaDoorPmM
namespace Go.Proofs.YthmeafnofckoiaaDoor
open Go Go.RowKit
open Layertwelve (Ob trapF objN loadF storeF slotF wordsF shapeF makeF firstF slotsF goF reachF Ok)

/-- An act: kind, object, slot, whether a pointer is asked for, number, mask. -/
abbrev OpT := Int × Int × Int × Bool × Int × Nat
abbrev opC (x : OpT) : List Value := [.int .i64 x.1, .int .i64 x.2.1, .int .i64 x.2.2.1, .bool x.2.2.2.1, .int .i64 x.2.2.2.2.1, .int .u16 (x.2.2.2.2.2 : Int)]
def OpAt (w : World) (x : OpT) (g k : Nat) : Prop := (w.cell? ⟨g, k, none⟩ = some (.int .i64 x.1) ∧ w.cell? ⟨g, k + 1, none⟩ = some (.int .i64 x.2.1) ∧ w.cell? ⟨g, k + 2, none⟩ = some (.int .i64 x.2.2.1) ∧ w.cell? ⟨g, k + 3, none⟩ = some (.bool x.2.2.2.1) ∧ w.cell? ⟨g, k + 4, none⟩ = some (.int .i64 x.2.2.2.2.1) ∧ w.cell? ⟨g, k + 5, none⟩ = some (.int .u16 (x.2.2.2.2.2 : Int))) ∧ x.2.2.2.2.2 < 65536
def OpsR (w : World) (l : List OpT) (ao : Option Addr) : Prop := l = [] ∨ ∃ g o, ao = some ⟨g, o, none⟩ ∧ g < w.heap.size ∧ ∀ i x, l[i]? = some x → OpAt w x g (o + i * 6)
theorem OpAt.below {w w' : World} {x : OpT} {g k : Nat} (h : OpAt w x g k) (hg : g < w.heap.size) (b : Below w.heap.size w w') : OpAt w' x g k := by
  obtain ⟨⟨h0, h1, h2, h3, h4, h5⟩, h6⟩ := h
  exact ⟨⟨(b.cell (p := ⟨g, k, none⟩) hg).trans h0, (b.cell (p := ⟨g, k + 1, none⟩) hg).trans h1, (b.cell (p := ⟨g, k + 2, none⟩) hg).trans h2, (b.cell (p := ⟨g, k + 3, none⟩) hg).trans h3, (b.cell (p := ⟨g, k + 4, none⟩) hg).trans h4, (b.cell (p := ⟨g, k + 5, none⟩) hg).trans h5⟩, h6⟩
theorem OpsR.at {w : World} {l : List OpT} {ao : Option Addr} (h : OpsR w l ao) {i : Nat} (hi : i < l.length) : ∃ (g o : Nat) (x : OpT), ao = some ⟨g, o, none⟩ ∧ ∀ w', Below w.heap.size w w' → OpAt w' x g (o + i * 6) := by
  rcases h with h | ⟨g, o, e, hg, h⟩
  · subst h; simp at hi
  · exact ⟨g, o, l[i], e, fun w' b => (h i _ (List.getElem?_eq_getElem hi)).below hg b⟩
theorem OpsR.below {w w' : World} {l : List OpT} {ao : Option Addr} (h : OpsR w l ao) (b : Below w.heap.size w w') : OpsR w' l ao := by
  rcases h with h | ⟨g, o, e, hg, h⟩
  · exact .inl h
  · exact .inr ⟨g, o, e, Nat.lt_of_lt_of_le hg b.size, fun i x hi => (h i x hi).below hg b⟩
theorem shape_ok {l : List Ob} (hs : ∀ o ∈ l, Sh o) (id : Int) : (shapeF l id).1 ≤ 16 ∧ (shapeF l id).2 < 2 ^ (shapeF l id).1 := by
  unfold shapeF
  split
  · simp
  · rename_i h
    have := hs _ (List.mem_of_getElem? (Layertwelve.objN_mem (l := l) (id := id) (by omega) (by omega)))
    exact ⟨this.1, this.2.1⟩
theorem load_trap {l : List Ob} {id slot : Int} {p : Bool} : (loadF has l id slot p).2 = trapF has l id slot p := by
  unfold loadF
  by_cases h : trapF has l id slot p = 0
  · rw [if_neg (by simpa using h), h]
  · rw [if_pos h]
theorem sh_wf {l : List Ob} (hs : ∀ o ∈ l, Sh o) : Layertwelve.Wf l := fun o ho => (hs o ho).2.2
theorem store_len12 {l : List Ob} {id slot : Int} {p : Bool} {n : Int} : (storeF has l id slot p n).length = l.length := Layertwelve.store_len
/-- Whatever order is drawn: the same end, but for the world. -/
theorem wp_prop {P : Program} {c : Code} {Q : Exit → Act → World → Prop} {a : Act} {w : World} {A : Act} (S : World → Prop) (hr : ∀ (K : Act → World → Prop), (∀ w', S w' → K A w') → c.wp P (Exit.then K (fun _ _ _ => False)) a w) (h : ∀ w', S w' → Q .normal A w') : c.wp P Q a w :=
  wp_some (A := fun _ => A) (fun _ => S) (fun K hK => hr K (fun w' hs => hK 0 w' hs)) (fun _ w' hs => h w' hs)
set_option maxHeartbeats 8000000 in
set_option maxRecDepth 20000 in
theorem keeps_any (L : List OpT) (k0 o1 o2 : Int) (o3 : Bool) (o4 : Int) (o5 : Nat) (id slot : Int) (ao : Option Addr) (c : Nat) (w : World) (hL : OpsR w L ao) (ht : Tab w) :
    Calls Tryd.prog 4 #[.slice ao L.length c, .agg #[.int .i64 k0, .int .i64 o1, .int .i64 o2, .bool o3, .int .i64 o4, .int .u16 (o5 : Int)], .int .i64 id, .int .i64 slot] w fun e w' => e = .returned (.bool true) ∧ Below w.heap.size w w' := by
  have b0 := below_box w (.cells #[.int .i64 k0, .int .i64 o1, .int .i64 o2, .bool o3, .int .i64 o4, .int .u16 (o5 : Int)] 29)
  have hbx : ∀ w', Below (w.heap.size + 1) (w.alloc (.cells #[.int .i64 k0, .int .i64 o1, .int .i64 o2, .bool o3, .int .i64 o4, .int .u16 (o5 : Int)] 29)) w' → w'.cell? ⟨w.heap.size, 1, none⟩ = some (.int .i64 o1) ∧ w'.cell? ⟨w.heap.size, 2, none⟩ = some (.int .i64 o2) ∧ w'.cell? ⟨w.heap.size, 3, none⟩ = some (.bool o3) ∧ w'.cell? ⟨w.heap.size, 4, none⟩ = some (.int .i64 o4) := fun w' b =>
    ⟨(b.cell (p := ⟨w.heap.size, 1, none⟩) (by simp)).trans (by simp), (b.cell (p := ⟨w.heap.size, 2, none⟩) (by simp)).trans (by simp), (b.cell (p := ⟨w.heap.size, 3, none⟩) (by simp)).trans (by simp), (b.cell (p := ⟨w.heap.size, 4, none⟩) (by simp)).trans (by simp)⟩
  obtain ⟨W, hW⟩ : ∃ W, W = w.alloc (.cells #[.int .i64 k0, .int .i64 o1, .int .i64 o2, .bool o3, .int .i64 o4, .int .u16 (o5 : Int)] 29) := ⟨_, rfl⟩
  have hsz : W.heap.size = w.heap.size + 1 := by rw [hW]; simp
  rw [← hW, ← hsz] at hbx
  rw [← hW] at b0
  have HBX := hide hbx
  have HL := hide (hL.below b0)
  have htW := ht.below b0
  have HT := hide htW
  have CW := hide (fun wr (b : Below W.heap.size W wr) => works_any wr (htW.below b))
  have HB0 := hide b0
  have HW := hide hW
  clear hbx hL ht htW b0 hW hsz
  by_cases hl60 : 60 < L.length
  · have h60 : (60 : Int) < (L.length : Int) := by omega
    generalize L.length = ln at *
    go_enter Tryd.func4, Tryd.ntmps4
    go_upto_region 1 with fail
    show Code.wp _ _ _ _ (w.alloc (.cells #[.int .i64 k0, .int .i64 o1, .int .i64 o2, .bool o3, .int .i64 o4, .int .u16 (o5 : Int)] 29))
    rw [← HW.out]
    go_wp2_with fail
    refine (CW.out W (Below.refl _ _)).mono ?_; rintro e w1 ⟨rfl, b1⟩
    have B1 := hide (below_step HB0.out b1)
    clear b1
    go_wp2_with fail
    go_ret
    exact ⟨rfl, B1.out⟩
  have CN := hide (bnew_any W)
  obtain ⟨gp, hgp⟩ : ∃ g, g = W.heap.size := ⟨_, rfl⟩
  rw [← hgp] at CN
  clear hgp
  have HLen : Hid (∀ i, i < L.length → ∃ (g o : Nat) (x : OpT), ao = some ⟨g, o, none⟩ ∧ ∀ w', Below W.heap.size W w' → OpAt w' x g (o + i * 6)) := hide (fun i hi => HL.out.at hi)
  clear HL
  have h60 : (L.length : Int) ≤ 60 := by omega
  generalize L.length = ln at *
  go_enter Tryd.func4, Tryd.ntmps4
  go_upto_region 1 with fail
  show Code.wp _ _ _ _ (w.alloc (.cells #[.int .i64 k0, .int .i64 o1, .int .i64 o2, .bool o3, .int .i64 o4, .int .u16 (o5 : Int)] 29))
  rw [← HW.out]
  clear HW
  go_wp2_with fail
  refine CN.out.mono ?_; rintro e w1 ⟨rfl, p1⟩
  have HP1 := hide p1
  clear p1 CN
  go_wp2_with fail
  go_loopw [10] (fun iv wr => ∃ (i : Nat) (l : List Ob), i ≤ ln ∧ iv = .int .i64 i ∧ l.length ≤ i ∧ Hid (∀ o ∈ l, Sh o) ∧ Hid (PB W gp l wr)) (fun iv _ => ln - (intOf iv).toNat)
  case atStart => exact ⟨0, [], Nat.zero_le _, rfl, Nat.le_refl _, hide (by simp), HP1⟩
  case round =>
    obtain ⟨i, l, hi, rfl, hli, HS, HP⟩ := hrel
    clear HP1
    by_cases hit : i < ln
    · have hiI : (i : Int) < (ln : Int) := by omega
      obtain ⟨g, o, x, rfl, hx⟩ := HLen.out i hit
      obtain ⟨⟨a0, a1, a2, a3, a4, a5⟩, a6⟩ := hx wr HP.out.2
      clear hx
      obtain ⟨x0, x1, x2, x3, x4, x5⟩ := x
      by_cases hk : x0 = 0
      · subst hk
        have hS := shN_le x2
        have hM : x5 % 2 ^ shN x2 < 2 ^ shN x2 := Nat.mod_lt _ (Nat.two_pow_pos _)
        have CS := hide (fun w' (b : Below wr.heap.size wr w') => (lshape_any x2 x5 w' a6).mono (fun e w2 (q : e = _ ∧ Below w'.heap.size w' w2) => (And.intro q.1 (below_step b q.2) : e = .returned (.agg #[.int .i64 (shN x2 : Int), .int .i64 ((x5 % 2 ^ shN x2 : Nat) : Int)]) ∧ Below wr.heap.size wr w2)))
        have CM := hide (fun w' (b : Below wr.heap.size wr w') => bmake_any (shN x2) (x5 % 2 ^ shN x2) (HP.out.below b) HS.out hS hM (by omega))
        have HSn := hide (sh_make HS.out hS hM)
        have hlen : (makeF l (shN x2, x5 % 2 ^ shN x2)).length ≤ i + 1 := by simp [makeF]; omega
        clear hS hM a1 a3 a4
        generalize makeF l (shN x2, x5 % 2 ^ shN x2) = l2 at *
        generalize x5 % 2 ^ shN x2 = mm at *
        generalize shN x2 = nn at *
        go_upto_region 10 with fail
        go_region_with ((first
          | (go_at_call 8; refine (CS.out _ (below_drew1 wr)).mono ?_; rintro e w2 ⟨rfl, b2⟩; have B2 := hide b2)
          | (go_at_call 10; refine (CM.out _ B2.out).mono ?_; rintro e w3 ⟨rfl, p3⟩; have P3 := hide p3)))
        all_goals
          clear CS CM
          go_wp2_with fail
          go_roundw
          case rel => exact ⟨i + 1, l2, by omega, by go_num, hlen, HSn, P3⟩
          case measure => simp [intOf]; omega
      · have k1 : (x0 == 0) = false := by simpa using hk
        have CM := hide (fun w' (b : Below wr.heap.size wr w') => bstore_any x1 x2 x3 x4 (HP.out.below b) HS.out HT.out)
        have HSn := hide (sh_store (id := x1) (slot := x2) (p := x3) (n := x4) HS.out)
        have hlen : (storeF has l x1 x2 x3 x4).length ≤ i + 1 := by rw [store_len12]; omega
        clear a5 a6
        generalize storeF has l x1 x2 x3 x4 = l2 at *
        generalize trapF has l x1 x2 x3 = tr at *
        go_upto_region 11 with fail
        apply wp_prop (fun w' => PB W gp l2 w')
        · intro K0 HK0
          go_region_with ((go_at_call 14; refine (CM.out _ (below_drew1 wr)).mono ?_; rintro e w3 ⟨rfl, p3⟩))
          all_goals
            show K0 _ _
            exact HK0 _ p3
        · intro w3 p3
          have P3 := hide p3
          clear p3 CM
          go_wp2_with fail
          go_roundw
          case rel => exact ⟨i + 1, l2, by omega, by go_num, hlen, HSn, P3⟩
          case measure => simp [intOf]; omega
    · have hshape := shape_ok HS.out id
      have C1 := hide (bshape_any id HP.out HS.out)
      generalize shapeF l id = sh at *
      obtain ⟨shn, shm⟩ := sh
      have hs1 : shn ≤ 16 := hshape.1
      have hs2 : shm < 2 ^ shn := hshape.2
      have C1' : Hid (Calls Tryd.prog 21 #[.pointer (some ⟨gp, 0, none⟩), .int .i64 id] wr fun e w' => e = .returned (.agg #[.int .i64 (shn : Int), .int .i64 (shm : Int)]) ∧ PB W gp l w') := C1
      have C2 := hide (fun w' => refPointer_any shn shm slot w' hs1 hs2)
      clear C1 hshape hs1 hs2
      generalize has shn shm slot = kind at *
      have C3 := hide (fun w' (h : PB W gp l w') => bload_any id slot kind h HS.out HT.out)
      have C4 := hide (fun w' (h : PB W gp l w') => bstore_any o1 o2 o3 o4 h HS.out HT.out)
      have HS2 := hide (sh_store (id := o1) (slot := o2) (p := o3) (n := o4) HS.out)
      have C5 := hide (fun w' (h : PB W gp (storeF has l o1 o2 o3 o4) w') => bload_any o1 o2 o3 h HS2.out HT.out)
      have C6 := hide (fun w' (h : PB W gp (storeF has l o1 o2 o3 o4) w') => bload_any id slot kind h HS2.out HT.out)
      have E1 : Hid ((loadF has (storeF has l o1 o2 o3 o4) o1 o2 o3).2 = trapF has l o1 o2 o3) := hide (by rw [load_trap, Layertwelve.store_trap])
      have E2 : Hid (trapF has l o1 o2 o3 = 0 → (loadF has (storeF has l o1 o2 o3 o4) o1 o2 o3).1 = o4) := hide (fun h => by rw [Layertwelve.load_same (sh_wf HS.out) h])
      have E3 : Hid (id ≠ o1 ∨ slot ≠ o2 → loadF has (storeF has l o1 o2 o3 o4) id slot kind = loadF has l id slot kind) := hide (fun h => Layertwelve.load_other h)
      rw [E1.out] at C5
      generalize storeF has l o1 o2 o3 o4 = l2 at *
      generalize (loadF has l2 o1 o2 o3).1 = nv at *
      generalize trapF has l o1 o2 o3 = tr at *
      generalize loadF has l id slot kind = lv at *
      obtain ⟨was, tt⟩ := lv
      clear E1 HLen
      go_wp2_with fail
      refine C1'.out.mono ?_; rintro e w2 ⟨rfl, p2⟩
      have P2 := hide p2
      clear p2 C1' HP
      go_wp2_with fail
      refine (C2.out w2).mono ?_; rintro e w3 ⟨rfl, b3⟩
      have P3 := hide (P2.out.below b3)
      clear b3 C2 P2
      go_wp2_with fail
      refine (C3.out w3 P3.out).mono ?_; rintro e w4 ⟨rfl, p4⟩
      obtain ⟨y1, y2, y3, y4⟩ := HBX.out w4 p4.2
      have P4 := hide p4
      clear p4 C3 P3
      go_wp2_with fail
      refine (C4.out w4 P4.out).mono ?_; rintro e w5 ⟨rfl, p5⟩
      clear y1 y2 y3 y4
      obtain ⟨y1, y2, y3, y4⟩ := HBX.out w5 p5.2
      have P5 := hide p5
      clear p5 C4 P4
      go_wp2_with fail
      refine (C5.out w5 P5.out).mono ?_; rintro e w6 ⟨rfl, p6⟩
      clear y1 y2 y3 y4
      obtain ⟨y1, y2, y3, y4⟩ := HBX.out w6 p6.2
      have P6 := hide p6
      clear p6 C5 P5
      have t1 : (tr == tr) = true := by simp
      have t2 : (tr != tr) = false := by simp
      have CW6 := hide (CW.out w6 P6.out.2)
      have fin : Hid (∀ w', Below w6.heap.size w6 w' → Below w.heap.size w w') := hide (fun w' b => below_step HB0.out (below_step P6.out.2 b))
      have d1 : (was == was) = true := by simp
      have d2 : (tt == tt) = true := by simp
      by_cases htr : tr = 0
      case' pos =>
        have q0 : (tr == 0) = true := by simpa using htr
        have q1 : (nv == o4) = true := by simpa using E2.out htr
        have q2 : (nv != o4) = false := by simpa using E2.out htr
        replace htr := hide htr
      case' neg =>
        have q0 : (tr == 0) = false := by simpa using htr
        replace htr := hide htr
      all_goals
        clear E2
        by_cases hboth : id = o1 ∧ slot = o2
        · have r1 : (id == o1) = true := by simpa using hboth.1
          have r2 : (slot == o2) = true := by simpa using hboth.2
          replace hboth := hide hboth
          go_wp2_with fail
          refine CW6.out.mono ?_; rintro e w7 ⟨rfl, b7⟩
          have B7 := hide (fin.out w7 b7)
          clear b7 CW6
          go_wp2_with fail
          go_ret
          exact ⟨rfl, B7.out⟩
        · have hE : id ≠ o1 ∨ slot ≠ o2 := by
            by_cases q : id = o1
            · exact .inr (fun e => hboth ⟨q, e⟩)
            · exact .inl q
          have C7 := C6
          rw [E3.out hE] at C7
          by_cases q : id = o1
          case' pos =>
            have r1 : (id == o1) = true := by simpa using q
            have r2 : (slot == o2) = false := by simpa using fun e => hboth ⟨q, e⟩
            replace q := hide q
          case' neg =>
            have r1 : (id == o1) = false := by simpa using q
            replace q := hide q
          all_goals
            clear C6 hE hboth E3
            go_wp2_with fail
            refine (C7.out w6 P6.out).mono ?_; rintro e w7 ⟨rfl, p7⟩
            have CW7 := hide (CW.out w7 p7.2)
            have F7 := hide (below_step HB0.out p7.2)
            clear p7 C7
            go_wp2_with fail
            refine CW7.out.mono ?_; rintro e w8 ⟨rfl, b8⟩
            have B8 := hide (below_step F7.out b8)
            clear b8 CW7
            go_wp2_with fail
            go_ret
            exact ⟨rfl, B8.out⟩
end Go.Proofs.YthmeafnofckoiaaDoor
