/- Layer 6, the reference's Text at texts without notes that are programs; the small text. Layer 8: the function that forks, meets again, and goes back. Layer 8, the reference: whether blocks end as they should. -/
import Derived.Test.YtnlcpfijfjbgjaaOrAE
import Derived.Test.YtnlcpfijfjbgjaaOrAG
import Derived.Test.YtnlcpfijfjbgjaaOrAH
import Derived.Test.YtnlcpfijfjbgjaaOrAJ
import Derived.Test.YtnlcpfijfjbgjaaOrAS
namespace Go.Proofs.Ytnlcpfijfjbgjaa
open Go Go.RowKit
open G (Tok Er Ins Fun peek0 peek1 atOf)
theorem fw_end {E : Int} : ∀ (f n : Nat) (acc : List Fun) (l : List Tok) (xs : List Fun) (n' : Nat) (r : List Tok), l.length < f → fwG E f n acc l = .ok ((xs, n'), r) → r = [] := by
  intro f
  induction f with
  | zero => intro n acc l xs n' r h; omega
  | succ f ih =>
    intro n acc l xs n' r h hr
    by_cases hl : l = []
    · subst hl; rw [fw_stop] at hr; cases hr; rfl
    · by_cases h32 : acc.length < 32
      · cases hq : funG E n l with
        | error er => rw [fw_bad hl h32 hq] at hr; cases hr
        | ok p =>
          have hless := fun_less (x := p.1.1) (n' := p.1.2) (l' := p.2) hq
          rw [fw_go (x := p.1.1) (n' := p.1.2) (l' := p.2) hl h32 hq] at hr
          exact ih _ _ _ _ _ _ (by omega) hr
      · rw [fw_many hl (by omega)] at hr; cases hr
/-- The reference reads a text without notes that is a program. -/
theorem rtext_any (s : ByteArray) (hs : s.size ≤ 65536) (hn : ∀ c ∈ s.data.toList, (c.toNat : Int) ≠ 35) {xs : List Fun} (h : textG s = .ok xs) (w : World) :
    Calls Try.prog 36 #[.string s] w fun e w' => ∃ v, e = .returned (.tuple #[.agg #[v], .agg #[.int .i64 0, .int .i64 0]]) ∧ ProgVal w.heap.size xs v w' ∧ Below w.heap.size w w' := by
  unfold textG at h
  cases hw : L2.words s with
  | inl x => rw [hw] at h; cases h
  | inr ws =>
    rw [hw] at h
    replace h : (match progG (s.size : Int) (toks s ws) with | .ok ((xs, _), _) => Except.ok xs | .error er => .error er) = .ok xs := h
    cases hp : progG (s.size : Int) (toks s ws) with
    | error er => rw [hp] at h; cases h
    | ok p =>
      obtain ⟨⟨ys, n'⟩, r⟩ := p
      rw [hp] at h
      cases h
      have hr : r = [] := fw_end _ _ _ _ _ _ _ (Nat.lt_succ_self _) hp
      subst hr
      exact rtext s (toks_short hw hs) (rsplit s hs hn hw) hp w
end Go.Proofs.Ytnlcpfijfjbgjaa
namespace Go.Proofs.Ytnlcpfijfjbgjaa
open Go Go.RowKit
open G (Tok Er Ins Fun)
theorem same_eq {r q : Except Er (List Fun)} (h : same r q = true) : r = q := by
  unfold same at h
  split at h
  · rename_i xs ys
    rw [@of_decide_eq_true _ (decD xs ys) h]
  · rw [of_decide_eq_true h]
  · exact absurd h (by simp)
def sFork : ByteArray := { data := #[102, 117, 110, 99, 32, 102, 40, 105, 41, 32, 110, 32, 123, 32, 98, 48, 58, 32, 98, 114, 32, 98, 49, 32, 98, 49, 58, 32, 105, 102, 32, 37, 48, 32, 98, 50, 32, 98, 51, 32, 98, 50, 58, 32, 98, 114, 32, 98, 52, 32, 98, 51, 58, 32, 98, 114, 32, 98, 52, 32, 98, 52, 58, 32, 105, 102, 32, 37, 48, 32, 98, 49, 32, 98, 53, 32, 98, 53, 58, 32, 114, 101, 116, 32, 98, 54, 58, 32, 114, 101, 116, 32, 125] }
def bFork : List (List Ins) := [[(26, -1, 0, 0, [], [1], [], 18)], [(27, -1, 0, 0, [0], [2, 3], [], 28)], [(26, -1, 0, 0, [], [4], [], 44)], [(26, -1, 0, 0, [], [4], [], 54)], [(27, -1, 0, 0, [0], [1, 5], [], 64)], [(28, -1, 0, 0, [], [], [], 80)], [(28, -1, 0, 0, [], [], [], 88)]]
def fFork : Fun := ([102], [1], 0, bFork, 0)
theorem fork_is : textG sFork = .ok [fFork] := same_eq (by decide +kernel)
theorem fork_no : ∀ c ∈ sFork.data.toList, (c.toNat : Int) ≠ 35 := by decide +kernel
theorem fork_read (w : World) : Calls Try.prog 36 #[.string sFork] w fun e w' => ∃ v, e = .returned (.tuple #[.agg #[v], .agg #[.int .i64 0, .int .i64 0]]) ∧ ProgVal w.heap.size [fFork] v w' ∧ Below w.heap.size w w' :=
  rtext_any sFork (by decide +kernel) fork_no fork_is w
set_option maxHeartbeats 4000000 in
set_option maxRecDepth 20000 in
theorem fork_any (w : World) : Calls Try.prog 24 #[] w fun e w' => ∃ v, e = .returned v ∧ FunV w' fFork v ∧ Below w.heap.size w w' := by
  have HR := hide (fun w => fork_read w)
  go_enter Try.func24, Try.ntmps24
  go_wp2_with fail
  have H0 := hide (heap_alloc_new w (.cells #[.string ⟨#[]⟩, .slice none 0 0, .int .i64 0, .slice none 0 0, .int .i64 0] 25))
  have B0 := hide (below_box w (.cells #[.string ⟨#[]⟩, .slice none 0 0, .int .i64 0, .slice none 0 0, .int .i64 0] 25))
  have hz0 : w.heap.size < (w.alloc (.cells #[.string ⟨#[]⟩, .slice none 0 0, .int .i64 0, .slice none 0 0, .int .i64 0] 25)).heap.size := by simp
  show Calls Try.prog 36 #[.string sFork] (w.alloc (.cells #[.string ⟨#[]⟩, .slice none 0 0, .int .i64 0, .slice none 0 0, .int .i64 0] 25)) _
  generalize w.alloc (.cells #[.string ⟨#[]⟩, .slice none 0 0, .int .i64 0, .slice none 0 0, .int .i64 0] 25) = W at *
  refine (HR.out _).mono ?_
  rintro e w1 ⟨v, rfl, hp, b1⟩
  obtain ⟨cs, h0, hR⟩ := hp
  rcases own_view h0 with ⟨_, hn⟩ | ⟨g, pc, rfl, h1, h2, h3, h4, h5, h6⟩
  · cases hn
  obtain ⟨vp, vb, k1, k2, k3⟩ := FRow.at _ _ 0 fFork hR rfl
  obtain ⟨aoy, cy, rfl⟩ := own_len k2
  obtain ⟨vs, kb, kr⟩ := k3
  obtain ⟨boy, cby, rfl⟩ := own_len kb
  have bA := below_box w1 (.cells #[.slice (some ⟨g, 0, none⟩) 1 pc] 68)
  have bB := below_step bA (below_box (w1.alloc (.cells #[.slice (some ⟨g, 0, none⟩) 1 pc] 68)) (.cells #[.int .i64 0, .int .i64 0] 64))
  have bC := below_step b1 bB
  have q := fun j u hj => (bB.cell (p := ⟨g, j, none⟩) h4).trans (h5 j u (by have := k1 j u hj; rwa [Nat.zero_mul, Nat.zero_add] at this))
  obtain ⟨q0, q1, q2, q3, q4⟩ : _ ∧ _ ∧ _ ∧ _ ∧ _ := ⟨q 0 _ rfl, q 1 _ rfl, q 2 _ rfl, q 3 _ rfl, q 4 _ rfl⟩
  have hb := (bC.block _ hz0).trans H0.out
  have HBx := hide hb
  have HP := hide (own_below bB _ _ _ _ _ _ k2)
  have HK := hide (BlksVal.stay ⟨vs, kb, kr⟩ (stay_below bB))
  obtain ⟨d0, d1, d2, d3, d4⟩ := box5 hb
  have z : ∀ i, (((w1.alloc (.cells #[.slice (some ⟨g, 0, none⟩) 1 pc] 68)).alloc (.cells #[.int .i64 0, .int .i64 0] 64))).frozen? ⟨w.heap.size, i, none⟩ = false := fun i => by simp only [World.frozen?, hb]; simp
  obtain ⟨z0, z1, z2, z3, z4⟩ : _ ∧ _ ∧ _ ∧ _ ∧ _ := ⟨z 0, z 1, z 2, z 3, z 4⟩
  have BC := hide bC
  clear hb z bA bB bC b1 q k1 k2 kb kr h5 h6 hR h0
  go_wp2_with fail
  refine bodyPost_ret (v := .agg #[.string (bs [102]), .slice aoy 1 cy, .int .i64 0, .slice boy 7 cby, .int .i64 0]) (by simp [results, Try.results24, go_sem, d0, d1, d2, d3, d4]; exact ⟨rfl, rfl, rfl, rfl, rfl⟩) rfl ⟨_, rfl, ?_, ?_⟩
  · have st := far_kind (B := W.heap.size) ((((((Far.refl w.heap.size ((w1.alloc (.cells #[.slice (some ⟨g, 0, none⟩) 1 pc] 68)).alloc (.cells #[.int .i64 0, .int .i64 0] 64))).set 0 (.string (bs fFork.1))).set 1 (.slice aoy fFork.2.1.length cy)).set 2 (.int .i64 fFork.2.2.1)).set 3 (.slice boy fFork.2.2.2.1.length cby)).set 4 (.int .i64 fFork.2.2.2.2)) HBx.out (by decide)
    exact ⟨.slice aoy 1 cy, .slice boy 7 cby, rfl, ints_of (l := fFork.2.1) (st _ _ _ _ _ (.inl rfl) HP.out), blks_of (HK.out.stay st)⟩
  · have b5 := below_step B0.out BC.out
    exact ((((b5.setCell (p := ⟨w.heap.size, 0, none⟩) (Nat.le_refl _) _).setCell (p := ⟨w.heap.size, 1, none⟩) (Nat.le_refl _) _).setCell (p := ⟨w.heap.size, 2, none⟩) (Nat.le_refl _) _).setCell (p := ⟨w.heap.size, 3, none⟩) (Nat.le_refl _) _).setCell (p := ⟨w.heap.size, 4, none⟩) (Nat.le_refl _) _
end Go.Proofs.Ytnlcpfijfjbgjaa
namespace Go.Proofs.Ytnlcpfijfjbgjaa
open Go Go.RowKit
open G (Tok Er Ins Fun)
theorem rends_any (op : Int) (w : World) : Calls Try.prog 45 #[.int .i64 op] w fun e w' => e = .returned (.bool (endsB op)) ∧ w' = w := by
  go_enter Try.func45, Try.ntmps45
  go_wp2
  all_goals (go_ret; refine ⟨L5.ret_bool ?_, rfl⟩; rw [Bool.eq_iff_iff]; simp [endsB]; try omega)
def badT (N : Nat) (t : List Int) : Bool := t.any fun m => decide (m < 0 ∨ (N : Int) ≤ m)
def badI (N : Nat) (x : Ins) : Bool := decide (x.1 ≠ 20) && badT N x.2.2.2.2.2.1
def blkGo (N n : Nat) : Nat → List Ins → Int
  | _, [] => 0
  | i, x :: r => if endsB x.1 ≠ decide (i + 1 = n) then 15 else if badI N x then 7 else blkGo N n (i + 1) r
def blkE (N : Nat) (b : List Ins) : Int := if b.length = 0 then 15 else blkGo N b.length 0 b
def shapedGo (N : Nat) : Nat → List (List Ins) → Int × Int
  | _, [] => (0, 0)
  | k, b :: r => if blkE N b ≠ 0 then (blkE N b, (k : Int)) else shapedGo N (k + 1) r
def shapedF (f : Fun) : Int × Int := if f.2.2.2.1.length = 0 then (15, 0) else shapedGo f.2.2.2.1.length 0 f.2.2.2.1
theorem dropE_at {α : Type} {l : List α} {i : Nat} {x : α} (h : l[i]? = some x) : l.drop i = x :: l.drop (i + 1) := by
  obtain ⟨h1, rfl⟩ := List.getElem?_eq_some_iff.1 h
  exact List.drop_eq_getElem_cons h1
theorem blkGo_end {N n i : Nat} {x : Ins} {r : List Ins} (h : endsB x.1 ≠ decide (i + 1 = n)) : blkGo N n i (x :: r) = 15 := by rw [blkGo, if_pos h]
theorem blkGo_bad {N n i : Nat} {x : Ins} {r : List Ins} (h : endsB x.1 = decide (i + 1 = n)) (hb : badI N x = true) : blkGo N n i (x :: r) = 7 := by rw [blkGo, if_neg (by simp [h]), if_pos hb]
theorem blkGo_next {N n i : Nat} {x : Ins} {r : List Ins} (h : endsB x.1 = decide (i + 1 = n)) (hb : badI N x = false) : blkGo N n i (x :: r) = blkGo N n (i + 1) r := by rw [blkGo, if_neg (by simp [h]), if_neg (by simp [hb])]
theorem shapedGo_hit {N k : Nat} {b : List Ins} {r : List (List Ins)} {z : Int} (h : blkE N b = z) (hz : z ≠ 0) : shapedGo N k (b :: r) = (z, (k : Int)) := by rw [shapedGo, h, if_pos hz]
theorem shapedGo_next {N k : Nat} {b : List Ins} {r : List (List Ins)} (h : blkE N b = 0) : shapedGo N k (b :: r) = shapedGo N (k + 1) r := by rw [shapedGo, if_neg (by simp [h])]
theorem badT_drop {N : Nat} {t : List Int} {j : Nat} {m : Int} (h : t[j]? = some m) : badT N (t.drop j) = (decide (m < 0 ∨ (N : Int) ≤ m) || badT N (t.drop (j + 1))) := by
  rw [dropE_at h]; rfl
theorem two_boxes (w : World) (cs : Array Value) : Below w.heap.size w ((w.alloc (.cells cs 25)).alloc (.cells #[.int .i64 0, .int .i64 0] 64)) ∧ ((w.alloc (.cells cs 25)).alloc (.cells #[.int .i64 0, .int .i64 0] 64)).heap[w.heap.size]? = some (.cells cs 25 (0, 0)) ∧
    ((w.alloc (.cells cs 25)).alloc (.cells #[.int .i64 0, .int .i64 0] 64)).heap[w.heap.size + 1]? = some (.cells #[.int .i64 0, .int .i64 0] 64 (0, 0)) ∧ w.heap.size + 1 < ((w.alloc (.cells cs 25)).alloc (.cells #[.int .i64 0, .int .i64 0] 64)).heap.size := by
  refine ⟨below_step (below_box w _) (below_box _ _), (heap_alloc_old _ _ (by simp)).trans (heap_alloc_new w _), ?_, by simp⟩
  have := heap_alloc_new (w.alloc (.cells cs 25)) (.cells #[.int .i64 0, .int .i64 0] 64)
  rwa [show (w.alloc (.cells cs 25)).heap.size = w.heap.size + 1 from by simp] at this
theorem err_box {w : World} {c : Nat} {a b : Value} (h : w.heap[c]? = some (.cells #[a, b] 64 (0, 0))) : w.cell? ⟨c, 0, none⟩ = some a ∧ w.cell? ⟨c, 1, none⟩ = some b ∧ w.frozen? ⟨c, 0, none⟩ = false ∧ w.frozen? ⟨c, 1, none⟩ = false := by
  simp [World.cell?, World.frozen?, h]
theorem err_below {w W wr : World} {a b : Value} (h0 : Below w.heap.size w W) (h : Below W.heap.size W wr) : Below w.heap.size w ((wr.setCell ⟨w.heap.size + 1, 0, none⟩ a).setCell ⟨w.heap.size + 1, 1, none⟩ b) :=
  ((below_step h0 h).setCell (p := ⟨w.heap.size + 1, 0, none⟩) (Nat.le_succ _) a).setCell (p := ⟨w.heap.size + 1, 1, none⟩) (Nat.le_succ _) b
set_option maxHeartbeats 4000000 in
set_option maxRecDepth 20000 in
theorem rshaped_try (nm : List UInt8) (ps : List Int) (rt pl : Int) (bl : List (List Ins)) (ao bo : Option Addr) (c cb : Nat) (w : World)
    (hv : FunV w (nm, ps, rt, bl, pl) (.agg #[.string (bs nm), .slice ao ps.length c, .int .i64 rt, .slice bo bl.length cb, .int .i64 pl])) :
    Calls Try.prog 35 #[.agg #[.string (bs nm), .slice ao ps.length c, .int .i64 rt, .slice bo bl.length cb, .int .i64 pl]] w fun e w' => e = .returned (.agg #[.int .i64 (shapedF (nm, ps, rt, bl, pl)).1, .int .i64 (shapedF (nm, ps, rt, bl, pl)).2]) ∧ Below w.heap.size w w' := by
  obtain ⟨b0, h0, h1, hz0⟩ := two_boxes w #[.string (bs nm), .slice ao ps.length c, .int .i64 rt, .slice bo bl.length cb, .int .i64 pl]
  have H0 := hide h0
  have H1 := hide h1
  have HV := hide (hv.below b0)
  have B0 := hide b0
  have hbc : bl.length ≤ cb ∧ cb ≤ maxLen := by
    obtain ⟨vp, vb, e, _, ⟨ao', c', e', h1, h2, _⟩⟩ := hv
    injection e with e
    have e3 := congrArg (fun a => a[3]?) e
    simp at e3
    subst e3
    injection e' with e1 e2 e3
    subst e3
    exact ⟨h1, h2⟩
  have hz2 : w.heap.size < ((w.alloc (.cells #[.string (bs nm), .slice ao ps.length c, .int .i64 rt, .slice bo bl.length cb, .int .i64 pl] 25)).alloc (.cells #[.int .i64 0, .int .i64 0] 64)).heap.size := by omega
  unfold maxLen at hbc
  clear b0 h0 h1 hv
  go_enter Try.func35, Try.ntmps35
  go_upto_region 1 with fail
  show Code.wp _ _ _ _ ((w.alloc (.cells #[.string (bs nm), .slice ao ps.length c, .int .i64 rt, .slice bo bl.length cb, .int .i64 pl] 25)).alloc (.cells #[.int .i64 0, .int .i64 0] 64))
  generalize (w.alloc (.cells #[.string (bs nm), .slice ao ps.length c, .int .i64 rt, .slice bo bl.length cb, .int .i64 pl] 25)).alloc (.cells #[.int .i64 0, .int .i64 0] 64) = W at *
  obtain ⟨x0, x1, x2, x3, x4⟩ := box5 H0.out
  by_cases hn0 : bl.length = 0
  · have HE : Hid (shapedF (nm, ps, rt, bl, pl) = (15, 0)) := hide (if_pos hn0)
    obtain ⟨d0, d1, z0, z1⟩ := err_box H1.out
    go_wp2_with fail
    exact bodyPost_ret (v := .agg #[.int .i64 15, .int .i64 0]) (by simp [results, Try.results35, go_sem, d0, d1]) rfl ⟨by rw [HE.out], err_below B0.out (Below.refl _ _)⟩
  have hn1 : ((bl.length : Int) == 0) = false := by simpa using hn0
  have HB : Hid (BlksR W bl (.slice bo bl.length cb)) := hide (by
    obtain ⟨vp, vb, e, _, hB⟩ := HV.out
    injection e with e
    have e3 := congrArg (fun a => a[3]?) e
    simp at e3
    rw [e3]; exact hB)
  have HS : Hid (shapedF (nm, ps, rt, bl, pl) = shapedGo bl.length 0 bl) := hide (if_neg hn0)
  go_wp2_with fail
  clear x0 x1 x2 x3 x4
  go_loopw [3] (fun i wr => ∃ K : Nat, K ≤ bl.length ∧ i = .int .i64 K ∧ Hid (shapedF (nm, ps, rt, bl, pl) = shapedGo bl.length K (bl.drop K)) ∧ Hid (Below W.heap.size W wr)) (fun i _ => bl.length - (intOf i).toNat)
  case atStart => exact ⟨0, Nat.zero_le _, rfl, HS, hide (Below.refl _ _)⟩
  case round =>
    obtain ⟨K, hK, rfl, HR, HW⟩ := hrel
    obtain ⟨x0, x1, x2, x3, x4⟩ := box5 ((HW.out.block _ hz2).trans H0.out)
    by_cases hkt : K < bl.length
    · obtain ⟨b, hbK⟩ : ∃ b, bl[K]? = some b := ⟨bl[K], List.getElem?_eq_getElem hkt⟩
      have hkI : (K : Int) < bl.length := by omega
      obtain ⟨_, _, e', l1, l2, l3⟩ := HB.out
      injection e' with e1 e2 e4
      subst e1 e4
      rcases l3 with l3 | ⟨gc, oc, rfl, gk, h2⟩
      · subst l3; simp at hkt
      obtain ⟨vk, kd, aok, capk, rfl, m1, m2, kk⟩ := h2 K b hbK
      have c1 := (HW.out.cell (p := ⟨gc, oc + K, none⟩) gk).trans kd
      have HR2 := hide (HR.out.trans (by rw [dropE_at hbK]))
      have HKK := hide kk
      have KD := hide kd
      unfold maxLen at m2
      clear kd kk h2 hbK e2 HR
      go_wp2_with fail
      clear x0 x1 x2 x3 x4 c1
      have HW0 := HW
      clear HW
      go_loopw [5] (fun i wq => ∃ I : Nat, I ≤ b.length ∧ i = .int .i64 I ∧ Hid (blkGo bl.length b.length 0 b = blkGo bl.length b.length I (b.drop I)) ∧ Hid (Below W.heap.size W wq)) (fun i _ => b.length - (intOf i).toNat)
      case atStart => exact ⟨0, Nat.zero_le _, rfl, hide rfl, HW0⟩
      case round =>
        clear HW0
        obtain ⟨I, hI, rfl, HI, HW⟩ := hrel
        obtain ⟨x0, x1, x2, x3, x4⟩ := box5 ((HW.out.block _ hz2).trans H0.out)
        have c1 := (HW.out.cell (p := ⟨gc, oc + K, none⟩) gk).trans KD.out
        by_cases hit : I < b.length
        · have hiI : (I : Int) < b.length := by omega
          obtain ⟨x, hx⟩ : ∃ x, b[I]? = some x := ⟨b[I], List.getElem?_eq_getElem hit⟩
          rcases HKK.out with e0 | ⟨gi, oi, rfl, kk⟩
          · subst e0; simp at hit
          have HI2 := hide (HI.out.trans (by rw [dropE_at hx]))
          obtain ⟨ai, ti, ca, ct, hv, r0, r1, r2, r3, r4, r5, r6, r7⟩ := ((kk I _ hx).below HW.out).val
          obtain ⟨op, id, nn, ty, ar, tt, na, pp⟩ := x
          dsimp only at hv r0 r1 r2 r3 r4 r5 r6 r7
          have HSt : Hid (Sl wr ti tt ∧ tt.length ≤ maxLen) := hide (by
            obtain ⟨a1, t1, c1, c2, e, s1, s2, _, _, s5, s6⟩ := hv
            injection e with e
            have e2 := congrArg (fun a => a[5]?) e
            simp at e2
            rw [e2.1]; exact ⟨s2, Nat.le_trans s5 s6⟩)
          have B7 := hide (below_box wr (.cells #[.int .i64 op, .int .i64 id, .int .i64 nn, .int .i64 ty, .slice ai ar.length ca, .slice ti tt.length ct, .string (bs na), .int .i64 pp] 60))
          have H7 := hide (heap_alloc_new wr (.cells #[.int .i64 op, .int .i64 id, .int .i64 nn, .int .i64 ty, .slice ai ar.length ca, .slice ti tt.length ct, .string (bs na), .int .i64 pp] 60))
          have hbn : ¬ b.length = 0 := by omega
          have HBE : Hid (blkE bl.length b = blkGo bl.length b.length 0 b) := hide (if_neg hbn)
          clear kk hx hv HI
          go_wp2_with fail
          refine (rends_any op _).mono ?_; rintro e w8 ⟨rfl, rfl⟩
          have HW8 := hide (below_step HW.out B7.out)
          have hwl : wr.heap.size < (wr.alloc (.cells #[.int .i64 op, .int .i64 id, .int .i64 nn, .int .i64 ty, .slice ai ar.length ca, .slice ti tt.length ct, .string (bs na), .int .i64 pp] 60)).heap.size := by simp
          obtain ⟨s0, s1, s2, s3, s4, s5, s6, s7⟩ := box8 H7.out
          have HSt8 : Hid (Sl (wr.alloc (.cells #[.int .i64 op, .int .i64 id, .int .i64 nn, .int .i64 ty, .slice ai ar.length ca, .slice ti tt.length ct, .string (bs na), .int .i64 pp] 60)) ti tt) := hide (HSt.out.1.below B7.out)
          have htl : tt.length ≤ maxLen := HSt.out.2
          unfold maxLen at htl
          obtain ⟨y0, y1, y2, y3, y4⟩ := box5 ((HW8.out.block _ hz2).trans H0.out)
          generalize wr.alloc (.cells #[.int .i64 op, .int .i64 id, .int .i64 nn, .int .i64 ty, .slice ai ar.length ca, .slice ti tt.length ct, .string (bs na), .int .i64 pp] 60) = W8 at *
          clear x0 x1 x2 x3 x4 c1 r0 r1 r2 r3 r4 r5 r6 r7 B7 H7 HW HSt
          have SS := hide (And.intro s0 s5)
          by_cases hlast : I + 1 = b.length
          · have hlI : ((I : Int) + 1 == (b.length : Int)) = true := by simpa using (by omega : (I : Int) + 1 = b.length)
            cases he : endsB op with
            | false =>
              have HEE : Hid (shapedF (nm, ps, rt, bl, pl) = (15, (K : Int))) := hide (HR2.out.trans (shapedGo_hit (HBE.out.trans (HI2.out.trans (blkGo_end (by simp [he, hlast])))) (by decide)))
              obtain ⟨d0, d1, z0, z1⟩ := err_box ((HW8.out.block _ hz0).trans H1.out)
              go_wp2_with fail
              exact bodyPost_ret (v := .agg #[.int .i64 15, .int .i64 (K : Int)]) (by simp [results, Try.results35, go_sem, d0, d1]) rfl ⟨by rw [HEE.out], err_below B0.out HW8.out⟩
            | true =>
              have HEq : Hid (endsB op = decide (I + 1 = b.length)) := hide (by simp [he, hlast])
              have HBad : Hid (badI bl.length (op, id, nn, ty, ar, tt, na, pp) = true → shapedF (nm, ps, rt, bl, pl) = (7, (K : Int))) := hide (fun h => HR2.out.trans (shapedGo_hit (HBE.out.trans (HI2.out.trans (blkGo_bad HEq.out h))) (by decide)))
              have HOk : Hid (badI bl.length (op, id, nn, ty, ar, tt, na, pp) = false → blkGo bl.length b.length 0 b = blkGo bl.length b.length (I + 1) (b.drop (I + 1))) := hide (fun h => HI2.out.trans (blkGo_next HEq.out h))
              replace he := hide he
              go_wp2_with fail
              clear s0 s1 s2 s3 s4 s5 s6 s7 y0 y1 y2 y3 y4
              have S8 : Hid (W8.cell? ⟨wr.heap.size, 0, none⟩ = some (.int .i64 op) ∧ W8.cell? ⟨wr.heap.size, 5, none⟩ = some (.slice ti tt.length ct)) := SS
              generalize wr.heap.size = q at *
              go_loopw [7] (fun i wq => ∃ J : Nat, J ≤ tt.length ∧ i = .int .i64 J ∧ Hid (badT bl.length tt = badT bl.length (tt.drop J)) ∧ Hid (Below W8.heap.size W8 wq)) (fun i _ => tt.length - (intOf i).toNat)
              case atStart => exact ⟨0, Nat.zero_le _, rfl, hide rfl, hide (Below.refl _ _)⟩
              case round =>
                obtain ⟨J, hJ, rfl, HJ, HB9⟩ := hrel
                have HW9 := hide (below_step HW8.out HB9.out)
                have s0 := (HB9.out.cell (p := ⟨q, 0, none⟩) hwl).trans S8.out.1
                have s5 := (HB9.out.cell (p := ⟨q, 5, none⟩) hwl).trans S8.out.2
                by_cases hjt : J < tt.length
                · have hjI : (J : Int) < tt.length := by omega
                  by_cases hop : op = 20
                  · have hop' : (op != 20) = false := by simpa using hop
                    have HE := hide (HOk.out (by simp [badI, hop]))
                    go_wp2_with fail
                    go_roundw
                    case rel => exact ⟨I + 1, by omega, by go_num, HE, HW9⟩
                    case measure => simp [intOf]; omega
                  · have hop' : (op != 20) = true := by simpa using hop
                    obtain ⟨m, hm⟩ : ∃ m, tt[J]? = some m := ⟨tt[J], List.getElem?_eq_getElem hjt⟩
                    rcases HSt8.out with e0 | ⟨tb, to2, rfl, t1, t2⟩
                    · subst e0; simp at hjt
                    have c9 := (HB9.out.cell (p := ⟨tb, to2 + J, none⟩) t1).trans (t2 J m hm)
                    have HJ2 := hide (HJ.out.trans (badT_drop hm))
                    obtain ⟨y0, y1, y2, y3, y4⟩ := box5 ((HW9.out.block _ hz2).trans H0.out)
                    have hq9 : q < wr.heap.size := Nat.lt_of_lt_of_le hwl HB9.out.size
                    have ht9 : tb < wr.heap.size := Nat.lt_of_lt_of_le t1 HB9.out.size
                    have hf9 : w.heap.size < wr.heap.size := Nat.lt_of_lt_of_le hz2 HW9.out.size
                    have f1 := fun x => ((L5.grewTo_below wr x).cell (p := ⟨q, 5, none⟩) hq9).trans s5
                    have f2 := fun x => ((L5.grewTo_below wr x).cell (p := ⟨tb, to2 + J, none⟩) ht9).trans c9
                    have f3 := fun x => ((L5.grewTo_below wr x).cell (p := ⟨w.heap.size, 3, none⟩) hf9).trans y3
                    have HX := hide (fun x => below_step HW9.out (L5.grewTo_below wr x))
                    have HX9 := hide (fun x => below_step HB9.out (L5.grewTo_below wr x))
                    clear t2 hm y0 y1 y2 y4 c9
                    by_cases hneg : m < 0
                    · have HE := hide (HBad.out (by simp only [badI, HJ2.out]; simp [hop, hneg]))
                      go_wp2_with fail
                      refine L5.region_grew (by kernel_rfl) (by kernel_rfl) ?_
                      repeat (go_big_quiet_step (fail))
                      refine wpQuiet_nil ?_
                      rintro _ ⟨x, rfl⟩
                      obtain ⟨d0, d1, z0, z1⟩ := err_box (((HX.out x).block _ hz0).trans H1.out)
                      go_wp2_with fail
                      exact bodyPost_ret (v := .agg #[.int .i64 7, .int .i64 (K : Int)]) (by simp [results, Try.results35, go_sem, d0, d1]) rfl ⟨by rw [HE.out], err_below B0.out (HX.out x)⟩
                    · have hdn : decide (m < 0) = false := by simpa using hneg
                      by_cases hbig : (bl.length : Int) ≤ m
                      · have HE := hide (HBad.out (by simp only [badI, HJ2.out]; simp [hop, hneg, hbig]))
                        go_wp2_with fail
                        refine L5.region_grew (by kernel_rfl) (by kernel_rfl) ?_
                        repeat (go_big_quiet_step (fail))
                        refine wpQuiet_nil ?_
                        rintro _ ⟨x, rfl⟩
                        obtain ⟨d0, d1, z0, z1⟩ := err_box (((HX.out x).block _ hz0).trans H1.out)
                        go_wp2_with fail
                        exact bodyPost_ret (v := .agg #[.int .i64 7, .int .i64 (K : Int)]) (by simp [results, Try.results35, go_sem, d0, d1]) rfl ⟨by rw [HE.out], err_below B0.out (HX.out x)⟩
                      · have HE : Hid (badT bl.length tt = badT bl.length (tt.drop (J + 1))) := hide (by rw [HJ2.out]; simp [hneg, hbig])
                        go_wp2_with fail
                        refine L5.region_grew (by kernel_rfl) (by kernel_rfl) ?_
                        repeat (go_big_quiet_step (fail))
                        refine wpQuiet_nil ?_
                        rintro _ ⟨x, rfl⟩
                        have HX9x := hide (HX9.out x)
                        go_wp2_with fail
                        go_roundw
                        case rel => exact ⟨J + 1, by omega, by go_num, HE, HX9x⟩
                        case measure => simp [intOf]; omega
                · obtain rfl : J = tt.length := by omega
                  have HE := hide (HOk.out (by simp only [badI, HJ.out, List.drop_length]; simp [badT]))
                  go_wp2_with fail
                  go_roundw
                  case rel => exact ⟨I + 1, by omega, by go_num, HE, HW9⟩
                  case measure => simp [intOf]; omega
          · have hlI : ((I : Int) + 1 == (b.length : Int)) = false := beq_eq_false_iff_ne.2 (by omega)
            cases he : endsB op with
            | true =>
              have HEE : Hid (shapedF (nm, ps, rt, bl, pl) = (15, (K : Int))) := hide (HR2.out.trans (shapedGo_hit (HBE.out.trans (HI2.out.trans (blkGo_end (by simp [he, hlast])))) (by decide)))
              obtain ⟨d0, d1, z0, z1⟩ := err_box ((HW8.out.block _ hz0).trans H1.out)
              go_wp2_with fail
              exact bodyPost_ret (v := .agg #[.int .i64 15, .int .i64 (K : Int)]) (by simp [results, Try.results35, go_sem, d0, d1]) rfl ⟨by rw [HEE.out], err_below B0.out HW8.out⟩
            | false =>
              have HEq : Hid (endsB op = decide (I + 1 = b.length)) := hide (by simp [he, hlast])
              have HBad : Hid (badI bl.length (op, id, nn, ty, ar, tt, na, pp) = true → shapedF (nm, ps, rt, bl, pl) = (7, (K : Int))) := hide (fun h => HR2.out.trans (shapedGo_hit (HBE.out.trans (HI2.out.trans (blkGo_bad HEq.out h))) (by decide)))
              have HOk : Hid (badI bl.length (op, id, nn, ty, ar, tt, na, pp) = false → blkGo bl.length b.length 0 b = blkGo bl.length b.length (I + 1) (b.drop (I + 1))) := hide (fun h => HI2.out.trans (blkGo_next HEq.out h))
              replace he := hide he
              go_wp2_with fail
              clear s0 s1 s2 s3 s4 s5 s6 s7 y0 y1 y2 y3 y4
              have S8 : Hid (W8.cell? ⟨wr.heap.size, 0, none⟩ = some (.int .i64 op) ∧ W8.cell? ⟨wr.heap.size, 5, none⟩ = some (.slice ti tt.length ct)) := SS
              generalize wr.heap.size = q at *
              go_loopw [7] (fun i wq => ∃ J : Nat, J ≤ tt.length ∧ i = .int .i64 J ∧ Hid (badT bl.length tt = badT bl.length (tt.drop J)) ∧ Hid (Below W8.heap.size W8 wq)) (fun i _ => tt.length - (intOf i).toNat)
              case atStart => exact ⟨0, Nat.zero_le _, rfl, hide rfl, hide (Below.refl _ _)⟩
              case round =>
                obtain ⟨J, hJ, rfl, HJ, HB9⟩ := hrel
                have HW9 := hide (below_step HW8.out HB9.out)
                have s0 := (HB9.out.cell (p := ⟨q, 0, none⟩) hwl).trans S8.out.1
                have s5 := (HB9.out.cell (p := ⟨q, 5, none⟩) hwl).trans S8.out.2
                by_cases hjt : J < tt.length
                · have hjI : (J : Int) < tt.length := by omega
                  by_cases hop : op = 20
                  · have hop' : (op != 20) = false := by simpa using hop
                    have HE := hide (HOk.out (by simp [badI, hop]))
                    go_wp2_with fail
                    go_roundw
                    case rel => exact ⟨I + 1, by omega, by go_num, HE, HW9⟩
                    case measure => simp [intOf]; omega
                  · have hop' : (op != 20) = true := by simpa using hop
                    obtain ⟨m, hm⟩ : ∃ m, tt[J]? = some m := ⟨tt[J], List.getElem?_eq_getElem hjt⟩
                    rcases HSt8.out with e0 | ⟨tb, to2, rfl, t1, t2⟩
                    · subst e0; simp at hjt
                    have c9 := (HB9.out.cell (p := ⟨tb, to2 + J, none⟩) t1).trans (t2 J m hm)
                    have HJ2 := hide (HJ.out.trans (badT_drop hm))
                    obtain ⟨y0, y1, y2, y3, y4⟩ := box5 ((HW9.out.block _ hz2).trans H0.out)
                    have hq9 : q < wr.heap.size := Nat.lt_of_lt_of_le hwl HB9.out.size
                    have ht9 : tb < wr.heap.size := Nat.lt_of_lt_of_le t1 HB9.out.size
                    have hf9 : w.heap.size < wr.heap.size := Nat.lt_of_lt_of_le hz2 HW9.out.size
                    have f1 := fun x => ((L5.grewTo_below wr x).cell (p := ⟨q, 5, none⟩) hq9).trans s5
                    have f2 := fun x => ((L5.grewTo_below wr x).cell (p := ⟨tb, to2 + J, none⟩) ht9).trans c9
                    have f3 := fun x => ((L5.grewTo_below wr x).cell (p := ⟨w.heap.size, 3, none⟩) hf9).trans y3
                    have HX := hide (fun x => below_step HW9.out (L5.grewTo_below wr x))
                    have HX9 := hide (fun x => below_step HB9.out (L5.grewTo_below wr x))
                    clear t2 hm y0 y1 y2 y4 c9
                    by_cases hneg : m < 0
                    · have HE := hide (HBad.out (by simp only [badI, HJ2.out]; simp [hop, hneg]))
                      go_wp2_with fail
                      refine L5.region_grew (by kernel_rfl) (by kernel_rfl) ?_
                      repeat (go_big_quiet_step (fail))
                      refine wpQuiet_nil ?_
                      rintro _ ⟨x, rfl⟩
                      obtain ⟨d0, d1, z0, z1⟩ := err_box (((HX.out x).block _ hz0).trans H1.out)
                      go_wp2_with fail
                      exact bodyPost_ret (v := .agg #[.int .i64 7, .int .i64 (K : Int)]) (by simp [results, Try.results35, go_sem, d0, d1]) rfl ⟨by rw [HE.out], err_below B0.out (HX.out x)⟩
                    · have hdn : decide (m < 0) = false := by simpa using hneg
                      by_cases hbig : (bl.length : Int) ≤ m
                      · have HE := hide (HBad.out (by simp only [badI, HJ2.out]; simp [hop, hneg, hbig]))
                        go_wp2_with fail
                        refine L5.region_grew (by kernel_rfl) (by kernel_rfl) ?_
                        repeat (go_big_quiet_step (fail))
                        refine wpQuiet_nil ?_
                        rintro _ ⟨x, rfl⟩
                        obtain ⟨d0, d1, z0, z1⟩ := err_box (((HX.out x).block _ hz0).trans H1.out)
                        go_wp2_with fail
                        exact bodyPost_ret (v := .agg #[.int .i64 7, .int .i64 (K : Int)]) (by simp [results, Try.results35, go_sem, d0, d1]) rfl ⟨by rw [HE.out], err_below B0.out (HX.out x)⟩
                      · have HE : Hid (badT bl.length tt = badT bl.length (tt.drop (J + 1))) := hide (by rw [HJ2.out]; simp [hneg, hbig])
                        go_wp2_with fail
                        refine L5.region_grew (by kernel_rfl) (by kernel_rfl) ?_
                        repeat (go_big_quiet_step (fail))
                        refine wpQuiet_nil ?_
                        rintro _ ⟨x, rfl⟩
                        have HX9x := hide (HX9.out x)
                        go_wp2_with fail
                        go_roundw
                        case rel => exact ⟨J + 1, by omega, by go_num, HE, HX9x⟩
                        case measure => simp [intOf]; omega
                · obtain rfl : J = tt.length := by omega
                  have HE := hide (HOk.out (by simp only [badI, HJ.out, List.drop_length]; simp [badT]))
                  go_wp2_with fail
                  go_roundw
                  case rel => exact ⟨I + 1, by omega, by go_num, HE, HW9⟩
                  case measure => simp [intOf]; omega
        · obtain rfl : I = b.length := by omega
          have HE := HI.out
          rw [List.drop_length] at HE
          by_cases hbn : b.length = 0
          · have hbn' : ((b.length : Int) == 0) = true := by simpa using hbn
            have HEE : Hid (shapedF (nm, ps, rt, bl, pl) = (15, (K : Int))) := hide (HR2.out.trans (shapedGo_hit (if_pos hbn) (by decide)))
            obtain ⟨d0, d1, z0, z1⟩ := err_box ((HW.out.block _ hz0).trans H1.out)
            clear HE
            go_wp2_with fail
            exact bodyPost_ret (v := .agg #[.int .i64 15, .int .i64 (K : Int)]) (by simp [results, Try.results35, go_sem, d0, d1]) rfl ⟨by rw [HEE.out], err_below B0.out HW.out⟩
          · have hbn' : ((b.length : Int) == 0) = false := by simpa using hbn
            have HEE : Hid (shapedF (nm, ps, rt, bl, pl) = shapedGo bl.length (K + 1) (bl.drop (K + 1))) := hide (HR2.out.trans (shapedGo_next ((if_neg hbn).trans HE)))
            clear HE
            go_wp2_with fail
            go_roundw
            case rel => exact ⟨K + 1, by omega, by go_num, HEE, HW⟩
            case measure => simp [intOf]; omega
    · obtain rfl : K = bl.length := by omega
      have HE := HR.out
      rw [List.drop_length] at HE
      replace HE : Hid (shapedF (nm, ps, rt, bl, pl) = (0, 0)) := hide HE
      obtain ⟨d0, d1, z0, z1⟩ := err_box ((HW.out.block _ hz0).trans H1.out)
      go_wp2_with fail
      exact bodyPost_ret (v := .agg #[.int .i64 0, .int .i64 0]) (by simp [results, Try.results35, go_sem, d0, d1]) rfl ⟨by rw [HE.out], err_below B0.out HW.out⟩
end Go.Proofs.Ytnlcpfijfjbgjaa
