/- Layer 8, the reference: lists of numbers that are looked at, and which blocks follow one. Layer 8, the reference: which blocks follow one, and which follow each. Layer 8, the reference: lists of lists; which blocks follow each block. Layer 8, the reference: blocks behind all that follow them, as mathematics; a list behind a list of one's own. Layer 8, the reference: lists of lists that are read, compared with themselves. Layer 8, the reference: ways along edges. Layer 9, mathematics: what is reached along edges, not by way of one; what stands ahead of what. -/
import Derived.Test.YtnlcpfijfjbgjaaWaAG
import Derived.Laws.AppendOwnNone
namespace Go.Proofs.Ytnlcpfijfjbgjaa
open Go Go.RowKit
open G (Tok Er Ins Fun)
def hasL (l : List Int) (n : Int) : Bool := l.any fun m => decide (m = n)
theorem hasL_snoc (l : List Int) (m n : Int) : hasL (l ++ [m]) n = (hasL l n || decide (m = n)) := by simp [hasL]
theorem hasL_mem {l : List Int} {n : Int} : hasL l n = true ↔ n ∈ l := by simp [hasL]
theorem hasL_at {l : List Int} {k : Nat} {n : Int} (h : l[k]? = some n) : hasL l n = true := hasL_mem.2 (List.mem_of_getElem? h)
theorem take_more {α : Type} {l : List α} {k : Nat} {n : α} (h : l[k]? = some n) : l.take (k + 1) = l.take k ++ [n] := by rw [List.take_add_one, h]; rfl
set_option maxRecDepth 4000 in
theorem rhas_any (l : List Int) (n : Int) (ao : Option Addr) (c : Nat) (w : World) (hs : Sl w ao l) (hl : l.length ≤ maxLen) :
    Calls Try.prog 22 #[.slice ao l.length c, .int .i64 n] w fun e w' => e = .returned (.bool (hasL l n)) ∧ w' = w := by
  unfold maxLen at hl
  have HS := hide hs
  clear hs
  go_enter Try.func22, Try.ntmps22
  go_wp2
  go_loopw [5] (fun i wr => ∃ k : Nat, k ≤ l.length ∧ i = .int .i64 k ∧ wr = w ∧ Hid (hasL (l.take k) n = false)) (fun i _ => l.length - (intOf i).toNat)
  case atStart => exact ⟨0, Nat.zero_le _, rfl, rfl, hide rfl⟩
  case round =>
    obtain ⟨k, hk, rfl, hw, HF⟩ := hrel
    subst hw
    by_cases hlt : k < l.length
    · obtain ⟨m, hm⟩ : ∃ m, l[k]? = some m := ⟨l[k], List.getElem?_eq_getElem hlt⟩
      rcases HS.out with he | ⟨a, oa, rfl, hal, ha⟩
      · subst he; simp at hlt
      have c1 := ha k m hm
      by_cases he : m = n
      · have HE : Hid (true = hasL l n) := hide (by subst he; exact (hasL_at hm).symm)
        have he' : (m == n) = true := by simpa using he
        clear ha hm he
        go_wp2_with fail
        go_ret
        exact ⟨L5.ret_bool HE.out, rfl⟩
      · have HE : Hid (hasL (l.take (k + 1)) n = false) := hide (by rw [take_more hm, hasL_snoc, HF.out]; simp [he])
        have he' : (m == n) = false := by simpa using he
        clear ha hm he
        go_wp2_with fail
        go_roundw
        case rel => exact ⟨k + 1, by omega, by go_num, trivial, HE⟩
        case measure => simp [intOf]; omega
    · obtain rfl : k = l.length := by omega
      have HE : Hid (false = hasL l n) := hide (by have := HF.out; rw [List.take_length] at this; exact this.symm)
      go_wp2_with fail
      go_ret
      exact ⟨L5.ret_bool HE.out, rfl⟩
/-- A list of numbers of one's own while it grows. -/
def Grw (w : World) (l : List Int) (v : Value) (wr : World) : Prop := wr.ownsRow w.heap.size 3 1 v l.length (ints l) ∧ Below w.heap.size w wr
theorem Grw.start (w : World) : Grw w [] (.slice none 0 0) w := ⟨World.ownsRow_nil _ _ _ _, Below.refl _ _⟩
theorem Grw.step {w wr w2 : World} {l : List Int} {v v' : Value} {x : Int} {o : Obj} (h : Grw w l v wr) (own : w2.ownsRow w.heap.size 3 1 v' (l.length + 1) (ints l ++ [.int .i64 x])) (hg : (wr.alloc o).grownBy w2 v.ownBlock) : Grw w (l ++ [x]) v' w2 := by
  refine ⟨by simpa [ints] using own, ?_⟩
  refine Below.grown (h.2.alloc h.2.size o) hg (by simp; have := h.2.size; omega) ?_
  intro k hk
  exact (h.1.lt k hk).1
theorem Grw.slice {w wr : World} {l : List Int} {v : Value} (h : Grw w l v wr) : ∃ ao c, v = .slice ao l.length c ∧ Sl wr ao l ∧ l.length ≤ maxLen := by
  obtain ⟨ao, c, rfl, h1, h2, h3⟩ := ints_of h.1
  exact ⟨ao, c, rfl, h1, Nat.le_trans h2 h3⟩
/-- A number behind a list, where it is none of it. -/
def addL (acc : List Int) (n : Int) : List Int := if hasL acc n then acc else acc ++ [n]
theorem addL_yes {acc : List Int} {n : Int} (h : hasL acc n = true) : addL acc n = acc := by unfold addL; rw [if_pos h]
theorem addL_no {acc : List Int} {n : Int} (h : hasL acc n = false) : addL acc n = acc ++ [n] := by unfold addL; rw [if_neg (by simp [h])]
theorem addL_len (acc : List Int) (n : Int) : (addL acc n).length ≤ acc.length + 1 := by
  unfold addL
  split
  · omega
  · simp
/-- A list's numbers, none twice. -/
def onceL (l : List Int) : List Int := l.foldl addL []
theorem onceL_take {l : List Int} {k : Nat} {n : Int} (h : l[k]? = some n) : onceL (l.take (k + 1)) = addL (onceL (l.take k)) n := by
  rw [take_more h]; simp [onceL]
theorem onceL_len (l : List Int) : (onceL l).length ≤ l.length := by
  have key : ∀ (l acc : List Int), (l.foldl addL acc).length ≤ acc.length + l.length := by
    intro l
    induction l with
    | nil => intro acc; simp
    | cons n l ih =>
      intro acc
      rw [List.foldl_cons, List.length_cons]
      have h1 := ih (addL acc n)
      have h2 := addL_len acc n
      omega
  simpa [onceL] using key l []
set_option maxHeartbeats 4000000 in
set_option maxRecDepth 20000 in
theorem next_try (nm : List UInt8) (ps : List Int) (rt pl : Int) (bl : List (List Ins)) (ao bo : Option Addr) (c cb : Nat) (k : Nat) (b : List Ins) (op id nn ty pp : Int) (ar tt : List Int) (na : List UInt8) (w : World)
    (hb : BlksR w bl (.slice bo bl.length cb)) (hk : bl[k]? = some b) (hx : b[b.length - 1]? = some (op, id, nn, ty, ar, tt, na, pp)) (h63 : tt.length ≤ 1000000) :
    Calls Try.prog 21 #[.agg #[.string (bs nm), .slice ao ps.length c, .int .i64 rt, .slice bo bl.length cb, .int .i64 pl], .int .i64 k] w fun e w' => ∃ v, e = .returned v ∧ w'.ownsRow w.heap.size 3 1 v (onceL tt).length (ints (onceL tt)) ∧ Below w.heap.size w w' := by
  obtain ⟨i0, hi0, hz0, hz1, hz2⟩ := info_parts Try.info3
  have b0 := below_box w (.cells #[.string (bs nm), .slice ao ps.length c, .int .i64 rt, .slice bo bl.length cb, .int .i64 pl] 25)
  have X0 := hide (L5.Box.new w [.string (bs nm), .slice ao ps.length c, .int .i64 rt, .slice bo bl.length cb, .int .i64 pl] 25)
  have HB := hide (hb.below b0)
  have B0 := hide b0
  clear b0 hb
  go_enter Try.func21, Try.ntmps21
  go_upto_region 1 with fail
  show Code.wp _ _ _ _ (w.alloc (.cells #[.string (bs nm), .slice ao ps.length c, .int .i64 rt, .slice bo bl.length cb, .int .i64 pl] 25))
  replace X0 : Hid (L5.Box (w.alloc (.cells #[.string (bs nm), .slice ao ps.length c, .int .i64 rt, .slice bo bl.length cb, .int .i64 pl] 25)) w.heap.size [.string (bs nm), .slice ao ps.length c, .int .i64 rt, .slice bo bl.length cb, .int .i64 pl]) := X0
  generalize w.alloc (.cells #[.string (bs nm), .slice ao ps.length c, .int .i64 rt, .slice bo bl.length cb, .int .i64 pl] 25) = W at *
  obtain ⟨_, _, e0, l1, l2, h2⟩ := HB.out
  injection e0 with e1 e2 e3
  subst e1 e3
  clear e2
  have hkt : k < bl.length := (List.getElem?_eq_some_iff.1 hk).1
  have hkI : (k : Int) < bl.length := by omega
  rcases h2 with h2 | ⟨gc, oc, rfl, gk, h2⟩
  · subst h2; simp at hkt
  obtain ⟨vk, kd, aok, capk, rfl, m1, m2, kk⟩ := h2 k b hk
  have hjt : b.length - 1 < b.length := (List.getElem?_eq_some_iff.1 hx).1
  rcases kk with kk | ⟨gi, oi, rfl, kk⟩
  · subst kk; simp at hjt
  obtain ⟨ai, ti, ca, ct, hv, r0, r1, r2, r3, r4, r5, r6, r7⟩ := (kk (b.length - 1) _ hx).val
  dsimp only at hv r0 r1 r2 r3 r4 r5 r6 r7
  have HSt : Hid (Sl W ti tt) := hide (by
    obtain ⟨a1, t1, c1, c2, e, s1, s2, _⟩ := hv
    injection e with e
    have e2 := congrArg (fun a => a[5]?) e
    simp at e2
    rw [e2.1]; exact s2)
  obtain ⟨J, hJ⟩ : ∃ J, J = b.length - 1 := ⟨_, rfl⟩
  rw [← hJ] at r0 r1 r2 r3 r4 r5 r6 r7
  have hJI : (b.length : Int) - 1 = (J : Int) := by omega
  have hJl : (J : Int) < b.length := by omega
  unfold maxLen at m2 l2
  have hgi : gi < W.heap.size := (kk (b.length - 1) _ hx).1
  have x3 := fun x => (L5.grew_box X0.out x).2 3 _ rfl
  have kd' := fun x => ((L5.grewTo_below W x).cell (p := ⟨gc, oc + k, none⟩) gk).trans kd
  have r5' := fun x => ((L5.grewTo_below W x).cell (p := ⟨gi, oi + J * 8 + 5, none⟩) hgi).trans r5
  have hwr : IntKind.i64.wrap ((b.length : Int) - 1) = (J : Int) := by
    rw [hJI]; exact IntWalk.i64_in _ ⟨by omega, by omega⟩
  clear hv kk h2 hx hk r0 r1 r2 r3 r4 r5 r6 r7 kd hJ
  go_wp2_with fail
  refine L5.region_grew (by kernel_rfl) (by kernel_rfl) ?_
  repeat (go_big_quiet_step (fail))
  refine wpQuiet_nil ?_
  rintro _ ⟨x, rfl⟩
  clear x3 kd' r5'
  have HX := hide (L5.grewTo_below W x)
  obtain ⟨w8, hw8⟩ : ∃ w8 : World, w8 = L5.grewTo W x := ⟨_, rfl⟩
  rw [← hw8] at HX ⊢
  clear hw8
  go_wp2_with fail
  go_loopw [5, 7] (fun v i wr => ∃ I : Nat, I ≤ tt.length ∧ i = .int .i64 I ∧ Hid (Grw W (onceL (tt.take I)) v wr)) (fun _ i _ => tt.length - (intOf i).toNat)
  case atStart => exact ⟨0, Nat.zero_le _, rfl, hide ⟨World.ownsRow_nil _ _ _ _, HX.out⟩⟩
  case round =>
    obtain ⟨I, hI, rfl, HG⟩ := hrel
    by_cases hit : I < tt.length
    · have hiI : (I : Int) < tt.length := by omega
      obtain ⟨n, hn⟩ : ∃ n, tt[I]? = some n := ⟨tt[I], List.getElem?_eq_getElem hit⟩
      rcases HSt.out with he | ⟨gt, ot, rfl, gtl, ht⟩
      · subst he; simp at hit
      have c1 := (HG.out.2.cell (p := ⟨gt, ot + I, none⟩) gtl).trans (ht I n hn)
      obtain ⟨vo, vc, rfl, vs, vl⟩ := HG.out.slice
      have HV := hide vs
      have HN := hide (onceL_take hn)
      have hlen := onceL_len (tt.take I)
      rw [List.length_take] at hlen
      generalize onceL (tt.take I) = acc at *
      clear ht hn vs
      go_wp2_with fail
      refine (rhas_any acc n vo vc wr HV.out vl).mono ?_; rintro e w1 ⟨rfl, hw1⟩
      rw [hw1]
      clear hw1
      cases hh : hasL acc n with
      | true =>
        have HE : Hid (Grw W (onceL (tt.take (I + 1))) (.slice vo acc.length vc) wr) := hide (by rw [HN.out, addL_yes hh]; exact HG.out)
        replace hh := hide hh
        go_wp2_with fail
        go_roundw
        case rel => exact ⟨I + 1, by omega, by go_num, HE⟩
        case measure => simp [intOf]; omega
      | false =>
        have HA := hide (HN.out.trans (addL_no hh))
        replace hh := hide hh
        have hWs := HG.out.2.size
        go_wp2_with (at_builtin; refine wpList_append_own _ rfl (.tmp 36) (.tmp 41) 22 rfl W.heap.size 3 i0 _ 1 8 Try.underlying22 hi0 hz0 hz1 hz2 rfl (by decide) _ _ _ rfl (HG.out.1.alloc _) ⟨wr.heap.size, 0, none⟩ 1 1 [.int .i64 n] rfl rfl one_cell one_one (by unfold maxLen; omega) (by omega) (by simp; omega) ?_; intro v2 w2 own2 grow2 _)
        have HE : Hid (Grw W (onceL (tt.take (I + 1))) v2 w2) := hide (by rw [HA.out]; exact HG.out.step own2 grow2)
        clear own2 grow2
        go_wp2_with fail
        go_roundw
        case rel => exact ⟨I + 1, by omega, by go_num, HE⟩
        case measure => simp [intOf]; omega
    · obtain rfl : I = tt.length := by omega
      have HE : Hid (Grw W (onceL tt) _ wr) := hide (by have := HG.out; rwa [List.take_length] at this)
      have HF := hide (own_base HE.out.1 B0.out.size)
      go_wp2_with fail
      go_ret
      exact ⟨_, rfl, HF.out, below_step B0.out HE.out.2⟩
end Go.Proofs.Ytnlcpfijfjbgjaa
namespace Go.Proofs.Ytnlcpfijfjbgjaa
open Go Go.RowKit
open G (Tok Er Ins Fun)
/-- The labels of a block's last instruction. -/
def lastTo (b : List Ins) : List Int := match b[b.length - 1]? with
  | some x => x.2.2.2.2.2.1
  | none => []
def nextF (f : Fun) (k : Nat) : List Int := onceL (lastTo (f.2.2.2.1.getD k []))
def succsF (f : Fun) : List (List Int) := f.2.2.2.1.map fun b => onceL (lastTo b)
/-- No block is empty, and none goes to too many. -/
def Ful (f : Fun) : Prop := f.2.2.2.1.length ≤ 1000000 ∧ ∀ b ∈ f.2.2.2.1, b ≠ [] ∧ ∀ x ∈ b, x.2.2.2.2.2.1.length ≤ 1000000
theorem nextF_at {f : Fun} {k : Nat} {b : List Ins} (h : f.2.2.2.1[k]? = some b) : nextF f k = onceL (lastTo b) := by
  unfold nextF; rw [List.getD_eq_getElem?_getD, h]; rfl
theorem Ful.last {f : Fun} (h : Ful f) {b : List Ins} (hb : b ∈ f.2.2.2.1) : ∃ x, b[b.length - 1]? = some x ∧ lastTo b = x.2.2.2.2.2.1 ∧ x.2.2.2.2.2.1.length ≤ 1000000 := by
  obtain ⟨h1, h2⟩ := h.2 b hb
  have : b.length - 1 < b.length := by
    have : b.length ≠ 0 := fun e => h1 (List.length_eq_zero_iff.1 e)
    omega
  refine ⟨b[b.length - 1], List.getElem?_eq_getElem this, ?_, h2 _ (List.getElem_mem this)⟩
  unfold lastTo
  rw [List.getElem?_eq_getElem this]
theorem next_any (f : Fun) (k : Nat) (v : Value) (w : World) (hv : FunV w f v) (hF : Ful f) (hk : k < f.2.2.2.1.length) :
    Calls Try.prog 21 #[v, .int .i64 k] w fun e w' => ∃ u, e = .returned u ∧ w'.ownsRow w.heap.size 3 1 u (nextF f k).length (ints (nextF f k)) ∧ Below w.heap.size w w' := by
  obtain ⟨b, hb⟩ : ∃ b, f.2.2.2.1[k]? = some b := ⟨_, List.getElem?_eq_getElem hk⟩
  obtain ⟨x, hx, hl, h63⟩ := hF.last (List.mem_of_getElem? hb)
  rw [nextF_at hb, hl]
  obtain ⟨nm, ps, rt, bl, pl⟩ := f
  obtain ⟨vp, vb, rfl, ⟨ao, c, rfl, h1, _⟩, h2⟩ := hv
  have h2' := h2
  obtain ⟨bo, cb, rfl, _⟩ := h2
  obtain ⟨op, id, nn, ty, ar, tt, na, pp⟩ := x
  exact next_try nm ps rt pl bl ao bo c cb k b op id nn ty pp ar tt na w h2' hb hx h63
end Go.Proofs.Ytnlcpfijfjbgjaa
namespace Go.Proofs.Ytnlcpfijfjbgjaa
open Go Go.RowKit
open G (Tok Er Ins Fun)
theorem Try.info22 : (Try.prog.info? 22).map (fun i => (i.zero, i.size, i.bytes)) = some (some (.slice none 0 0), 1, 24) := by kernel_rfl
/-- Lists of numbers in a list of one's own. -/
def RowsO (B : Nat) (w : World) (ll : List (List Int)) (v : Value) : Prop := ∃ us : List Value, w.ownsRow B 22 1 v ll.length us ∧ us.length = ll.length ∧ ∀ (i : Nat) (l : List Int), ll[i]? = some l → ∃ u, us[i]? = some u ∧ w.ownsRow B 3 1 u l.length (ints l)
theorem RowsO.nil (B : Nat) (w : World) : RowsO B w [] (.slice none 0 0) := ⟨[], World.ownsRow_nil _ _ _ _, rfl, fun i l h => by simp at h⟩
theorem RowsO.below {B : Nat} {w w' : World} {ll : List (List Int)} {v : Value} (h : RowsO B w ll v) (b : Below w.heap.size w w') : RowsO B w' ll v := by
  obtain ⟨us, h1, h2, h3⟩ := h
  refine ⟨us, own_below b B _ _ _ _ _ h1, h2, fun i l hl => ?_⟩
  obtain ⟨u, k1, k2⟩ := h3 i l hl
  exact ⟨u, k1, own_below b B _ _ _ _ _ k2⟩
theorem RowsO.base {B B' : Nat} {w : World} {ll : List (List Int)} {v : Value} (h : RowsO B w ll v) (hB : B' ≤ B) : RowsO B' w ll v := by
  obtain ⟨us, h1, h2, h3⟩ := h
  refine ⟨us, own_base h1 hB, h2, fun i l hl => ?_⟩
  obtain ⟨u, k1, k2⟩ := h3 i l hl
  exact ⟨u, k1, own_base k2 hB⟩
theorem RowsO.len {B : Nat} {w : World} {ll : List (List Int)} {v : Value} (h : RowsO B w ll v) : ∃ ao c, v = .slice ao ll.length c := by
  obtain ⟨us, h1, _⟩ := h
  exact own_len h1
theorem RowsO.step {B : Nat} {wr w2 : World} {ll : List (List Int)} {l : List Int} {v v' u : Value} {us : List Value} {o : Obj} (h1 : wr.ownsRow B 22 1 v ll.length us)
    (h : us.length = ll.length ∧ ∀ (i : Nat) (l : List Int), ll[i]? = some l → ∃ u, us[i]? = some u ∧ wr.ownsRow B 3 1 u l.length (ints l)) (hu : wr.ownsRow B 3 1 u l.length (ints l))
    (own : w2.ownsRow B 22 1 v' (ll.length + 1) (us ++ [u])) (hg : (wr.alloc o).grownBy w2 v.ownBlock) : RowsO B w2 (ll ++ [l]) v' := by
  obtain ⟨h2, h3⟩ := h
  refine ⟨us ++ [u], by simpa using own, by simp [h2], fun i m hm => ?_⟩
  have other : ∀ (x : Value) (n : Nat) (xs : List Value), wr.ownsRow B 3 1 x n xs → w2.ownsRow B 3 1 x n xs := fun x n xs hx => own_other hg (h1.alloc o) (by decide) x n xs (hx.alloc o)
  by_cases hi : i < ll.length
  · rw [List.getElem?_append_left hi] at hm
    obtain ⟨y, k1, k2⟩ := h3 i m hm
    exact ⟨y, by rw [List.getElem?_append_left (by omega)]; exact k1, other _ _ _ k2⟩
  · rw [List.getElem?_append_right (by omega)] at hm
    have hi2 : i - ll.length = 0 := by
      have := (List.getElem?_eq_some_iff.1 hm).1
      simp at this
      omega
    rw [hi2] at hm
    simp at hm
    subst hm
    exact ⟨u, by rw [List.getElem?_append_right (by omega), h2, hi2]; rfl, other _ _ _ hu⟩
end Go.Proofs.Ytnlcpfijfjbgjaa
namespace Go.Proofs.Ytnlcpfijfjbgjaa
open Go Go.RowKit
open G (Tok Er Ins Fun)
/-- Numbers below a bound, none twice: no more than the bound. -/
def Num (n : Nat) (l : List Int) : Prop := ∀ m ∈ l, 0 ≤ m ∧ m < n
theorem fit_len : ∀ (n : Nat) (l : List Int), l.Nodup → Num n l → l.length ≤ n := by
  intro n
  induction n with
  | zero =>
    intro l _ h
    cases l with
    | nil => simp
    | cons m l => have := h m (by simp); omega
  | succ n ih =>
    intro l hn h
    have h1 := ih (l.erase (n : Int)) (hn.erase _) (fun m hm => by
      have h2 := (hn.mem_erase_iff).1 hm
      have h3 := h m h2.2
      have h4 : m ≠ (n : Int) := h2.1
      omega)
    have h2 := List.length_erase (a := (n : Int)) (l := l)
    split at h2 <;> omega
def postF (f : Fun) : Nat → Int → List Int → List Int → List Int
  | 0, _, done, _ => done
  | N + 1, k, done, op => (nextF f k.toNat).foldl (fun out m => if hasL out m || hasL (op ++ [k]) m then out else postF f N m out (op ++ [k])) done ++ [k]
def stepF (f : Fun) (N : Nat) (path out : List Int) (m : Int) : List Int := if hasL out m || hasL path m then out else postF f N m out path
def walkF (f : Fun) (N : Nat) (path done l : List Int) : List Int := l.foldl (stepF f N path) done
theorem postF_succ (f : Fun) (N : Nat) (k : Int) (done op : List Int) : postF f (N + 1) k done op = walkF f N (op ++ [k]) done (nextF f k.toNat) ++ [k] := rfl
theorem stepF_no {f : Fun} {N : Nat} {path out : List Int} {m : Int} (h : hasL out m = true ∨ hasL path m = true) : stepF f N path out m = out := by
  unfold stepF; rcases h with h | h <;> simp [h]
theorem stepF_yes {f : Fun} {N : Nat} {path out : List Int} {m : Int} (h1 : hasL out m = false) (h2 : hasL path m = false) : stepF f N path out m = postF f N m out path := by
  unfold stepF; simp [h1, h2]
/-- Every label is a block's. -/
def Tos (f : Fun) : Prop := ∀ j, Num f.2.2.2.1.length (nextF f j)
/-- What is put behind a list: none of it twice, none of it of that list or of another. -/
def Ext (n : Nat) (done op out : List Int) : Prop := ∃ e, out = done ++ e ∧ e.Nodup ∧ ∀ m ∈ e, (0 ≤ m ∧ m < n) ∧ m ∉ done ∧ m ∉ op
theorem Ext.refl (n : Nat) (done op : List Int) : Ext n done op done := ⟨[], by simp, List.nodup_nil, by simp⟩
theorem Ext.trans {n : Nat} {a b c op : List Int} (h : Ext n a op b) (k : Ext n b op c) : Ext n a op c := by
  obtain ⟨e, rfl, h1, h2⟩ := h
  obtain ⟨d, rfl, k1, k2⟩ := k
  refine ⟨e ++ d, by simp, List.nodup_append.2 ⟨h1, k1, ?_⟩, ?_⟩
  · rintro x hx y hy rfl
    exact (k2 x hy).2.1 (by simp [hx])
  · intro m hm
    rcases List.mem_append.1 hm with hm | hm
    · exact h2 m hm
    · exact ⟨(k2 m hm).1, fun h => (k2 m hm).2.1 (by simp [h]), (k2 m hm).2.2⟩
theorem Ext.one {n : Nat} {a b op : List Int} {k : Int} (h : Ext n a (op ++ [k]) b) (hk : 0 ≤ k ∧ k < n) (ha : k ∉ a) (ho : k ∉ op) : Ext n a op (b ++ [k]) := by
  obtain ⟨e, rfl, h1, h2⟩ := h
  refine ⟨e ++ [k], by simp, List.nodup_append.2 ⟨h1, by simp, ?_⟩, ?_⟩
  · rintro x hx y hy rfl
    simp at hy
    exact (h2 x hx).2.2 (by simp [hy])
  · intro m hm
    rcases List.mem_append.1 hm with hm | hm
    · exact ⟨(h2 m hm).1, (h2 m hm).2.1, fun h => (h2 m hm).2.2 (by simp [h])⟩
    · simp at hm; subst hm; exact ⟨hk, ha, ho⟩
theorem hasL_no {l : List Int} {n : Int} : hasL l n = false ↔ n ∉ l := by
  rw [← hasL_mem]; simp
theorem post_ext {f : Fun} (hT : Tos f) : ∀ (N : Nat) (k : Int) (done op : List Int), (0 ≤ k ∧ k < f.2.2.2.1.length) → k ∉ done → k ∉ op → Ext f.2.2.2.1.length done op (postF f N k done op) := by
  intro N
  induction N with
  | zero => intro k done op _ _ _; exact Ext.refl _ _ _
  | succ N ih =>
    intro k done op hk hd ho
    rw [postF_succ]
    refine Ext.one ?_ hk hd ho
    have key : ∀ (l out : List Int), Num f.2.2.2.1.length l → Ext f.2.2.2.1.length done (op ++ [k]) out → Ext f.2.2.2.1.length done (op ++ [k]) (walkF f N (op ++ [k]) out l) := by
      intro l
      induction l with
      | nil => intro out _ h; exact h
      | cons m l ih2 =>
        intro out hl h
        refine ih2 _ (fun x hx => hl x (by simp [hx])) ?_
        by_cases hc : hasL out m = true ∨ hasL (op ++ [k]) m = true
        · rw [stepF_no hc]; exact h
        · have hc1 : hasL out m = false := by simpa using fun e => hc (.inl e)
          have hc2 : hasL (op ++ [k]) m = false := by simpa using fun e => hc (.inr e)
          rw [stepF_yes hc1 hc2]
          exact h.trans (ih m out (op ++ [k]) (hl m (by simp)) (hasL_no.1 hc1) (hasL_no.1 hc2))
    exact key _ _ (hT _) (Ext.refl _ _ _)
theorem Ext.num {n : Nat} {done op out : List Int} (h : Ext n done op out) (hd : done.Nodup) (hn : Num n done) : out.Nodup ∧ Num n out := by
  obtain ⟨e, rfl, h1, h2⟩ := h
  refine ⟨List.nodup_append.2 ⟨hd, h1, ?_⟩, ?_⟩
  · rintro x hx y hy rfl
    exact (h2 x hy).2.1 hx
  · intro m hm
    rcases List.mem_append.1 hm with hm | hm
    · exact hn m hm
    · exact (h2 m hm).1
theorem oneCell_ints (l : List Int) : ∀ u ∈ ints l, u.oneCell' = true := by
  intro u hu
  obtain ⟨m, _, rfl⟩ := List.mem_map.1 hu
  rfl
end Go.Proofs.Ytnlcpfijfjbgjaa
namespace Go.Proofs.Ytnlcpfijfjbgjaa
open Go Go.RowKit
open G (Tok Er Ins Fun)
/-- Lists of numbers that lie one by one from some cell on. -/
def RowsR (w : World) (ao : Option Addr) (ll : List (List Int)) : Prop := ll = [] ∨ ∃ b o, ao = some ⟨b, o, none⟩ ∧ b < w.heap.size ∧ ∀ (i : Nat) (l : List Int), ll[i]? = some l → ∃ u, w.cell? ⟨b, o + i, none⟩ = some u ∧ IntsV w l u
def RowsV (w : World) (ll : List (List Int)) (v : Value) : Prop := ∃ ao c, v = .slice ao ll.length c ∧ RowsR w ao ll ∧ ll.length ≤ c ∧ c ≤ maxLen
theorem RowsR.below {w w' : World} {ao : Option Addr} {ll : List (List Int)} (h : RowsR w ao ll) (hb : Below w.heap.size w w') : RowsR w' ao ll := by
  rcases h with h | ⟨b, o, e, hl, hc⟩
  · exact .inl h
  · refine .inr ⟨b, o, e, Nat.lt_of_lt_of_le hl hb.size, fun i l hi => ?_⟩
    obtain ⟨u, h1, h2⟩ := hc i l hi
    exact ⟨u, (hb.cell (p := ⟨b, o + i, none⟩) hl).trans h1, h2.below hb⟩
theorem RowsV.below {w w' : World} {ll : List (List Int)} {v : Value} (h : RowsV w ll v) (hb : Below w.heap.size w w') : RowsV w' ll v := by
  obtain ⟨ao, c, e, h1, h2⟩ := h
  exact ⟨ao, c, e, h1.below hb, h2⟩
theorem RowsO.read {B : Nat} {w : World} {ll : List (List Int)} {v : Value} (h : RowsO B w ll v) : RowsV w ll v := by
  obtain ⟨us, h1, h2, h3⟩ := h
  rcases own_view h1 with ⟨rfl, hn⟩ | ⟨g, cap, rfl, k1, k2, k3, k4, k5, k6⟩
  · have e : ll = [] := List.length_eq_zero_iff.1 hn
    subst e
    exact ⟨none, 0, rfl, .inl rfl, Nat.le_refl _, Nat.zero_le _⟩
  · refine ⟨some ⟨g, 0, none⟩, cap, rfl, .inr ⟨g, 0, rfl, k4, fun i l hi => ?_⟩, k1, k2⟩
    obtain ⟨u, m1, m2⟩ := h3 i l hi
    exact ⟨u, by rw [Nat.zero_add]; exact k5 i u m1, ints_of m2⟩
end Go.Proofs.Ytnlcpfijfjbgjaa
namespace Go.Proofs.Ytnlcpfijfjbgjaa
open Go Go.RowKit
open G (Tok Er Ins Fun)
def addB (but : Int) (met : List Int) (m : Int) : List Int := if m = but then met else addL met m
theorem addB_but {but m : Int} {met : List Int} (h : m = but) : addB but met m = met := if_pos h
theorem addB_has {but m : Int} {met : List Int} (h : m ≠ but) (hh : hasL met m = true) : addB but met m = met := (if_neg h).trans (addL_yes hh)
theorem addB_new {but m : Int} {met : List Int} (h : m ≠ but) (hh : hasL met m = false) : addB but met m = met ++ [m] := (if_neg h).trans (addL_no hh)
def NumD (n : Nat) (l : List Int) : Prop := l.Nodup ∧ Num n l
theorem NumD.nil (n : Nat) : NumD n [] := ⟨List.nodup_nil, fun m hm => by simp at hm⟩
theorem NumD.addB {n : Nat} {met : List Int} (h : NumD n met) (but : Int) {m : Int} (hm : 0 ≤ m ∧ m < n) : NumD n (addB but met m) := by
  by_cases h1 : m = but
  · rw [addB_but h1]; exact h
  · cases h2 : hasL met m with
    | true => rw [addB_has h1 h2]; exact h
    | false =>
      rw [addB_new h1 h2]
      refine ⟨List.nodup_append.2 ⟨h.1, by simp, ?_⟩, ?_⟩
      · rintro x hx y hy rfl
        simp at hy; subst hy; exact hasL_no.1 h2 hx
      · intro x hx
        rcases List.mem_append.1 hx with hx | hx
        · exact h.2 x hx
        · simp at hx; subst hx; exact hm
def addsB (but : Int) (met l : List Int) : List Int := l.foldl (addB but) met
theorem NumD.addsB {n : Nat} (but : Int) : ∀ (l met : List Int), NumD n met → Num n l → NumD n (addsB but met l) := by
  intro l
  induction l with
  | nil => intro met h _; exact h
  | cons m l ih => intro met h hl; exact ih _ (h.addB but (hl m (by simp))) (fun x hx => hl x (by simp [hx]))
theorem addL_ge (met : List Int) (m : Int) : met.length ≤ (addL met m).length := by
  unfold addL; split
  · omega
  · simp
theorem addB_ge (but : Int) (met : List Int) (m : Int) : met.length ≤ (addB but met m).length := by
  unfold addB; split
  · omega
  · exact addL_ge _ _
theorem addsB_len (but : Int) : ∀ (l met : List Int), met.length ≤ (addsB but met l).length := by
  intro l
  induction l with
  | nil => intro met; exact Nat.le_refl _
  | cons m l ih => intro met; exact Nat.le_trans (addB_ge but met m) (ih _)
theorem Num.take {n : Nat} {l : List Int} (h : Num n l) (k : Nat) : Num n (l.take k) := fun x hx => h x (List.mem_of_mem_take hx)
def growE (ll : List (List Int)) (but : Int) : Nat → Nat → List Int → List Int
  | 0, _, met => met
  | N + 1, i, met => match met[i]? with
    | none => met
    | some m => growE ll but N (i + 1) (addsB but met (ll.getD m.toNat []))
def metE (ll : List (List Int)) (frm : List Int) (but : Int) : List Int := growE ll but (ll.length + 1) 0 (addsB but [] frm)
theorem growE_end {ll : List (List Int)} {but : Int} {N i : Nat} {met : List Int} (h : met.length ≤ i) : growE ll but N i met = met := by
  cases N with
  | zero => rfl
  | succ N => rw [growE, List.getElem?_eq_none h]
theorem growE_step {ll : List (List Int)} {but m : Int} {N i : Nat} {met : List Int} (h : met[i]? = some m) : growE ll but (N + 1) i met = growE ll but N (i + 1) (addsB but met (ll.getD m.toNat [])) := by
  rw [growE, h]
end Go.Proofs.Ytnlcpfijfjbgjaa
namespace Go.Proofs.Ytnlcpfijfjbgjaa
open Go Go.RowKit
/-- Reached in so many steps from one of some, not by way of one. -/
def WayN (ll : List (List Int)) (frm : List Int) (but : Int) : Nat → Int → Prop
  | 0, m => m ∈ frm ∧ m ≠ but
  | n + 1, m => ∃ b, WayN ll frm but n b ∧ m ∈ ll.getD b.toNat [] ∧ m ≠ but
def Rch (ll : List (List Int)) (frm : List Int) (but m : Int) : Prop := ∃ n, WayN ll frm but n m
theorem Rch.start {ll : List (List Int)} {frm : List Int} {but m : Int} (h : m ∈ frm) (hb : m ≠ but) : Rch ll frm but m := ⟨0, h, hb⟩
theorem Rch.step {ll : List (List Int)} {frm : List Int} {but m c : Int} (h : Rch ll frm but m) (hc : c ∈ ll.getD m.toNat []) (hb : c ≠ but) : Rch ll frm but c := by
  obtain ⟨n, h⟩ := h
  exact ⟨n + 1, m, h, hc, hb⟩
theorem Rch.rec' {ll : List (List Int)} {frm : List Int} {but : Int} {Q : Int → Prop} (h0 : ∀ m, m ∈ frm → m ≠ but → Q m) (hs : ∀ b c, Rch ll frm but b → Q b → c ∈ ll.getD b.toNat [] → c ≠ but → Q c) : ∀ m, Rch ll frm but m → Q m := by
  have key : ∀ n m, WayN ll frm but n m → Q m := by
    intro n
    induction n with
    | zero => intro m h; exact h0 m h.1 h.2
    | succ n ih =>
      rintro m ⟨b, h1, h2, h3⟩
      exact hs b m ⟨n, h1⟩ (ih b h1) h2 h3
  rintro m ⟨n, h⟩
  exact key n m h
theorem Rch.ne {ll : List (List Int)} {frm : List Int} {but m : Int} (h : Rch ll frm but m) : m ≠ but := by
  refine Rch.rec' (Q := fun m => m ≠ but) (fun m _ h => h) (fun b c _ _ _ h => h) m h
theorem mem_addL {met : List Int} {n m : Int} : m ∈ addL met n ↔ m ∈ met ∨ m = n := by
  unfold addL
  cases h : hasL met n with
  | true =>
    simp only [if_true]
    constructor
    · exact .inl
    · rintro (h1 | rfl)
      · exact h1
      · exact hasL_mem.1 h
  | false => simp
theorem mem_addB {but n m : Int} {met : List Int} : m ∈ addB but met n ↔ m ∈ met ∨ (m = n ∧ m ≠ but) := by
  unfold addB
  by_cases h : n = but
  · rw [if_pos h]
    constructor
    · exact .inl
    · rintro (h1 | ⟨rfl, h2⟩)
      · exact h1
      · exact absurd h h2
  · rw [if_neg h, mem_addL]
    constructor
    · rintro (h1 | rfl)
      · exact .inl h1
      · exact .inr ⟨rfl, h⟩
    · rintro (h1 | ⟨rfl, _⟩)
      · exact .inl h1
      · exact .inr rfl
theorem mem_addsB {but m : Int} : ∀ (l met : List Int), m ∈ addsB but met l ↔ m ∈ met ∨ (m ∈ l ∧ m ≠ but) := by
  intro l
  induction l with
  | nil => intro met; simp [addsB]
  | cons n l ih =>
    intro met
    have e : addsB but met (n :: l) = addsB but (addB but met n) l := rfl
    rw [e, ih, mem_addB]
    constructor
    · rintro ((h | ⟨rfl, h2⟩) | ⟨h1, h2⟩)
      · exact .inl h
      · exact .inr ⟨by simp, h2⟩
      · exact .inr ⟨by simp [h1], h2⟩
    · rintro (h | ⟨h1, h2⟩)
      · exact .inl (.inl h)
      · rcases List.mem_cons.1 h1 with rfl | h1
        · exact .inl (.inr ⟨rfl, h2⟩)
        · exact .inr ⟨h1, h2⟩
theorem addsB_prefix (but : Int) : ∀ (l met : List Int) (i : Nat) (m : Int), met[i]? = some m → (addsB but met l)[i]? = some m := by
  intro l
  induction l with
  | nil => intro met i m h; exact h
  | cons n l ih =>
    intro met i m h
    have e : addsB but met (n :: l) = addsB but (addB but met n) l := rfl
    rw [e]
    refine ih _ i m ?_
    unfold addB addL
    split
    · exact h
    · split
      · exact h
      · rw [List.getElem?_append_left (List.getElem?_eq_some_iff.1 h).1]; exact h
/-- The list is closed: who follows one of its first so many is in it. -/
def ClosedTo (ll : List (List Int)) (but : Int) (I : Nat) (met : List Int) : Prop := ∀ (j : Nat) (m c : Int), j < I → met[j]? = some m → c ∈ ll.getD m.toNat [] → c ≠ but → c ∈ met
theorem growE_spec {ll : List (List Int)} {but : Int} (hen : ∀ l ∈ ll, Num ll.length l) : ∀ (N I : Nat) (met : List Int), NumD ll.length met → I ≤ met.length → ll.length + 1 ≤ N + I → ClosedTo ll but I met →
    (∀ m ∈ met, m ∈ growE ll but N I met) ∧ (∀ m c, m ∈ growE ll but N I met → c ∈ ll.getD m.toNat [] → c ≠ but → c ∈ growE ll but N I met) ∧ NumD ll.length (growE ll but N I met) ∧
    (∀ Q : Int → Prop, (∀ m ∈ met, Q m) → (∀ m c, Q m → c ∈ ll.getD m.toNat [] → c ≠ but → Q c) → ∀ m ∈ growE ll but N I met, Q m) := by
  intro N
  induction N with
  | zero =>
    intro I met hn hI hf _
    have := fit_len _ _ hn.1 hn.2
    omega
  | succ N ih =>
    intro I met hn hI hf hc
    cases hm : met[I]? with
    | none =>
      have hl := List.getElem?_eq_none_iff.1 hm
      rw [growE_end hl]
      refine ⟨fun _ h => h, fun m c hm hcc hb => ?_, hn, fun Q h _ => h⟩
      obtain ⟨j, hj, rfl⟩ := List.mem_iff_getElem.1 hm
      exact hc j _ c (by omega) (List.getElem?_eq_getElem hj) hcc hb
    | some m =>
      rw [growE_step hm]
      have hml := hn.2 m (List.mem_of_getElem? hm)
      have hnum : Num ll.length (ll.getD m.toNat []) := by
        intro x hx
        rw [List.getD_eq_getElem?_getD] at hx
        cases hg : ll[m.toNat]? with
        | none => rw [hg] at hx; simp at hx
        | some l => rw [hg] at hx; exact hen l (List.mem_of_getElem? hg) x (by simpa using hx)
      have hge : met.length ≤ (addsB but met (ll.getD m.toNat [])).length := addsB_len _ _ _
      have hlt := (List.getElem?_eq_some_iff.1 hm).1
      obtain ⟨i1, i2, i3, i4⟩ := ih (I + 1) (addsB but met (ll.getD m.toNat [])) (NumD.addsB but _ _ hn hnum) (by omega) (by omega) (by
        intro j x c hj hx hcc hb
        rw [mem_addsB]
        by_cases e : j = I
        · subst e
          rw [addsB_prefix but _ _ _ _ hm] at hx
          injection hx with hx
          subst hx
          exact .inr ⟨hcc, hb⟩
        · have hjl : j < met.length := by omega
          have hx2 : met[j]? = some met[j] := List.getElem?_eq_getElem hjl
          rw [addsB_prefix but _ _ _ _ hx2] at hx
          injection hx with hx
          exact .inl (hc j x c (by omega) (by rw [hx2, hx]) hcc hb))
      refine ⟨fun x hx => i1 x (mem_addsB _ _ |>.2 (.inl hx)), i2, i3, fun Q h0 hs x hx => i4 Q ?_ hs x hx⟩
      intro y hy
      rcases (mem_addsB _ _).1 hy with hy | ⟨hy, hb⟩
      · exact h0 y hy
      · exact hs m y (h0 m (List.mem_of_getElem? hm)) hy hb
theorem metE_iff {ll : List (List Int)} {frm : List Int} {but : Int} (hen : ∀ l ∈ ll, Num ll.length l) (hfn : Num ll.length frm) (m : Int) : m ∈ metE ll frm but ↔ Rch ll frm but m := by
  obtain ⟨h1, h2, _, h4⟩ := growE_spec (but := but) hen (ll.length + 1) 0 (addsB but [] frm) (NumD.addsB but _ _ (NumD.nil _) hfn) (Nat.zero_le _) (by omega) (fun j _ _ hj => by omega)
  constructor
  · intro hm
    refine h4 (Rch ll frm but) (fun x hx => ?_) (fun x c hx hc hb => hx.step hc hb) m hm
    rcases (mem_addsB _ _).1 hx with hx | ⟨hx, hb⟩
    · cases hx
    · exact Rch.start hx hb
  · intro hm
    refine Rch.rec' (Q := fun m => m ∈ metE ll frm but) (fun x hx hb => h1 x ((mem_addsB _ _).2 (.inr ⟨hx, hb⟩))) (fun x c _ hx hc hb => h2 x c hx hc hb) m hm
theorem metE_num {ll : List (List Int)} {frm : List Int} {but : Int} (hen : ∀ l ∈ ll, Num ll.length l) (hfn : Num ll.length frm) : NumD ll.length (metE ll frm but) :=
  (growE_spec (but := but) hen (ll.length + 1) 0 (addsB but [] frm) (NumD.addsB but _ _ (NumD.nil _) hfn) (Nat.zero_le _) (by omega) (fun j _ _ hj => by omega)).2.2.1
/-- Reached from the first block; and not by way of one. -/
def All (ll : List (List Int)) (m : Int) : Prop := Rch ll [0] (-1) m
/-- The one stands ahead of the other one. -/
def Ahd (ll : List (List Int)) (a b : Int) : Prop := All ll a ∧ All ll b ∧ (a = b ∨ ¬ Rch ll [0] a b)
theorem Rch.all {ll : List (List Int)} {a m : Int} (hen : ∀ l ∈ ll, Num ll.length l) (h : Rch ll [0] a m) : All ll m := by
  refine Rch.rec' (Q := fun m => All ll m) (fun m hm _ => Rch.start hm (by simp at hm; omega)) (fun b c _ hb hc _ => hb.step hc ?_) m h
  intro e
  rw [List.getD_eq_getElem?_getD] at hc
  cases hg : ll[b.toNat]? with
  | none => rw [hg] at hc; simp at hc
  | some l => rw [hg] at hc; have := hen l (List.mem_of_getElem? hg) c (by simpa using hc); omega
theorem Ahd.refl {ll : List (List Int)} {a : Int} (h : All ll a) : Ahd ll a a := ⟨h, h, .inl rfl⟩
theorem Ahd.trans {ll : List (List Int)} {a b c : Int} (h : Ahd ll a b) (k : Ahd ll b c) : Ahd ll a c := by
  refine ⟨h.1, k.2.1, ?_⟩
  rcases h.2.2 with rfl | h2
  · exact k.2.2
  rcases k.2.2 with rfl | k2
  · exact .inr h2
  right
  intro hr
  refine k2 (Rch.rec' (Q := fun m => Rch ll [0] b m) (fun m hm hb => Rch.start hm ?_) (fun x y hx hy hc hb => hy.step hc ?_) c hr)
  · rintro rfl
    exact h2 (Rch.start hm hb)
  · rintro rfl
    exact h2 (hx.step hc hb)
theorem Ahd.anti {ll : List (List Int)} {a b : Int} (h : Ahd ll a b) (k : Ahd ll b a) : a = b := by
  by_cases hab : a = b
  · exact hab
  exfalso
  have h2 := h.2.2.resolve_left hab
  have k2 := k.2.2.resolve_left (fun e => hab e.symm)
  have key : ∀ m, All ll m → Rch ll [0] a m ∧ Rch ll [0] b m := by
    refine Rch.rec' (fun m hm _ => ?_) (fun x y _ hx hc _ => ?_)
    · have ha : m ≠ a := by rintro rfl; exact k2 (Rch.start hm hab)
      have hb : m ≠ b := by rintro rfl; exact h2 (Rch.start hm ha)
      exact ⟨Rch.start hm ha, Rch.start hm hb⟩
    · have ha : y ≠ a := by rintro rfl; exact k2 (hx.2.step hc hab)
      have hb : y ≠ b := by rintro rfl; exact h2 (hx.1.step hc ha)
      exact ⟨hx.1.step hc ha, hx.2.step hc hb⟩
  exact h2 (key b h.2.1).1
theorem Ahd.chain {ll : List (List Int)} {x y z : Int} (h : Ahd ll x z) (k : Ahd ll y z) : Ahd ll x y ∨ Ahd ll y x := by
  by_cases h1 : Ahd ll x y
  · exact .inl h1
  by_cases h2 : Ahd ll y x
  · exact .inr h2
  exfalso
  have hxy : x ≠ y := by rintro rfl; exact h1 (Ahd.refl h.1)
  have r1 : Rch ll [0] x y := Classical.byContradiction fun e => h1 ⟨h.1, k.1, .inr e⟩
  have r2 : Rch ll [0] y x := Classical.byContradiction fun e => h2 ⟨k.1, h.1, .inr e⟩
  have key : ∀ m, All ll m → Rch ll [0] x m ∨ Rch ll [0] y m := by
    refine Rch.rec' (fun m hm _ => ?_) (fun b c _ hb hc _ => ?_)
    · by_cases e : m = x
      · subst e; exact .inr r2
      · exact .inl (Rch.start hm e)
    · rcases hb with hb | hb
      · by_cases e : c = x
        · subst e; exact .inr r2
        · exact .inl (hb.step hc e)
      · by_cases e : c = y
        · subst e; exact .inl r1
        · exact .inr (hb.step hc e)
  rcases key z h.2.1 with e | e
  · rcases h.2.2 with rfl | h3
    · exact h2 k
    · exact h3 e
  · rcases k.2.2 with rfl | k3
    · exact h1 h
    · exact k3 e
theorem Rch.not_first {ll : List (List Int)} {m : Int} : ¬ Rch ll [0] 0 m := by
  intro h
  exact Rch.rec' (Q := fun _ => False) (fun m hm hb => hb (by simpa using hm)) (fun _ _ _ h _ _ => h) m h
theorem All.first (ll : List (List Int)) : All ll 0 := Rch.start (by simp) (by omega)
theorem Ahd.first {ll : List (List Int)} {m : Int} (h : All ll m) : Ahd ll 0 m := ⟨All.first ll, h, .inr Rch.not_first⟩
/-- A way from the first block on: who is not on it is not needed. -/
def OnWay (ll : List (List Int)) (way : List Int) (k : Int) : Prop := k ∈ way ∧ All ll k ∧ ∀ a, a ∉ way → Rch ll [0] a k
theorem OnWay.start (ll : List (List Int)) : OnWay ll [0] 0 := ⟨by simp, All.first ll, fun a ha => Rch.start (by simp) (fun e => ha (by simp [e]))⟩
theorem OnWay.step {ll : List (List Int)} {way : List Int} {k c : Int} (h : OnWay ll way k) (hc : c ∈ ll.getD k.toNat []) (h0 : 0 ≤ c) : OnWay ll (way ++ [c]) c := by
  refine ⟨by simp, h.2.1.step hc (by omega), fun a ha => ?_⟩
  refine (h.2.2 a (fun e => ha (by simp [e]))).step hc (fun e => ha (by simp [e]))
theorem OnWay.ahead {ll : List (List Int)} {way : List Int} {k a : Int} (h : OnWay ll way k) (ha : Ahd ll a k) : a ∈ way := by
  refine Classical.byContradiction fun e => ?_
  rcases ha.2.2 with rfl | h2
  · exact e h.1
  · exact h2 (h.2.2 a e)
end Go.Proofs.Ytnlcpfijfjbgjaa
