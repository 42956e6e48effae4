/- Layer 7: how long the text of a program is; programs that are not too great; what is alike but for where it stands. -/
import Derived.Test.YtahhbckccdigoaaGreatDoorMbAY
import Derived.Test.YtahhbckccdigoaaGreatDoorMbBB
import Derived.Test.YtahhbckccdigoaaGreatDoorMbBK
import Derived.Test.YtahhbckccdigoaaGreatDoorMbBL
set_option maxHeartbeats 8000000
set_option maxRecDepth 20000
namespace Go.Proofs.YtahhbckccdigoaaGreatDoor
open Go Go.RowKit
open G (Tok Er Ins Fun peek0 peek1 atOf MayI MayF Fits Vals Labs noI noB noF)
abbrev gI (x : Ins) : Nat := G.wI dig iwF mksF x
abbrev gB (b : List Ins) : Nat := G.wB dig iwF mksF b
abbrev gF (f : Fun) : Nat := G.wF dig iwF mksF f
def gP (p : List Fun) : Nat := (p.map gF).sum
theorem insT_short {x : Ins} (h : MayX x) : (insT x).length + 3 <= 28 * gI x := by
  have h1 := lens_le (insW x) 24 fun u hu => (gd_ins h u hu).2
  have h2 : 1 <= (insW x).length := by unfold insW; simp; omega
  have h3 : (insW x).length <= gI x := by
    show (insX x).length <= (insX x).length + _ + _
    omega
  unfold insT
  rw [jn_len]
  simp only [List.length_cons, List.length_nil]
  omega
theorem lines_short : ∀ b : List Ins, (∀ x ∈ b, MayX x) -> ((b.flatMap lineW).flatten).length <= 28 * (b.map gI).sum
  | [], _ => by simp
  | x :: b, h => by
    have h1 := insT_short (h x (by simp))
    have h2 := lines_short b fun y hy => h y (by simp [hy])
    have e : ((lineW x ++ b.flatMap lineW).flatten).length = (insT x).length + 3 + ((b.flatMap lineW).flatten).length := by
      rw [List.flatten_append, List.length_append]; simp [lineW]
    rw [List.flatMap_cons, e, List.map_cons, List.sum_cons]
    omega
theorem blks_short : ∀ (bl : List (List Ins)) (k : Nat), k + bl.length <= 256 -> (∀ b ∈ bl, ∀ x ∈ b, MayX x) -> ((blksW k bl).flatten).length <= 28 * (bl.map gB).sum
  | [], _, _, _ => by simp [blksW]
  | b :: bl, k, hk, h => by
    simp only [List.length_cons] at hk
    have h1 := lines_short b (h b (by simp))
    have h2 := blks_short bl (k + 1) (by omega) fun c hc => h c (by simp [hc])
    have h3 := lab_len (n := (k : Int)) ⟨by omega, by omega⟩
    have e : ((blksW k (b :: bl)).flatten).length = (labW (k : Int)).length + 2 + ((b.flatMap lineW).flatten).length + ((blksW (k + 1) bl).flatten).length := by
      rw [blksW, blkW_line]; simp; omega
    have e2 : gB b = (b.map gI).sum + 2 := rfl
    rw [e, List.map_cons, List.sum_cons, e2]
    omega
theorem parT_len (ps : List Int) : (parT ps).length <= ps.length * 2 := by
  have := jn_short (sep := [32]) (l := ps.map letL) (m := 1) (fun x hx => by
    obtain ⟨t, _, rfl⟩ := List.mem_map.1 hx
    exact letL_len t) (by simp)
  rw [List.length_map] at this
  exact this
theorem fun_short {f : Fun} (h : MayG f) : (funT f).length <= 28 * gF f := by
  obtain ⟨g1, g2, g3, g4, g5, g6, g7⟩ := h
  obtain ⟨_, n2, _⟩ := nam_parts g1
  have h1 := blks_short f.2.2.2.1 0 (by omega) g7
  have h2 := parT_len f.2.1
  have h3 := letL_len f.2.2.1
  have e : (funT f).length = 5 + f.1.length + 1 + (parT f.2.1).length + 2 + (letL f.2.2.1).length + 3 + ((blksW 0 f.2.2.2.1).flatten).length + 2 := by
    unfold funT
    rw [jn_nil]
    unfold funW headW
    simp
    omega
  have e2 : gF f = f.2.1.length + (f.2.2.2.1.map gB).sum + 7 := rfl
  rw [e, e2]
  omega
theorem prog_short : ∀ p : List Fun, (∀ f ∈ p, MayG f) -> (progT p).length <= 28 * gP p
  | [], _ => by simp [progT, jn]
  | f :: p, h => by
    have h1 := fun_short (h f (by simp))
    have h2 := prog_short p fun g hg => h g (by simp [hg])
    have e : progT (f :: p) = funT f ++ progT p := by unfold progT; rw [jn_nil, jn_nil]; simp
    have e2 : gP (f :: p) = gF f + gP p := by simp [gP]
    rw [e, List.length_append, e2]
    omega
theorem mem_sum {α : Type} (g : α -> Nat) {l : List α} {x : α} (h : x ∈ l) : g x <= (l.map g).sum := by
  induction l with
  | nil => cases h
  | cons y l ih =>
    rw [List.map_cons, List.sum_cons]
    rcases List.mem_cons.1 h with rfl | h
    . omega
    . have := ih h; omega
def Sm (p : List Fun) : Prop := MayP p /\ gP p <= 2300 /\ ∀ f ∈ p, ∀ b ∈ f.2.2.2.1, ∀ x ∈ b, x.2.2.2.2.1.length <= 1000 /\ x.2.2.2.2.2.1.length <= 1000
theorem lines_len (b : List Ins) : (b.flatMap lineW).length = 3 * b.length := by
  induction b with
  | nil => rfl
  | cons x b ih => rw [List.flatMap_cons, List.length_append, ih]; simp [lineW]; omega
theorem gI_pos (x : Ins) : 1 <= gI x := by
  show 1 <= (insX x).length + _ + _
  have : 1 <= (insX x).length := by unfold insX G.insS; simp; omega
  omega
theorem sum_pos {b : List Ins} : b.length <= (b.map gI).sum := by
  induction b with
  | nil => simp
  | cons x b ih => have := gI_pos x; rw [List.map_cons, List.sum_cons, List.length_cons]; omega
theorem blksW_few (bl : List (List Ins)) : ∀ k, (blksW k bl).length <= 3 * (bl.map gB).sum := by
  induction bl with
  | nil => intro k; simp [blksW]
  | cons b bl ih =>
    intro k
    have h1 := ih (k + 1)
    have h2 := sum_pos (b := b)
    have e : gB b = (b.map gI).sum + 2 := rfl
    rw [blksW, blkW_line, List.length_append, List.length_append, lines_len, List.map_cons, List.sum_cons, e]
    simp only [List.length_cons, List.length_nil]
    omega
theorem fits_nm {op n : Int} {ar tt : List Int} {nm : List UInt8} (h10 : ¬ op = 10) (h21 : ¬ op = 21) (h : Fits namF shpF tksF op n ar tt nm) : nm = [] := by
  unfold Fits at h
  simp only [h10, h21, if_false] at h
  grind (splits := 24)
theorem fits_few {op n : Int} {ar tt : List Int} {nm : List UInt8} (h20 : ¬ op = 20) (h21 : ¬ op = 21) (h : Fits namF shpF tksF op n ar tt nm) : tt.length <= 2 /\ ar.length <= 2 := by
  have ht2 : tksF op <= 2 := by unfold tksF L5.takes; exact List.length_filter_le _ _
  unfold Fits at h
  simp only [h20, h21, if_false] at h
  grind (splits := 24)
theorem Sm.fin7 {p : List Fun} (h : Sm p) {f : Fun} (hf : f ∈ p) {b : List Ins} (hb : b ∈ f.2.2.2.1) {x : Ins} (hx : x ∈ b) : Fin7 x := by
  obtain ⟨hM, _, hL⟩ := h
  obtain ⟨l1, l2⟩ := hL f hf b hb x hx
  have hm := (hM.1 f hf).2.2.2.2.2.2 b hb x hx
  obtain ⟨op, id, n, ty, ar, tt, nm, pl⟩ := x
  obtain ⟨g1, g2, g3, g4, g5, g6⟩ := hm
  dsimp only at g1 g2 g3 g4 g5 g6 l1 l2
  refine ⟨?_, fits_i64 g6, fun i hi => ?_, fun i hi => ?_, l1, l2, ?_, ?_, ?_⟩
  . show I64 id
    by_cases hz : mksF op ty = 0
    . have := g2 hz; unfold I64; omega
    . have := g3 hz; unfold I64; omega
  . have := g4 i hi; unfold I64; omega
  . have := g5 i hi; unfold I64; omega
  . show nm.length <= 1000
    by_cases h10 : op = 10
    . subst h10; simp [Fits] at g6; have := (shp_parts g6.2.2.2).2.1; omega
    . by_cases h21 : op = 21
      . subst h21; simp [Fits] at g6; have := (nam_parts g6.2.2.2).2.1; omega
      . have : nm = [] := fits_nm h10 h21 g6
        subst this; simp
  . show memOp op -> ar ≠ []
    intro hmem e
    subst e
    unfold memOp at hmem
    rcases hmem with rfl | rfl | rfl | rfl | rfl | rfl <;> simp [Fits] at g6
  . show op = 20 -> tt.length = ar.length /\ 1 <= ar.length
    intro e
    subst e
    simp [Fits] at g6
    refine ⟨g6.1.symm, ?_⟩
    have : tt.length ≠ 0 := fun e => g6.2.1 (List.length_eq_zero_iff.1 e)
    omega
theorem Sm.fin {p : List Fun} (h : Sm p) : FinP p := by
  refine ⟨by have := h.1.2.1; omega, fun f hf => ?_⟩
  have hm := h.1.1 f hf
  have h1 := fun_short hm
  have h3 := mem_sum gF hf
  have e3 : gP p = (p.map gF).sum := rfl
  have e2 : gF f = f.2.1.length + (f.2.2.2.1.map gB).sum + 7 := rfl
  have h4 := blksW_few f.2.2.2.1 0
  have h5 := h.2.1
  obtain ⟨g1, g2, _⟩ := hm
  refine ⟨⟨by have := (nam_parts g1).2.1; omega, by omega, by omega, fun b hb x hx => h.fin7 hf hb hx⟩, by omega⟩
theorem Sm.size {p : List Fun} (h : Sm p) : (bs (progT p)).size <= 65536 := by
  have h1 := prog_short p h.1.1
  have h2 := h.2.1
  rw [bs_size]; omega
theorem gI_le {x : Ins} (h : MayX x) : gI x <= 15 * wI x := by
  obtain ⟨op, id, n, ty, ar, tt, nm, pl⟩ := x
  obtain ⟨g1, g2, g3, g4, g5, g6⟩ := h
  dsimp only at g6
  have hw : wI (op, id, n, ty, ar, tt, nm, pl) = 1 + ar.length / 4 + tt.length / 4 + nm.length / 30 := rfl
  have hg : gI (op, id, n, ty, ar, tt, nm, pl) <= 3 + (G.opdS dig (op, id, n, ty, ar, tt, nm, pl)).length + ar.length + tt.length := by
    show (insX (op, id, n, ty, ar, tt, nm, pl)).length + ar.length + tt.length <= _
    unfold insX G.insS
    dsimp only
    simp only [List.length_append, List.length_cons, List.length_nil]
    split <;> simp <;> omega
  rw [hw]
  refine Nat.le_trans hg ?_
  by_cases h20 : op = 20
  . subst h20
    simp [Fits] at g6
    have := G.pairs_len (dig := dig) tt ar g6.1
    have e : (G.opdS dig (20, id, n, ty, ar, tt, nm, pl)) = (tt.zip ar).flatMap fun q => [98 :: dig q.1, 37 :: dig q.2] := by simp [G.opdS]
    rw [e, this]
    omega
  by_cases h21 : op = 21
  . subst h21
    simp [Fits] at g6
    obtain ⟨rfl, _⟩ := g6
    have e : (G.opdS dig (21, id, n, ty, ar, [], nm, pl)).length <= 2 + ar.length := by
      simp only [G.opdS]
      simp
      split <;> simp <;> omega
    simp only [List.length_nil]
    omega
  have ht := fits_few h20 h21 g6
  have e : (G.opdS dig (op, id, n, ty, ar, tt, nm, pl)).length <= 1 + ar.length + tt.length := by
    unfold G.opdS
    dsimp only
    repeat' split
    all_goals first
      | (exfalso; omega)
      | (simp; done)
      | (simp; omega)
  omega
theorem sum_le15 {α : Type} (g k : α -> Nat) (l : List α) (h : ∀ x ∈ l, g x <= 15 * k x) : (l.map g).sum <= 15 * (l.map k).sum := by
  induction l with
  | nil => simp
  | cons x l ih =>
    have h1 := h x (by simp)
    have h2 := ih fun y hy => h y (by simp [hy])
    simp only [List.map_cons, List.sum_cons]
    omega
theorem sum_add {α : Type} (g : α -> Nat) (c : Nat) (l : List α) : (l.map fun x => g x + c).sum = (l.map g).sum + c * l.length := by
  induction l with
  | nil => simp
  | cons x l ih => simp only [List.map_cons, List.sum_cons, ih, List.length_cons, Nat.mul_add]; omega
theorem Sm.of_light {p : List Fun} (h : MayP p) (hl : lightB p = true) : Sm p := by
  have hT : total p <= 150 := by simpa [lightB] using hl
  have hB : ∀ f ∈ p, gF f <= 15 * (wF f + 1) := by
    intro f hf
    have hm := (h.1 f hf).2.2.2.2.2.2
    have h1 : (f.2.2.2.1.map gB).sum <= 15 * wBs f.2.2.2.1 + 2 * f.2.2.2.1.length := by
      have e : (f.2.2.2.1.map gB).sum = (f.2.2.2.1.map fun b => (b.map gI).sum).sum + 2 * f.2.2.2.1.length := sum_add _ 2 _
      rw [e]
      have := sum_le15 (fun b : List Ins => (b.map gI).sum) wB f.2.2.2.1 fun b hb => sum_le15 gI wI b fun x hx => gI_le (hm b hb x hx)
      have e2 : wBs f.2.2.2.1 = (f.2.2.2.1.map wB).sum := rfl
      omega
    have e2 : gF f = f.2.1.length + (f.2.2.2.1.map gB).sum + 7 := rfl
    have e3 : wF f = f.2.2.2.1.length + f.2.1.length + f.1.length / 30 + wBs f.2.2.2.1 := rfl
    omega
  have hS := sum_le15 gF (fun f => wF f + 1) p hB
  have e : (p.map fun f => wF f + 1).sum = (p.map wF).sum + 1 * p.length := sum_add _ 1 _
  have e2 : total p = p.length + (p.map wF).sum := rfl
  have e3 : gP p = (p.map gF).sum := rfl
  refine ⟨h, by omega, fun f hf b hb x hx => ?_⟩
  have k1 := mem_sum wI hx
  have k2 := mem_sum wB hb
  have k3 := mem_sum wF hf
  have e4 : wB b = (b.map wI).sum := rfl
  have e5 : wF f = wF0 f + (f.2.2.2.1.map wB).sum := rfl
  have e6 : wI x = 1 + x.2.2.2.2.1.length / 4 + x.2.2.2.2.2.1.length / 4 + x.2.2.2.2.2.2.1.length / 30 := rfl
  omega
end Go.Proofs.YtahhbckccdigoaaGreatDoor
namespace Go.Proofs.YtahhbckccdigoaaGreatDoor
open Go Go.RowKit
open G (Tok Er Ins Fun noI noB noF)
theorem rints_same (l : List Int) (ao bo : Option Addr) (ca cb : Nat) (w : World) (hl : l.length <= maxLen) (ha : Sl w ao l) (hb : Sl w bo l) :
    Calls Tryz.prog 86 #[.slice ao l.length ca, .slice bo l.length cb] w fun e w' => e = .returned (.bool true) /\ Below w.heap.size w w' := by
  unfold maxLen at hl
  have HA := hide ha
  have HB := hide hb
  clear ha hb
  go_enter Tryz.func86, Tryz.ntmps86
  go_wp2
  go_loopw [5] (fun i wr => ∃ k : Nat, k <= l.length /\ i = .int .i64 k /\ Below w.heap.size w wr) (fun i _ => l.length - (intOf i).toNat)
  case atStart => exact ⟨0, Nat.zero_le _, rfl, Below.refl _ _⟩
  case round =>
    obtain ⟨k, hk, rfl, hB⟩ := hrel
    replace hB := hide hB
    by_cases hlt : k < l.length
    . obtain ⟨n, hn⟩ : ∃ n, l[k]? = some n := ⟨l[k], List.getElem?_eq_getElem hlt⟩
      rcases HA.out with he | ⟨a, oa, rfl, hal, ha⟩
      . subst he; simp at hlt
      rcases HB.out with he | ⟨b, ob, rfl, hbl, hb⟩
      . subst he; simp at hlt
      have hB2 := fun x => below_step hB.out (L5.grewTo_below wr x)
      have c1 := fun x => ((hB2 x).cell (p := ⟨a, oa + k, none⟩) hal).trans (ha k n hn)
      have c2 := fun x => ((hB2 x).cell (p := ⟨b, ob + k, none⟩) hbl).trans (hb k n hn)
      replace hB2 := hide hB2
      clear ha hb hn
      go_wp2
      refine L5.region_grew (by kernel_rfl) (by kernel_rfl) ?_
      repeat (go_big_quiet_step (fail))
      refine wpQuiet_nil ?_
      rintro _ ⟨x, rfl⟩
      go_wp2_with fail
      go_roundw
      case rel => exact ⟨k + 1, by omega, by go_num, hB2.out x⟩
      case measure => simp [intOf]; omega
    . go_wp2
      go_ret
      exact ⟨rfl, hB.out⟩
theorem rsame_ins (op id nn ty pp qq : Int) (ar tt : List Int) (s : ByteArray) (ao to bo uo : Option Addr) (ca ct cb cu : Nat) (w : World) (la : ar.length <= maxLen) (lt : tt.length <= maxLen) (ha : Sl w ao ar) (ht : Sl w to tt) (hb : Sl w bo ar) (hu : Sl w uo tt) :
    Calls Tryz.prog 87 #[.agg #[.int .i64 op, .int .i64 id, .int .i64 nn, .int .i64 ty, .slice ao ar.length ca, .slice to tt.length ct, .string s, .int .i64 pp], .agg #[.int .i64 op, .int .i64 id, .int .i64 nn, .int .i64 ty, .slice bo ar.length cb, .slice uo tt.length cu, .string s, .int .i64 qq]] w fun e w' => e = .returned (.bool true) /\ Below w.heap.size w w' := by
  have b0 := below_step (below_box w (.cells #[.int .i64 op, .int .i64 id, .int .i64 nn, .int .i64 ty, .slice ao ar.length ca, .slice to tt.length ct, .string s, .int .i64 pp] 39)) (below_box (w.alloc (.cells #[.int .i64 op, .int .i64 id, .int .i64 nn, .int .i64 ty, .slice ao ar.length ca, .slice to tt.length ct, .string s, .int .i64 pp] 39)) (.cells #[.int .i64 op, .int .i64 id, .int .i64 nn, .int .i64 ty, .slice bo ar.length cb, .slice uo tt.length cu, .string s, .int .i64 qq] 39))
  have B1 := hide (L5.Box.new w [.int .i64 op, .int .i64 id, .int .i64 nn, .int .i64 ty, .slice ao ar.length ca, .slice to tt.length ct, .string s, .int .i64 pp] 39)
  have B2 := hide (B1.out.below (below_box (w.alloc (.cells #[.int .i64 op, .int .i64 id, .int .i64 nn, .int .i64 ty, .slice ao ar.length ca, .slice to tt.length ct, .string s, .int .i64 pp] 39)) (.cells #[.int .i64 op, .int .i64 id, .int .i64 nn, .int .i64 ty, .slice bo ar.length cb, .slice uo tt.length cu, .string s, .int .i64 qq] 39)))
  have B3 : Hid (L5.Box _ (w.heap.size + 1) _) := hide (by
    have := L5.Box.new (w.alloc (.cells #[.int .i64 op, .int .i64 id, .int .i64 nn, .int .i64 ty, .slice ao ar.length ca, .slice to tt.length ct, .string s, .int .i64 pp] 39)) [.int .i64 op, .int .i64 id, .int .i64 nn, .int .i64 ty, .slice bo ar.length cb, .slice uo tt.length cu, .string s, .int .i64 qq] 39
    rwa [show (w.alloc (.cells #[.int .i64 op, .int .i64 id, .int .i64 nn, .int .i64 ty, .slice ao ar.length ca, .slice to tt.length ct, .string s, .int .i64 pp] 39)).heap.size = w.heap.size + 1 from by simp] at this)
  have H1 := hide (ha.below b0)
  have H2 := hide (ht.below b0)
  have H3 := hide (hb.below b0)
  have H4 := hide (hu.below b0)
  have b0 := hide b0
  clear ha ht hb hu B1
  go_enter Tryz.func87, Tryz.ntmps87
  go_upto_region 1 with fail
  show Code.wp _ _ _ _ ((w.alloc (.cells #[.int .i64 op, .int .i64 id, .int .i64 nn, .int .i64 ty, .slice ao ar.length ca, .slice to tt.length ct, .string s, .int .i64 pp] 39)).alloc (.cells #[.int .i64 op, .int .i64 id, .int .i64 nn, .int .i64 ty, .slice bo ar.length cb, .slice uo tt.length cu, .string s, .int .i64 qq] 39))
  replace B2 : Hid (L5.Box ((w.alloc (.cells #[.int .i64 op, .int .i64 id, .int .i64 nn, .int .i64 ty, .slice ao ar.length ca, .slice to tt.length ct, .string s, .int .i64 pp] 39)).alloc (.cells #[.int .i64 op, .int .i64 id, .int .i64 nn, .int .i64 ty, .slice bo ar.length cb, .slice uo tt.length cu, .string s, .int .i64 qq] 39)) w.heap.size [.int .i64 op, .int .i64 id, .int .i64 nn, .int .i64 ty, .slice ao ar.length ca, .slice to tt.length ct, .string s, .int .i64 pp]) := B2
  replace B3 : Hid (L5.Box ((w.alloc (.cells #[.int .i64 op, .int .i64 id, .int .i64 nn, .int .i64 ty, .slice ao ar.length ca, .slice to tt.length ct, .string s, .int .i64 pp] 39)).alloc (.cells #[.int .i64 op, .int .i64 id, .int .i64 nn, .int .i64 ty, .slice bo ar.length cb, .slice uo tt.length cu, .string s, .int .i64 qq] 39)) (w.heap.size + 1) [.int .i64 op, .int .i64 id, .int .i64 nn, .int .i64 ty, .slice bo ar.length cb, .slice uo tt.length cu, .string s, .int .i64 qq]) := B3
  generalize (w.alloc (.cells #[.int .i64 op, .int .i64 id, .int .i64 nn, .int .i64 ty, .slice ao ar.length ca, .slice to tt.length ct, .string s, .int .i64 pp] 39)).alloc (.cells #[.int .i64 op, .int .i64 id, .int .i64 nn, .int .i64 ty, .slice bo ar.length cb, .slice uo tt.length cu, .string s, .int .i64 qq] 39) = W at *
  have x0 := B2.out.2 0 _ rfl
  have x1 := B2.out.2 1 _ rfl
  have x2 := B2.out.2 2 _ rfl
  have x3 := B2.out.2 3 _ rfl
  have x4 := B2.out.2 4 _ rfl
  have x6 := B2.out.2 6 _ rfl
  have y0 := B3.out.2 0 _ rfl
  have y1 := B3.out.2 1 _ rfl
  have y2 := B3.out.2 2 _ rfl
  have y3 := B3.out.2 3 _ rfl
  have y4 := B3.out.2 4 _ rfl
  have y6 := B3.out.2 6 _ rfl
  go_wp2_with fail
  refine (rints_same ar ao bo ca cb _ la H1.out H3.out).mono ?_; rintro e w1 ⟨rfl, b1⟩
  clear x0 x1 x2 x3 x4 x6 y0 y1 y2 y3 y4 y6
  have x5 := (B2.out.below b1).2 5 _ rfl
  have y5 := (B3.out.below b1).2 5 _ rfl
  replace b1 := hide b1
  go_wp2_with fail
  refine (rints_same tt to uo ct cu _ lt (H2.out.below b1.out) (H4.out.below b1.out)).mono ?_; rintro e w2 ⟨rfl, b2⟩
  go_wp2_with fail
  go_ret
  exact ⟨rfl, below_step (below_step b0.out b1.out) b2⟩
theorem same_at {α β : Type} {f : α -> β} {l m : List α} (h : l.map f = m.map f) {i : Nat} {y : α} (hy : m[i]? = some y) : ∃ x, l[i]? = some x /\ f x = f y := by
  have e := congrArg (·[i]?) h
  simp only [List.getElem?_map, hy, Option.map_some] at e
  cases hx : l[i]? with
  | none => rw [hx] at e; cases e
  | some x => rw [hx] at e; exact ⟨x, rfl, Option.some.inj e⟩
theorem same_len {α β : Type} {f : α -> β} {l m : List α} (h : l.map f = m.map f) : l.length = m.length := by
  have := congrArg List.length h
  simpa using this
theorem noI_eq {x y : Ins} (h : noI x = noI y) : ∃ op id n ty ar tt nm p q, x = (op, id, n, ty, ar, tt, nm, p) /\ y = (op, id, n, ty, ar, tt, nm, q) := by
  obtain ⟨a0, a1, a2, a3, a4, a5, a6, a7⟩ := x
  obtain ⟨b0, b1, b2, b3, b4, b5, b6, b7⟩ := y
  simp only [noI, Prod.mk.injEq] at h
  obtain ⟨rfl, rfl, rfl, rfl, rfl, rfl, rfl, _⟩ := h
  exact ⟨_, _, _, _, _, _, _, _, _, rfl, rfl⟩
theorem noF_eq {x y : Fun} (h : noF x = noF y) : ∃ nm ps rt bl bm p q, x = (nm, ps, rt, bl, p) /\ y = (nm, ps, rt, bm, q) /\ bl.map noB = bm.map noB := by
  obtain ⟨a0, a1, a2, a3, a4⟩ := x
  obtain ⟨b0, b1, b2, b3, b4⟩ := y
  simp only [noF, Prod.mk.injEq] at h
  obtain ⟨rfl, rfl, rfl, h, _⟩ := h
  exact ⟨_, _, _, _, _, _, _, rfl, rfl, h⟩
theorem rsame_fun (nm : List UInt8) (ps : List Int) (rt pl ql : Int) (bl bm : List (List Ins)) (hlike : bm.map noB = bl.map noB) (ao bo uo vo : Option Addr) (ca cb cu cv : Nat) (w : World) (lp : ps.length <= maxLen) (lb : bl.length <= maxLen)
    (ha : Sl w ao ps) (hb : BlksR w bm (.slice bo bl.length cb)) (hu : Sl w uo ps) (hv : BlksR w bl (.slice vo bl.length cv)) :
    Calls Tryz.prog 56 #[.agg #[.string (bs nm), .slice ao ps.length ca, .int .i64 rt, .slice bo bl.length cb, .int .i64 pl], .agg #[.string (bs nm), .slice uo ps.length cu, .int .i64 rt, .slice vo bl.length cv, .int .i64 ql]] w fun e w' => e = .returned (.bool true) /\ Below w.heap.size w w' := by
  have b0 := below_step (below_box w (.cells #[.string (bs nm), .slice ao ps.length ca, .int .i64 rt, .slice bo bl.length cb, .int .i64 pl] 34)) (below_box (w.alloc (.cells #[.string (bs nm), .slice ao ps.length ca, .int .i64 rt, .slice bo bl.length cb, .int .i64 pl] 34)) (.cells #[.string (bs nm), .slice uo ps.length cu, .int .i64 rt, .slice vo bl.length cv, .int .i64 ql] 34))
  have B1 := hide (L5.Box.new w [.string (bs nm), .slice ao ps.length ca, .int .i64 rt, .slice bo bl.length cb, .int .i64 pl] 34)
  have B2 : Hid (L5.Box ((w.alloc (.cells #[.string (bs nm), .slice ao ps.length ca, .int .i64 rt, .slice bo bl.length cb, .int .i64 pl] 34)).alloc (.cells #[.string (bs nm), .slice uo ps.length cu, .int .i64 rt, .slice vo bl.length cv, .int .i64 ql] 34)) w.heap.size [.string (bs nm), .slice ao ps.length ca, .int .i64 rt, .slice bo bl.length cb, .int .i64 pl]) := hide (B1.out.below (below_box (w.alloc (.cells #[.string (bs nm), .slice ao ps.length ca, .int .i64 rt, .slice bo bl.length cb, .int .i64 pl] 34)) (.cells #[.string (bs nm), .slice uo ps.length cu, .int .i64 rt, .slice vo bl.length cv, .int .i64 ql] 34)))
  have B3 : Hid (L5.Box ((w.alloc (.cells #[.string (bs nm), .slice ao ps.length ca, .int .i64 rt, .slice bo bl.length cb, .int .i64 pl] 34)).alloc (.cells #[.string (bs nm), .slice uo ps.length cu, .int .i64 rt, .slice vo bl.length cv, .int .i64 ql] 34)) (w.heap.size + 1) [.string (bs nm), .slice uo ps.length cu, .int .i64 rt, .slice vo bl.length cv, .int .i64 ql]) := hide (by
    have := L5.Box.new (w.alloc (.cells #[.string (bs nm), .slice ao ps.length ca, .int .i64 rt, .slice bo bl.length cb, .int .i64 pl] 34)) [.string (bs nm), .slice uo ps.length cu, .int .i64 rt, .slice vo bl.length cv, .int .i64 ql] 34
    rwa [show (w.alloc (.cells #[.string (bs nm), .slice ao ps.length ca, .int .i64 rt, .slice bo bl.length cb, .int .i64 pl] 34)).heap.size = w.heap.size + 1 from by simp] at this)
  have H1 := hide (ha.below b0)
  have H2 := hide (hb.below b0)
  have H3 := hide (hu.below b0)
  have H4 := hide (hv.below b0)
  have b0 := hide b0
  clear ha hb hu hv B1
  replace hlike := hide hlike
  go_enter Tryz.func56, Tryz.ntmps56
  go_upto_region 1 with fail
  show Code.wp _ _ _ _ ((w.alloc (.cells #[.string (bs nm), .slice ao ps.length ca, .int .i64 rt, .slice bo bl.length cb, .int .i64 pl] 34)).alloc (.cells #[.string (bs nm), .slice uo ps.length cu, .int .i64 rt, .slice vo bl.length cv, .int .i64 ql] 34))
  generalize (w.alloc (.cells #[.string (bs nm), .slice ao ps.length ca, .int .i64 rt, .slice bo bl.length cb, .int .i64 pl] 34)).alloc (.cells #[.string (bs nm), .slice uo ps.length cu, .int .i64 rt, .slice vo bl.length cv, .int .i64 ql] 34) = W at *
  have x0 := B2.out.2 0 _ rfl
  have x1 := B2.out.2 1 _ rfl
  have x2 := B2.out.2 2 _ rfl
  have y0 := B3.out.2 0 _ rfl
  have y1 := B3.out.2 1 _ rfl
  have y2 := B3.out.2 2 _ rfl
  go_wp2_with fail
  refine (rints_same ps ao uo ca cu _ lp H1.out H3.out).mono ?_; rintro e w1 ⟨rfl, b1⟩
  clear x0 x1 x2 y0 y1 y2 H1 H3
  have x3 := (B2.out.below b1).2 3 _ rfl
  have y3 := (B3.out.below b1).2 3 _ rfl
  replace b1 := hide b1
  go_wp2_with fail
  clear x3 y3
  unfold maxLen at lb
  go_loopw [5] (fun k wr => ∃ K : Nat, k = .int .i64 K /\ K <= bl.length /\ Below W.heap.size W wr) (fun k _ => bl.length - (intOf k).toNat)
  case atStart => exact ⟨0, rfl, Nat.zero_le _, b1.out⟩
  case round =>
    obtain ⟨K, rfl, hK, hB⟩ := hrel
    have x3 := (B2.out.below hB).2 3 _ rfl
    replace hB := hide hB
    by_cases hkt : K < bl.length
    . obtain ⟨b, hbK⟩ : ∃ b, bl[K]? = some b := ⟨bl[K], List.getElem?_eq_some_iff.2 ⟨hkt, rfl⟩⟩
      obtain ⟨d, hdK, hdb⟩ := same_at hlike.out hbK
      obtain ⟨_, _, e0, _, _, h2⟩ := H2.out
      injection e0 with e1 e2 e3
      subst e1 e3
      clear e2
      rcases h2 with h2 | ⟨gb, ob, rfl, gk, h2⟩
      . subst h2; simp at hdK
      obtain ⟨_, _, e0, _, _, h4⟩ := H4.out
      injection e0 with e1 e2 e3
      subst e1 e3
      clear e2
      rcases h4 with h4 | ⟨gc, oc, rfl, gl, h4⟩
      . subst h4; simp at hkt
      obtain ⟨vk, kd, kk⟩ := h2 K d hdK
      obtain ⟨vl, ke, kl⟩ := h4 K b hbK
      clear h2 h4
      obtain ⟨aok, capk, hvk, _, _, kk⟩ := kk
      rw [same_len hdb] at hvk
      subst hvk
      obtain ⟨aol, capl, rfl, l1, l2, kl⟩ := kl
      have gk := hide gk
      have gl := hide gl
      have lk : b.length <= maxLen := Nat.le_trans l1 l2
      unfold maxLen at lk
      clear l1 l2
      replace kk := hide kk
      replace kl := hide kl
      replace kd := hide kd
      replace ke := hide ke
      replace hdb := hide hdb
      clear hdK hbK
      have hB2 := fun x => below_step hB.out (L5.grewTo_below wr x)
      have u3 := fun x => (B2.out.below (hB2 x)).2 3 _ rfl
      have v3 := fun x => (B3.out.below (hB2 x)).2 3 _ rfl
      have ud := fun x => ((hB2 x).cell (p := ⟨gb, ob + K, none⟩) gk.out).trans kd.out
      have vd := fun x => ((hB2 x).cell (p := ⟨gc, oc + K, none⟩) gl.out).trans ke.out
      replace hB2 := hide hB2
      go_wp2_with fail
      refine L5.region_grew (by kernel_rfl) (by kernel_rfl) ?_
      repeat (go_big_quiet_step (fail))
      refine wpQuiet_nil ?_
      rintro _ ⟨x, rfl⟩
      clear u3 v3 ud vd x3
      have hBx := hide (hB2.out x)
      go_wp2_with fail
      obtain ⟨wo, hwo⟩ : ∃ wo : World, wo = L5.grewTo wr x := ⟨_, rfl⟩
      rw [<- hwo] at hBx
      rw [<- hwo]
      clear hB2 hB hwo
      go_loopw [6] (fun j wr => ∃ J : Nat, j = .int .i64 J /\ J <= b.length /\ Below W.heap.size W wr) (fun j _ => b.length - (intOf j).toNat)
      case atStart => exact ⟨0, rfl, Nat.zero_le _, hBx.out⟩
      case round =>
        obtain ⟨J, rfl, hJ, hB⟩ := hrel
        have x3 := (B2.out.below hB).2 3 _ rfl
        have xd := (hB.cell (p := ⟨gb, ob + K, none⟩) gk.out).trans kd.out
        replace hB := hide hB
        by_cases hjt : J < b.length
        . obtain ⟨y, hyJ⟩ : ∃ y, b[J]? = some y := ⟨b[J], List.getElem?_eq_some_iff.2 ⟨hjt, rfl⟩⟩
          obtain ⟨z, hzJ, hzy⟩ := same_at hdb.out hyJ
          have hB2 := fun x => below_step hB.out (L5.grewTo_below wr x)
          rcases kk.out with h | ⟨g1, o1, rfl, kk1⟩
          . subst h; simp at hzJ
          rcases kl.out with h | ⟨g2, o2, rfl, kl1⟩
          . subst h; simp at hjt
          have kx := kk1 J z hzJ
          have ky := kl1 J y hyJ
          obtain ⟨op, id, nn, ty, ar, tt, na, qp, pp, rfl, rfl⟩ := noI_eq hzy
          obtain ⟨q1, va, vt, kc, ⟨oa, ca1, rfl, sa, la1, la2⟩, ⟨ot, ct1, rfl, st, lt1, lt2⟩⟩ := kx
          obtain ⟨q2, va', vt', kc', ⟨oa', ca2, rfl, sa', _, _⟩, ⟨ot', ct2, rfl, st', _, _⟩⟩ := ky
          have la : ar.length <= maxLen := Nat.le_trans la1 la2
          have lt : tt.length <= maxLen := Nat.le_trans lt1 lt2
          clear kk1 kl1 hzJ hzy hyJ la1 la2 lt1 lt2
          have S1 := hide (fun x => sa.below (hB2 x))
          have S2 := hide (fun x => st.below (hB2 x))
          have S3 := hide (fun x => sa'.below (hB2 x))
          have S4 := hide (fun x => st'.below (hB2 x))
          have u3 := fun x => (B2.out.below (hB2 x)).2 3 _ rfl
          have v3 := fun x => (B3.out.below (hB2 x)).2 3 _ rfl
          have ud := fun x => ((hB2 x).cell (p := ⟨gb, ob + K, none⟩) gk.out).trans kd.out
          have vd := fun x => ((hB2 x).cell (p := ⟨gc, oc + K, none⟩) gl.out).trans ke.out
          have m0 : ∀ x, (L5.grewTo wr x).cell? ⟨g1, o1 + J * 8, none⟩ = some (.int .i64 op) := fun x => ((hB2 x).cell (p := ⟨g1, o1 + J * 8, none⟩) q1).trans (kc 0 _ rfl)
          have m1 : ∀ x, (L5.grewTo wr x).cell? ⟨g1, o1 + J * 8 + 1, none⟩ = some (.int .i64 id) := fun x => ((hB2 x).cell (p := ⟨g1, o1 + J * 8 + 1, none⟩) q1).trans (kc 1 _ rfl)
          have m2 : ∀ x, (L5.grewTo wr x).cell? ⟨g1, o1 + J * 8 + 2, none⟩ = some (.int .i64 nn) := fun x => ((hB2 x).cell (p := ⟨g1, o1 + J * 8 + 2, none⟩) q1).trans (kc 2 _ rfl)
          have m3 : ∀ x, (L5.grewTo wr x).cell? ⟨g1, o1 + J * 8 + 3, none⟩ = some (.int .i64 ty) := fun x => ((hB2 x).cell (p := ⟨g1, o1 + J * 8 + 3, none⟩) q1).trans (kc 3 _ rfl)
          have m4 : ∀ x, (L5.grewTo wr x).cell? ⟨g1, o1 + J * 8 + 4, none⟩ = some (.slice oa ar.length ca1) := fun x => ((hB2 x).cell (p := ⟨g1, o1 + J * 8 + 4, none⟩) q1).trans (kc 4 _ rfl)
          have m5 : ∀ x, (L5.grewTo wr x).cell? ⟨g1, o1 + J * 8 + 5, none⟩ = some (.slice ot tt.length ct1) := fun x => ((hB2 x).cell (p := ⟨g1, o1 + J * 8 + 5, none⟩) q1).trans (kc 5 _ rfl)
          have m6 : ∀ x, (L5.grewTo wr x).cell? ⟨g1, o1 + J * 8 + 6, none⟩ = some (.string (bs na)) := fun x => ((hB2 x).cell (p := ⟨g1, o1 + J * 8 + 6, none⟩) q1).trans (kc 6 _ rfl)
          have m7 : ∀ x, (L5.grewTo wr x).cell? ⟨g1, o1 + J * 8 + 7, none⟩ = some (.int .i64 qp) := fun x => ((hB2 x).cell (p := ⟨g1, o1 + J * 8 + 7, none⟩) q1).trans (kc 7 _ rfl)
          have n0 : ∀ x, (L5.grewTo wr x).cell? ⟨g2, o2 + J * 8, none⟩ = some (.int .i64 op) := fun x => ((hB2 x).cell (p := ⟨g2, o2 + J * 8, none⟩) q2).trans (kc' 0 _ rfl)
          have n1 : ∀ x, (L5.grewTo wr x).cell? ⟨g2, o2 + J * 8 + 1, none⟩ = some (.int .i64 id) := fun x => ((hB2 x).cell (p := ⟨g2, o2 + J * 8 + 1, none⟩) q2).trans (kc' 1 _ rfl)
          have n2 : ∀ x, (L5.grewTo wr x).cell? ⟨g2, o2 + J * 8 + 2, none⟩ = some (.int .i64 nn) := fun x => ((hB2 x).cell (p := ⟨g2, o2 + J * 8 + 2, none⟩) q2).trans (kc' 2 _ rfl)
          have n3 : ∀ x, (L5.grewTo wr x).cell? ⟨g2, o2 + J * 8 + 3, none⟩ = some (.int .i64 ty) := fun x => ((hB2 x).cell (p := ⟨g2, o2 + J * 8 + 3, none⟩) q2).trans (kc' 3 _ rfl)
          have n4 : ∀ x, (L5.grewTo wr x).cell? ⟨g2, o2 + J * 8 + 4, none⟩ = some (.slice oa' ar.length ca2) := fun x => ((hB2 x).cell (p := ⟨g2, o2 + J * 8 + 4, none⟩) q2).trans (kc' 4 _ rfl)
          have n5 : ∀ x, (L5.grewTo wr x).cell? ⟨g2, o2 + J * 8 + 5, none⟩ = some (.slice ot' tt.length ct2) := fun x => ((hB2 x).cell (p := ⟨g2, o2 + J * 8 + 5, none⟩) q2).trans (kc' 5 _ rfl)
          have n6 : ∀ x, (L5.grewTo wr x).cell? ⟨g2, o2 + J * 8 + 6, none⟩ = some (.string (bs na)) := fun x => ((hB2 x).cell (p := ⟨g2, o2 + J * 8 + 6, none⟩) q2).trans (kc' 6 _ rfl)
          have n7 : ∀ x, (L5.grewTo wr x).cell? ⟨g2, o2 + J * 8 + 7, none⟩ = some (.int .i64 pp) := fun x => ((hB2 x).cell (p := ⟨g2, o2 + J * 8 + 7, none⟩) q2).trans (kc' 7 _ rfl)
          replace hB2 := hide hB2
          clear kc kc' sa st sa' st'
          go_wp2_with fail
          refine L5.region_grew (by kernel_rfl) (by kernel_rfl) ?_
          repeat (go_big_quiet_step ((go_at_call 87; exact L5.calls_grew (rsame_ins op id nn ty qp pp ar tt (bs na) oa ot oa' ot' ca1 ct1 ca2 ct2 _ la lt (S1.out _) (S2.out _) (S3.out _) (S4.out _)))))
          refine wpQuiet_nil ?_
          rintro _ ⟨x, rfl⟩
          clear u3 v3 ud vd x3 xd m0 m1 m2 m3 m4 m5 m6 m7 n0 n1 n2 n3 n4 n5 n6 n7
          go_wp2_with fail
          go_roundw
          case rel => exact ⟨J + 1, by go_num, by omega, hB2.out x⟩
          case measure => simp [intOf]; omega
        . obtain rfl : J = b.length := by omega
          go_wp2_with fail
          go_roundw
          case rel => exact ⟨K + 1, by go_num, by omega, hB.out⟩
          case measure => simp [intOf]; omega
    . have hge : ¬ ((K : Int) < (bl.length : Int)) := by omega
      clear hkt
      go_wp2_with fail
      go_ret
      exact ⟨rfl, below_step b0.out hB.out⟩
theorem rsame_prog (xs ys : List Fun) (hlike : xs.map noF = ys.map noF) (ao bo : Option Addr) (ca cb : Nat) (w : World) (ly : ys.length <= 64)
    (hx : ProgR w xs (.slice ao ys.length ca)) (hy : ProgR w ys (.slice bo ys.length cb)) :
    Calls Tryz.prog 20 #[.agg #[.slice ao ys.length ca], .agg #[.slice bo ys.length cb]] w fun e w' => e = .returned (.bool true) /\ Below w.heap.size w w' := by
  have b0 := below_step (below_box w (.cells #[.slice ao ys.length ca] 24)) (below_box (w.alloc (.cells #[.slice ao ys.length ca] 24)) (.cells #[.slice bo ys.length cb] 24))
  have B1 := hide (L5.Box.new w [.slice ao ys.length ca] 24)
  have B2 : Hid (L5.Box ((w.alloc (.cells #[.slice ao ys.length ca] 24)).alloc (.cells #[.slice bo ys.length cb] 24)) w.heap.size [.slice ao ys.length ca]) := hide (B1.out.below (below_box (w.alloc (.cells #[.slice ao ys.length ca] 24)) (.cells #[.slice bo ys.length cb] 24)))
  have B3 : Hid (L5.Box ((w.alloc (.cells #[.slice ao ys.length ca] 24)).alloc (.cells #[.slice bo ys.length cb] 24)) (w.heap.size + 1) [.slice bo ys.length cb]) := hide (by
    have := L5.Box.new (w.alloc (.cells #[.slice ao ys.length ca] 24)) [.slice bo ys.length cb] 24
    rwa [show (w.alloc (.cells #[.slice ao ys.length ca] 24)).heap.size = w.heap.size + 1 from by simp] at this)
  have H1 := hide (hx.below b0)
  have H2 := hide (hy.below b0)
  have b0 := hide b0
  replace hlike := hide hlike
  clear hx hy B1
  go_enter Tryz.func20, Tryz.ntmps20
  go_upto_region 1 with fail
  show Code.wp _ _ _ _ ((w.alloc (.cells #[.slice ao ys.length ca] 24)).alloc (.cells #[.slice bo ys.length cb] 24))
  generalize (w.alloc (.cells #[.slice ao ys.length ca] 24)).alloc (.cells #[.slice bo ys.length cb] 24) = W at *
  have x0 := B2.out.2 0 _ rfl
  have y0 := B3.out.2 0 _ rfl
  go_wp2_with fail
  clear x0 y0
  go_loopw [5] (fun i wr => ∃ I : Nat, i = .int .i64 I /\ I <= ys.length /\ Below W.heap.size W wr) (fun i _ => ys.length - (intOf i).toNat)
  case atStart => exact ⟨0, rfl, Nat.zero_le _, Below.refl _ _⟩
  case round =>
    obtain ⟨I, rfl, hI, hB⟩ := hrel
    have x0 := (B2.out.below hB).2 0 _ rfl
    replace hB := hide hB
    by_cases hit : I < ys.length
    . obtain ⟨y, hyI⟩ : ∃ y, ys[I]? = some y := ⟨ys[I], List.getElem?_eq_some_iff.2 ⟨hit, rfl⟩⟩
      obtain ⟨z, hxI, hzy⟩ := same_at hlike.out hyI
      have hB2 := fun x => below_step hB.out (L5.grewTo_below wr x)
      obtain ⟨_, _, e0, _, _, h1⟩ := H1.out
      injection e0 with e1 e2 e3
      subst e1 e3
      clear e2
      rcases h1 with h1 | ⟨g, og, rfl, h1⟩
      . subst h1; simp at hxI
      obtain ⟨_, _, e0, _, _, h2⟩ := H2.out
      injection e0 with e1 e2 e3
      subst e1 e3
      clear e2
      rcases h2 with h2 | ⟨h, oh, rfl, h2⟩
      . subst h2; simp at hit
      have kx := h1 I z hxI
      have ky := h2 I y hyI
      obtain ⟨nm, ps, rt, bm, bl, ql, pl, rfl, rfl, hbl⟩ := noF_eq hzy
      obtain ⟨q1, vp, vb, kc, ⟨oa, ca1, rfl, sa, lp1, lp2⟩, kb⟩ := kx
      obtain ⟨q2, up, ub, kc', ⟨oa', ca2, rfl, sa', _, _⟩, kb'⟩ := ky
      have lp : ps.length <= maxLen := Nat.le_trans lp1 lp2
      have kb1 := kb
      obtain ⟨ob, cb1, hvb, _, _, _⟩ := kb1
      dsimp only at hvb
      rw [same_len hbl] at hvb
      subst hvb
      have kb2 := kb'
      obtain ⟨ob', cb2, hvb, lb1, lb2, _⟩ := kb2
      dsimp only at hvb lb1
      subst hvb
      have lb : bl.length <= maxLen := Nat.le_trans lb1 lb2
      replace hbl := hide hbl
      clear h1 h2 hxI hyI hzy lp1 lp2 lb1 lb2
      have S1 := hide (fun x => sa.below (hB2 x))
      have S2 := hide (fun x => sa'.below (hB2 x))
      have S3 : Hid (∀ x, BlksR (L5.grewTo wr x) bm (.slice ob bl.length cb1)) := hide (fun x => kb.below (hB2 x))
      have S4 : Hid (∀ x, BlksR (L5.grewTo wr x) bl (.slice ob' bl.length cb2)) := hide (fun x => kb'.below (hB2 x))
      have u0 := fun x => (B2.out.below (hB2 x)).2 0 _ rfl
      have v0 := fun x => (B3.out.below (hB2 x)).2 0 _ rfl
      have m0 : ∀ x, (L5.grewTo wr x).cell? ⟨g, og + I * 5, none⟩ = some (.string (bs nm)) := fun x => ((hB2 x).cell (p := ⟨g, og + I * 5, none⟩) q1).trans (kc 0 _ rfl)
      have m1 : ∀ x, (L5.grewTo wr x).cell? ⟨g, og + I * 5 + 1, none⟩ = some (.slice oa ps.length ca1) := fun x => ((hB2 x).cell (p := ⟨g, og + I * 5 + 1, none⟩) q1).trans (kc 1 _ rfl)
      have m2 : ∀ x, (L5.grewTo wr x).cell? ⟨g, og + I * 5 + 2, none⟩ = some (.int .i64 rt) := fun x => ((hB2 x).cell (p := ⟨g, og + I * 5 + 2, none⟩) q1).trans (kc 2 _ rfl)
      have m3 : ∀ x, (L5.grewTo wr x).cell? ⟨g, og + I * 5 + 3, none⟩ = some (.slice ob bl.length cb1) := fun x => ((hB2 x).cell (p := ⟨g, og + I * 5 + 3, none⟩) q1).trans (kc 3 _ rfl)
      have m4 : ∀ x, (L5.grewTo wr x).cell? ⟨g, og + I * 5 + 4, none⟩ = some (.int .i64 ql) := fun x => ((hB2 x).cell (p := ⟨g, og + I * 5 + 4, none⟩) q1).trans (kc 4 _ rfl)
      have n0 : ∀ x, (L5.grewTo wr x).cell? ⟨h, oh + I * 5, none⟩ = some (.string (bs nm)) := fun x => ((hB2 x).cell (p := ⟨h, oh + I * 5, none⟩) q2).trans (kc' 0 _ rfl)
      have n1 : ∀ x, (L5.grewTo wr x).cell? ⟨h, oh + I * 5 + 1, none⟩ = some (.slice oa' ps.length ca2) := fun x => ((hB2 x).cell (p := ⟨h, oh + I * 5 + 1, none⟩) q2).trans (kc' 1 _ rfl)
      have n2 : ∀ x, (L5.grewTo wr x).cell? ⟨h, oh + I * 5 + 2, none⟩ = some (.int .i64 rt) := fun x => ((hB2 x).cell (p := ⟨h, oh + I * 5 + 2, none⟩) q2).trans (kc' 2 _ rfl)
      have n3 : ∀ x, (L5.grewTo wr x).cell? ⟨h, oh + I * 5 + 3, none⟩ = some (.slice ob' bl.length cb2) := fun x => ((hB2 x).cell (p := ⟨h, oh + I * 5 + 3, none⟩) q2).trans (kc' 3 _ rfl)
      have n4 : ∀ x, (L5.grewTo wr x).cell? ⟨h, oh + I * 5 + 4, none⟩ = some (.int .i64 pl) := fun x => ((hB2 x).cell (p := ⟨h, oh + I * 5 + 4, none⟩) q2).trans (kc' 4 _ rfl)
      replace hB2 := hide hB2
      clear kc kc' kb kb' sa sa'
      go_wp2_with fail
      refine L5.region_grew (by kernel_rfl) (by kernel_rfl) ?_
      repeat (go_big_quiet_step ((go_at_call 56; exact L5.calls_grew (rsame_fun nm ps rt ql pl bl bm hbl.out oa ob oa' ob' ca1 cb1 ca2 cb2 _ lp lb (S1.out _) (S3.out _) (S2.out _) (S4.out _)))))
      refine wpQuiet_nil ?_
      rintro _ ⟨x, rfl⟩
      clear u0 v0 x0 m0 m1 m2 m3 m4 n0 n1 n2 n3 n4
      go_wp2_with fail
      go_roundw
      case rel => exact ⟨I + 1, by go_num, by omega, hB2.out x⟩
      case measure => simp [intOf]; omega
    . have hge : ¬ ((I : Int) < (ys.length : Int)) := by omega
      clear hit
      go_wp2_with fail
      go_ret
      exact ⟨rfl, below_step b0.out hB.out⟩
end Go.Proofs.YtahhbckccdigoaaGreatDoor
