/- Layer 9, the program: whether a block is known to be reached; where two ways up meet; the last one on the ways up from some. Layer 9, the program: the last one on the ways up from some blocks. Layer 9, the program: whether two lists are the same; how many others stand ahead of each block. Layer 9, the program: a number so many times. -/
import Derived.Test.YtnlcpfijfjbgjaaTeAO
import Derived.Test.YtnlcpfijfjbgjaaTeAX
import Derived.Test.YtnlcpfijfjbgjaaTeAZ
import Derived.Laws.Bits64b
import Derived.Laws.CopyOwn
import Derived.Deep.RegionLaw
namespace Go.Proofs.Ytnlcpfijfjbgjaa
open Go Go.RowKit
open G (Tok Er Ins Fun)
/-- A list of what is known, as a function. -/
def gU (u : List Int) (x : Int) : Int := if 0 ≤ x then u.getD x.toNat (-1) else -1
theorem gU_at {u : List Int} {A : Nat} (h : A < u.length) : u[A]? = some (gU u (A : Int)) := by
  unfold gU
  rw [if_pos (by omega), Int.toNat_natCast, List.getD_eq_getElem?_getD, List.getElem?_eq_getElem h]; rfl
theorem gU_set {u : List Int} {B : Nat} (h : B < u.length) (v : Int) : gU (u.set B v) = upd (gU u) B v := by
  funext x
  show (if 0 ≤ x then (u.set B v).getD x.toNat (-1) else -1) = if x = (B : Int) then v else (if 0 ≤ x then u.getD x.toNat (-1) else -1)
  by_cases e : x = (B : Int)
  · subst e
    rw [if_pos (by omega), if_pos rfl, Int.toNat_natCast, List.getD_eq_getElem?_getD, List.getElem?_set]; simp [h]
  · rw [if_neg e]
    by_cases h0 : 0 ≤ x
    · rw [if_pos h0, if_pos h0, List.getD_eq_getElem?_getD, List.getElem?_set_ne (by omega), List.getD_eq_getElem?_getD]
    · rw [if_neg h0, if_neg h0]
theorem gU_none (n : Nat) (x : Int) : gU (List.replicate n (-1)) x = -1 := by
  unfold gU
  split
  · rw [List.getD_eq_getElem?_getD, List.getElem?_replicate]; split <;> rfl
  · rfl
/-- The list of the last ones ahead. -/
def upsL (ll : List (List Int)) : List Int := (List.range ll.length).map fun (b : Nat) => upB ll b
theorem upsL_len (ll : List (List Int)) : (upsL ll).length = ll.length := by simp [upsL]
theorem upsL_at {ll : List (List Int)} {b : Nat} (h : b < ll.length) : (upsL ll)[b]? = some (upB ll b) := by
  unfold upsL; rw [List.getElem?_map, List.getElem?_range h]; rfl
theorem upsL_of {ll : List (List Int)} {u : List Int} (hl : u.length = ll.length) (h : ∀ b, gU u b = upB ll b) : u = upsL ll := by
  apply List.ext_getElem?
  intro j
  by_cases hj : j < ll.length
  · rw [upsL_at hj, gU_at (by omega), h]
  · rw [List.getElem?_eq_none (by omega), List.getElem?_eq_none (by rw [upsL_len]; omega)]
/-- What is laid for the ways up: the lists are as long as there are blocks; the places are the order's. -/
def UpS (ll : List (List Int)) (pl : Int → Int) (u ps : List Int) : Prop := u.length = ll.length ∧ ps.length = ll.length ∧ ∀ k : Nat, k < ll.length → ps[k]? = some (pl k)
theorem Know.nat {ll : List (List Int)} (hg : Gr ll) {g : Int → Int} {x : Int} (h : Know ll g x) : ∃ A : Nat, x = (A : Int) ∧ A < ll.length := by
  obtain ⟨h0, h1⟩ := h.1.num hg
  exact ⟨x.toNat, by omega, by omega⟩
theorem know_iff {ll : List (List Int)} {pl g : Int → Int} (hw : Wf ll pl g) (x : Int) : Know ll g x ↔ (x = 0 ∨ g x ≠ -1) := by
  constructor
  · exact fun h => h.2
  · intro h
    refine ⟨?_, h⟩
    rcases h with rfl | h
    · exact All.first _
    · exact (hw.2.2 x h).1
set_option maxHeartbeats 4000000 in
set_option maxRecDepth 20000 in
theorem reached_any (u : List Int) (A : Nat) (hA : A < u.length) (uo : Option Addr) (uc : Nat) (w : World) (hu : Sl w uo u) :
    Calls Try.prog 43 #[.slice uo u.length uc, .int .i64 A] w fun e w' => e = .returned (.bool (decide ((A : Int) = 0 ∨ gU u A ≠ -1))) ∧ w' = w := by
  rcases hu with rfl | ⟨b, o, rfl, hb, hc⟩
  · simp at hA
  have c1 := hc A _ (gU_at hA)
  have hAI : (A : Int) < u.length := by omega
  clear hc hb
  by_cases h0 : A = 0
  · subst h0
    go_enter Try.func43, Try.ntmps43
    go_wp2_with fail
    go_ret
    refine ⟨?_, rfl⟩
    simp
  · have h0b : ((A : Int) == 0) = false := beq_eq_false_iff_ne.2 (by omega)
    generalize gU u (A : Int) = x at *
    have hd : decide ((A : Int) = 0 ∨ x ≠ -1) = (x != -1) := by
      rw [Bool.eq_iff_iff]; simp [h0]
    rw [hd]
    clear hd
    go_enter Try.func43, Try.ntmps43
    go_wp2_with fail
    go_ret
    exact ⟨rfl, rfl⟩
set_option maxHeartbeats 4000000 in
set_option maxRecDepth 20000 in
theorem meet_any (ll : List (List Int)) (hg : Gr ll) (pl : Int → Int) (ho : Ord ll pl) (u ps : List Int) (hS : UpS ll pl u ps) (hw : Wf ll pl (gU u)) (uo po : Option Addr) (uc pc : Nat) (a b : Int) (w : World) (hu : Sl w uo u) (hp : Sl w po ps) (ha : Know ll (gU u) a) (hb : Know ll (gU u) b) :
    Calls Try.prog 53 #[.slice uo u.length uc, .slice po ps.length pc, .int .i64 a, .int .i64 b] w fun e w' => (∃ c, e = .returned (.int .i64 c) ∧ Know ll (gU u) c ∧ ∀ z, Ch (gU u) z c ↔ (Ch (gU u) z a ∧ Ch (gU u) z b)) ∧ Below w.heap.size w w' := by
  have hn := hg.2
  rcases hu with rfl | ⟨ub, uo, rfl, hub, hcu⟩
  · have := hS.1; simp at this; omega
  rcases hp with rfl | ⟨pb, po, rfl, hpb, hcp⟩
  · have := hS.2.1; simp at this; omega
  have HStep := hide (fun a b ha hb h => meet_step (g := gU u) (a := a) (b := b) ho hw ha hb h)
  have HNat := hide (fun x (h : Know ll (gU u) x) => h.nat hg)
  have HInj := hide (fun a b (ha : Know ll (gU u) a) (hb : Know ll (gU u) b) (h : pl a = pl b) => ho.2.1 a b ha.1 hb.1 h)
  have HPl := hide (fun x (h : Know ll (gU u) x) => h.pl0 ho)
  have HCu := hide hcu
  have HCp := hide (fun (k : Nat) (h : k < ll.length) => hcp k _ (hS.2.2 k h))
  have HCg := hide (fun (k : Nat) (h : k < ll.length) => hcu k _ (gU_at (by rw [hS.1]; exact h)))
  have h1 := hS.1
  have h2 := hS.2.1
  have KA := hide ha
  have KB := hide hb
  rw [h1, h2]
  clear hcu hcp ha hb hg ho hw hS h1 h2 HCu
  generalize hN : ll.length = N at *
  generalize gU u = g at *
  go_enter Try.func53, Try.ntmps53
  go_wp2_with fail
  go_loopw [2, 3] (fun av bv wr => ∃ a' b' : Int, av = .int .i64 a' ∧ bv = .int .i64 b' ∧ Hid (Know ll g a') ∧ Hid (Know ll g b') ∧ Hid (∀ z, (Ch g z a' ∧ Ch g z b') ↔ (Ch g z a ∧ Ch g z b)) ∧ Hid (Below w.heap.size w wr)) (fun av bv _ => (pl (intOf av)).toNat + (pl (intOf bv)).toNat)
  case atStart => exact ⟨a, b, rfl, rfl, KA, KB, hide (fun z => Iff.rfl), hide (Below.refl _ _)⟩
  case round =>
    clear KA KB
    obtain ⟨a', b', rfl, rfl, KA, KB, HZ, HB⟩ := hrel
    obtain ⟨A, rfl, hA⟩ := HNat.out a' KA.out
    obtain ⟨B, rfl, hB⟩ := HNat.out b' KB.out
    by_cases hab : (A : Int) = B
    · obtain rfl : A = B := by omega
      have HE : Hid (Know ll g (A : Int) ∧ ∀ z, Ch g z A ↔ (Ch g z a ∧ Ch g z b)) := hide ⟨KA.out, fun z => by rw [← HZ.out]; simp⟩
      go_wp2_with fail
      go_ret
      exact ⟨⟨_, rfl, HE.out⟩, HB.out⟩
    · have hab1 : ((A : Int) != (B : Int)) = true := bne_iff_ne.2 hab
      have hab2 : ((A : Int) == (B : Int)) = false := beq_eq_false_iff_ne.2 hab
      have hAI : (A : Int) < N := by omega
      have hBI : (B : Int) < N := by omega
      have p1 := HPl.out _ KA.out
      have p2 := HPl.out _ KB.out
      have hB2 := fun x => below_step HB.out (L5.grewTo_below wr x)
      have c1 := fun x => ((hB2 x).cell (p := ⟨pb, po + A, none⟩) hpb).trans (HCp.out A hA)
      have c2 := fun x => ((hB2 x).cell (p := ⟨pb, po + B, none⟩) hpb).trans (HCp.out B hB)
      have c3 := fun x => ((hB2 x).cell (p := ⟨ub, uo + A, none⟩) hub).trans (HCg.out A hA)
      have c4 := fun x => ((hB2 x).cell (p := ⟨ub, uo + B, none⟩) hub).trans (HCg.out B hB)
      replace hB2 := hide hB2
      by_cases hlt : pl (B : Int) < pl (A : Int)
      · obtain ⟨s1, s2, s3, s4⟩ := HStep.out _ _ KA.out KB.out hlt
        have S2 := hide s2
        have S4 := hide (fun z => (s4 z).symm.trans (HZ.out z))
        have p3 := HPl.out _ s2
        obtain ⟨pA, HpA⟩ : ∃ pA, Hid (pl (A : Int) = pA) := ⟨_, hide rfl⟩
        obtain ⟨pB, HpB⟩ : ∃ pB, Hid (pl (B : Int) = pB) := ⟨_, hide rfl⟩
        simp only [HpA.out, HpB.out] at c1 c2 p1 p2 s3
        try simp only [HpA.out, HpB.out] at hlt
        try simp only [HpA.out, HpB.out] at hlt2
        generalize g (A : Int) = gA at *
        clear s4 s1 s2
        go_wp2_with fail
        refine L5.region_grew (by kernel_rfl) (by kernel_rfl) ?_
        repeat (go_big_quiet_step (fail))
        refine wpQuiet_nil ?_
        rintro _ ⟨x, rfl⟩
        go_wp2_with fail
        go_roundw
        case rel => exact ⟨gA, B, rfl, rfl, S2, KB, S4, hide (hB2.out x)⟩
        case measure => have e1 := HpA.out; have e2 := HpB.out; simp [intOf]; omega
      · have hlt2 : pl (A : Int) < pl (B : Int) := by
          have : pl (A : Int) ≠ pl (B : Int) := fun e => hab (HInj.out _ _ KA.out KB.out e)
          omega
        obtain ⟨s1, s2, s3, s4⟩ := HStep.out _ _ KB.out KA.out hlt2
        have S2 := hide s2
        have S4 : Hid (∀ z, (Ch g z A ∧ Ch g z (g B)) ↔ (Ch g z a ∧ Ch g z b)) := hide (fun z => by
          rw [← HZ.out]
          have := s4 z
          constructor
          · rintro ⟨q1, q2⟩; exact ⟨q1, (this.2 ⟨q2, q1⟩).1⟩
          · rintro ⟨q1, q2⟩; exact ⟨q1, (this.1 ⟨q2, q1⟩).1⟩)
        have p3 := HPl.out _ s2
        obtain ⟨pA, HpA⟩ : ∃ pA, Hid (pl (A : Int) = pA) := ⟨_, hide rfl⟩
        obtain ⟨pB, HpB⟩ : ∃ pB, Hid (pl (B : Int) = pB) := ⟨_, hide rfl⟩
        simp only [HpA.out, HpB.out] at c1 c2 p1 p2 s3
        try simp only [HpA.out, HpB.out] at hlt
        try simp only [HpA.out, HpB.out] at hlt2
        generalize g (B : Int) = gB at *
        clear s4 s1 s2
        go_wp2_with fail
        refine L5.region_grew (by kernel_rfl) (by kernel_rfl) ?_
        repeat (go_big_quiet_step (fail))
        refine wpQuiet_nil ?_
        rintro _ ⟨x, rfl⟩
        go_wp2_with fail
        go_roundw
        case rel => exact ⟨A, gB, rfl, rfl, KA, S2, S4, hide (hB2.out x)⟩
        case measure => have e1 := HpA.out; have e2 := HpB.out; simp [intOf]; omega
end Go.Proofs.Ytnlcpfijfjbgjaa
namespace Go.Proofs.Ytnlcpfijfjbgjaa
open Go Go.RowKit
open G (Tok Er Ins Fun)
set_option maxHeartbeats 4000000 in
set_option maxRecDepth 20000 in
theorem shared_any (ll : List (List Int)) (hg : Gr ll) (pl : Int → Int) (ho : Ord ll pl) (u ps l : List Int) (hS : UpS ll pl u ps) (hw : Wf ll pl (gU u)) (hl : Num ll.length l) (hll : l.length ≤ 1000000) (uo po lo : Option Addr) (uc pc lc : Nat) (w : World) (hu : Sl w uo u) (hp : Sl w po ps) (hlo : Sl w lo l) :
    Calls Try.prog 40 #[.slice uo u.length uc, .slice po ps.length pc, .slice lo l.length lc] w fun e w' => (∃ x, e = .returned (.int .i64 x) ∧ Sh ll (gU u) l x) ∧ Below w.heap.size w w' := by
  have HRe := hide (fun (A : Nat) (hA : A < ll.length) (w' : World) (b : Below w.heap.size w w') => reached_any u A (by rw [hS.1]; exact hA) uo uc w' (hu.below b))
  have HMe := hide (fun (a b : Int) (ha : Know ll (gU u) a) (hb : Know ll (gU u) b) (w' : World) (h : Below w.heap.size w w') => meet_any ll hg pl ho u ps hS hw uo po uc pc a b w' (hu.below h) (hp.below h) ha hb)
  have HKn := hide (fun x => know_iff (x := x) hw)
  have HFi := hide (fun (l : List Int) (b : Int) (h : Sh ll (gU u) l (-1)) (hb : Know ll (gU u) b) => h.first hg hb)
  have HL := hide hlo
  have HNu := hide hl
  rw [hS.1, hS.2.1] at *
  clear hu hp hlo hl hg ho hw hS
  generalize ll.length = N at *
  generalize gU u = g at *
  go_enter Try.func40, Try.ntmps40
  go_wp2_with fail
  go_loopw [7, 12] (fun xv i wr => ∃ (x : Int) (I : Nat), I ≤ l.length ∧ xv = .int .i64 x ∧ i = .int .i64 I ∧ Hid (Sh ll g (l.take I) x) ∧ Hid (Below w.heap.size w wr)) (fun _ i _ => l.length - (intOf i).toNat)
  case atStart => exact ⟨-1, 0, Nat.zero_le _, rfl, rfl, hide (Sh.nil ll g), hide (Below.refl _ _)⟩
  case round =>
    obtain ⟨x, I, hI, rfl, rfl, HS, HB⟩ := hrel
    by_cases hit : I < l.length
    · have hiI : (I : Int) < l.length := by omega
      obtain ⟨m, hm⟩ : ∃ m, l[I]? = some m := ⟨_, List.getElem?_eq_getElem hit⟩
      obtain ⟨hm0, hm1⟩ := HNu.out m (List.mem_of_getElem? hm)
      obtain ⟨M, rfl⟩ : ∃ M : Nat, m = (M : Int) := ⟨m.toNat, by omega⟩
      have HT : Hid (l.take (I + 1) = l.take I ++ [(M : Int)]) := hide (take_more hm)
      rcases HL.out with rfl | ⟨lb, lo2, rfl, hlb, hlc⟩
      · simp at hit
      have c1 := (HB.out.cell (p := ⟨lb, lo2 + I, none⟩) hlb).trans (hlc I _ hm)
      have HC := hide (HRe.out M (by omega) wr HB.out)
      clear hlc hm hm0 hm1
      by_cases hk : Know ll g (M : Int)
      · have hdt : decide ((M : Int) = 0 ∨ g M ≠ -1) = true := decide_eq_true ((HKn.out _).1 hk)
        rw [hdt] at HC
        have KM := hide hk
        clear hdt hk
        by_cases hx : x = -1
        · subst hx
          have HE : Hid (Sh ll g (l.take (I + 1)) (M : Int)) := hide (by rw [HT.out]; exact HFi.out _ _ HS.out KM.out)
          go_wp2_with fail
          refine HC.out.mono ?_; rintro e w1 ⟨rfl, rfl⟩
          clear HC
          go_wp2_with fail
          go_roundw
          case rel => exact ⟨M, I + 1, by omega, rfl, by go_num, HE, HB⟩
          case measure => simp [intOf]; omega
        · have hx1 : (x == -1) = false := beq_eq_false_iff_ne.2 hx
          have HM := hide (HMe.out x M (HS.out.known hx) KM.out wr HB.out)
          have Hx := hide hx
          clear hx
          go_wp2_with fail
          refine HC.out.mono ?_; rintro e w1 ⟨rfl, rfl⟩
          clear HC
          go_wp2_with fail
          refine HM.out.mono ?_; rintro e w2 ⟨⟨c, rfl, hc1, hc2⟩, b2⟩
          have HE : Hid (Sh ll g (l.take (I + 1)) c) := hide (by rw [HT.out]; exact HS.out.more Hx.out KM.out hc1 hc2)
          have HB2 := hide (below_step HB.out b2)
          clear HM hc1 hc2 b2
          go_wp2_with fail
          go_roundw
          case rel => exact ⟨c, I + 1, by omega, rfl, by go_num, HE, HB2⟩
          case measure => simp [intOf]; omega
      · have hdt : decide ((M : Int) = 0 ∨ g M ≠ -1) = false := decide_eq_false (fun h => hk ((HKn.out _).2 h))
        rw [hdt] at HC
        have HE : Hid (Sh ll g (l.take (I + 1)) x) := hide (by rw [HT.out]; exact HS.out.no hk)
        clear hdt hk
        go_wp2_with fail
        refine HC.out.mono ?_; rintro e w1 ⟨rfl, rfl⟩
        clear HC
        go_wp2_with fail
        go_roundw
        case rel => exact ⟨x, I + 1, by omega, rfl, by go_num, HE, HB⟩
        case measure => simp [intOf]; omega
    · obtain rfl : I = l.length := by omega
      have HE : Hid (Sh ll g l x) := hide (by have := HS.out; rwa [List.take_length] at this)
      go_wp2_with fail
      go_ret
      exact ⟨⟨_, rfl, HE.out⟩, HB.out⟩
end Go.Proofs.Ytnlcpfijfjbgjaa
namespace Go.Proofs.Ytnlcpfijfjbgjaa
open Go Go.RowKit
open G (Tok Er Ins Fun)
set_option maxHeartbeats 4000000 in
set_option maxRecDepth 20000 in
theorem equal_any (a b : List Int) (hab : a.length = b.length) (hl : a.length ≤ 1000000) (ao bo : Option Addr) (ca cb : Nat) (w : World) (ha : Sl w ao a) (hb : Sl w bo b) :
    Calls Try.prog 41 #[.slice ao a.length ca, .slice bo b.length cb] w fun e w' => e = .returned (.bool (decide (a = b))) ∧ Below w.heap.size w w' := by
  have HA := hide ha
  have HB := hide hb
  have HEq := hide hab
  rw [← hab]
  clear ha hb hab
  obtain ⟨r, HR⟩ : ∃ r, Hid (decide (a = b) = r) := ⟨_, hide rfl⟩
  rw [HR.out]
  go_enter Try.func41, Try.ntmps41
  go_wp2_with fail
  go_loopw [13] (fun i wr => ∃ k : Nat, k ≤ a.length ∧ i = .int .i64 k ∧ Hid (a.take k = b.take k) ∧ Hid (Below w.heap.size w wr)) (fun i _ => a.length - (intOf i).toNat)
  case atStart => exact ⟨0, Nat.zero_le _, rfl, hide (by simp), hide (Below.refl _ _)⟩
  case round =>
    obtain ⟨k, hk, rfl, HT, HW⟩ := hrel
    by_cases hlt : k < a.length
    · have hkI : (k : Int) < a.length := by omega
      obtain ⟨n, hn⟩ : ∃ n, a[k]? = some n := ⟨_, List.getElem?_eq_getElem hlt⟩
      obtain ⟨m, hm⟩ : ∃ m, b[k]? = some m := ⟨_, List.getElem?_eq_getElem (by have := HEq.out; omega)⟩
      rcases HA.out with he | ⟨ab, oa, rfl, hal, hca⟩
      · subst he; simp at hlt
      rcases HB.out with he | ⟨bb, ob, rfl, hbl, hcb⟩
      · subst he; simp at hm
      have hB2 := fun x => below_step HW.out (L5.grewTo_below wr x)
      have c1 := fun x => ((hB2 x).cell (p := ⟨ab, oa + k, none⟩) hal).trans (hca k n hn)
      have c2 := fun x => ((hB2 x).cell (p := ⟨bb, ob + k, none⟩) hbl).trans (hcb k m hm)
      replace hB2 := hide hB2
      by_cases e : n = m
      · subst e
        have HE : Hid (a.take (k + 1) = b.take (k + 1)) := hide (by rw [take_more hn, take_more hm, HT.out])
        clear hca hcb hn hm
        go_wp2_with fail
        refine L5.region_grew (by kernel_rfl) (by kernel_rfl) ?_
        repeat (go_big_quiet_step (fail))
        refine wpQuiet_nil ?_
        rintro _ ⟨x, rfl⟩
        go_wp2_with fail
        go_roundw
        case rel => exact ⟨k + 1, by omega, by go_num, HE, hide (hB2.out x)⟩
        case measure => simp [intOf]; omega
      · have he1 : (n != m) = true := bne_iff_ne.2 e
        have he2 : (n == m) = false := beq_eq_false_iff_ne.2 e
        have HE : Hid (r = false) := hide (by
          rw [← HR.out]
          refine decide_eq_false fun h => e ?_
          rw [h, hm] at hn
          injection hn with hn
          exact hn.symm)
        clear hca hcb hn hm
        go_wp2_with fail
        refine L5.region_grew (by kernel_rfl) (by kernel_rfl) ?_
        repeat (go_big_quiet_step (fail))
        refine wpQuiet_nil ?_
        rintro _ ⟨x, rfl⟩
        go_wp2_with fail
        go_ret
        exact ⟨by rw [HE.out]; rfl, hB2.out x⟩
    · obtain rfl : k = a.length := by omega
      have HE : Hid (r = true) := hide (by
        rw [← HR.out]
        refine decide_eq_true ?_
        have := HT.out
        rw [List.take_length] at this
        rw [this, HEq.out, List.take_length])
      go_wp2_with fail
      go_ret
      exact ⟨by rw [HE.out]; rfl, HW.out⟩
/-- How many others stand ahead of each block, for those that were met. -/
def dpsTo (ll : List (List Int)) (met : List Int) : List Int := (List.range ll.length).map fun (b : Nat) => if hasL met b then ((depthB ll b : Nat) : Int) else 0
def dpsL (ll : List (List Int)) : List Int := (List.range ll.length).map fun (b : Nat) => ((depthB ll b : Nat) : Int)
theorem dpsTo_len (ll : List (List Int)) (met : List Int) : (dpsTo ll met).length = ll.length := by simp [dpsTo]
theorem dpsTo_at {ll : List (List Int)} {met : List Int} {b : Nat} (h : b < ll.length) : (dpsTo ll met)[b]? = some (if hasL met b then ((depthB ll b : Nat) : Int) else 0) := by
  unfold dpsTo; rw [List.getElem?_map, List.getElem?_range h]; rfl
theorem dpsL_len (ll : List (List Int)) : (dpsL ll).length = ll.length := by simp [dpsL]
theorem dpsL_at {ll : List (List Int)} {b : Nat} (h : b < ll.length) : (dpsL ll)[b]? = some ((depthB ll b : Nat) : Int) := by
  unfold dpsL; rw [List.getElem?_map, List.getElem?_range h]; rfl
theorem dpsTo_nil (ll : List (List Int)) : dpsTo ll [] = List.replicate ll.length 0 := by
  apply List.ext_getElem?
  intro j
  rw [List.getElem?_replicate]
  by_cases h : j < ll.length
  · rw [dpsTo_at h, if_pos h]; simp [hasL]
  · rw [if_neg h, List.getElem?_eq_none (by rw [dpsTo_len]; omega)]
theorem dpsTo_set {ll : List (List Int)} {met : List Int} {M : Nat} (h : M < ll.length) : (dpsTo ll met).set M ((depthB ll M : Nat) : Int) = dpsTo ll (met ++ [(M : Int)]) := by
  apply List.ext_getElem?
  intro j
  rw [List.getElem?_set, dpsTo_len]
  by_cases hj : j < ll.length
  · rw [dpsTo_at hj, dpsTo_at hj, hasL_snoc]
    by_cases e : M = j
    · subst e; rw [if_pos rfl, if_pos hj]; simp
    · have e2 : ¬ (M : Int) = (j : Int) := by omega
      rw [if_neg e]; simp [e2]
  · rw [List.getElem?_eq_none (by rw [dpsTo_len]; omega), List.getElem?_eq_none (by rw [dpsTo_len]; omega)]
    by_cases e : M = j
    · omega
    · rw [if_neg e]
theorem dpsTo_same {ll : List (List Int)} {met : List Int} {M : Nat} (h0 : depthB ll M = 0) : dpsTo ll met = dpsTo ll (met ++ [(M : Int)]) := by
  apply List.ext_getElem?
  intro j
  by_cases hj : j < ll.length
  · rw [dpsTo_at hj, dpsTo_at hj, hasL_snoc]
    by_cases e : M = j
    · subst e; rw [h0]; simp
    · have e2 : ¬ (M : Int) = (j : Int) := by omega
      simp [e2]
  · rw [List.getElem?_eq_none (by rw [dpsTo_len]; omega), List.getElem?_eq_none (by rw [dpsTo_len]; omega)]
theorem depth_none {ll : List (List Int)} (hg : Gr ll) {b : Int} (h : ∀ a, Ahd ll a b → a = b) : depthB ll b = 0 := by
  unfold depthB cntB
  rw [List.length_eq_zero_iff, List.filter_eq_nil_iff]
  intro a _ hc
  simp only [Bool.and_eq_true, decide_eq_true_eq, ahead_iff hg] at hc
  exact hc.1 (h _ hc.2)
theorem depth_first {ll : List (List Int)} (hg : Gr ll) : depthB ll 0 = 0 := depth_none hg fun _ h => h.anti (Ahd.first h.1)
theorem depth_un {ll : List (List Int)} (hg : Gr ll) {b : Int} (h : ¬ All ll b) : depthB ll b = 0 := depth_none hg fun _ k => absurd k.2.1 h
theorem dpsTo_end {ll : List (List Int)} (hg : Gr ll) {met : List Int} (h : ∀ b, All ll b → b ∈ met) : dpsTo ll met = dpsL ll := by
  apply List.ext_getElem?
  intro j
  by_cases hj : j < ll.length
  · rw [dpsTo_at hj, dpsL_at hj]
    by_cases ha : All ll (j : Int)
    · rw [hasL_mem.2 (h _ ha)]; rfl
    · rw [depth_un hg ha]; simp
  · rw [List.getElem?_eq_none (by rw [dpsTo_len]; omega), List.getElem?_eq_none (by rw [dpsL_len]; omega)]
/-- What is known of the order for how deep blocks are: each block's last one ahead stands ahead of it there. -/
def OrdU (ll : List (List Int)) (o : List Int) : Prop := (∀ b, b ∈ o ↔ All ll b) ∧ Num ll.length o ∧ ∀ (J : Nat) (m : Int), o[J]? = some m → (upB ll m = -1 ∧ depthB ll m = 0) ∨ (0 ≤ upB ll m ∧ upB ll m < ll.length ∧ hasL (o.take J) (upB ll m) = true ∧ depthB ll (upB ll m) + 1 = depthB ll m)
theorem ordU_of {f : Fun} (hT : Tos f) (h0 : 0 < f.2.2.2.1.length) : OrdU (succsF f) (orderF f) := by
  have hg := gr_succs hT h0
  have ho := ord_of hT h0
  refine ⟨fun b => mem_order hT h0 b, by rw [succsF_len]; exact (order_num hT h0).2, fun J m hm => ?_⟩
  have hma := (mem_order hT h0 m).1 (List.mem_of_getElem? hm)
  by_cases e : m = 0
  · subst e
    exact .inl ⟨upB_no hg fun a => IsUp.not_first, depth_first hg⟩
  · obtain ⟨a, ha⟩ := IsUp.ex hg hma e
    rw [upB_eq hg ha]
    obtain ⟨a0, a1⟩ := ha.2.1.1.num hg
    refine .inr ⟨a0, a1, ?_, ha.2.2⟩
    rw [hasL_mem]
    rcases ha.2.1.order ho with q | q
    · exact absurd q ha.1
    · obtain ⟨i, hi, ei⟩ := List.mem_iff_getElem.1 ((mem_order hT h0 a).2 ha.2.1.1)
      have q1 : (orderF f)[i]? = some a := by rw [List.getElem?_eq_getElem hi, ei]
      rw [at_order hT h0 q1, at_order hT h0 hm] at q
      have hiJ : i < J := by omega
      exact List.mem_iff_getElem?.2 ⟨i, by rw [List.getElem?_take, if_pos hiJ]; exact q1⟩
set_option maxHeartbeats 4000000 in
set_option maxRecDepth 20000 in
theorem depths_any (ll : List (List Int)) (hg : Gr ll) (o : List Int) (hO : OrdU ll o) (hN : ll.length ≤ 1000000) (hol : o.length ≤ 1000000) (oo uo : Option Addr) (oc uc : Nat) (w : World) (ho : Sl w oo o) (hu : Sl w uo (upsL ll)) :
    Calls Try.prog 29 #[.slice oo o.length oc, .slice uo ll.length uc] w fun e w' => ∃ g, e = .returned (.slice (some ⟨g, 0, none⟩) ll.length ll.length) ∧ RowAt w' w.heap.size 3 g ll.length (ints (dpsL ll)) ∧ Below w.heap.size w w' := by
  obtain ⟨i3, hi3, hz3, hz4, hz5⟩ := info_parts Try.info3
  have hpos := hg.2
  rcases hu with e | ⟨ub, uo2, rfl, hub, hcu⟩
  · have := upsL_len ll; rw [e] at this; simp at this; omega
  have HU := hide (fun (k : Nat) (h : k < ll.length) => hcu k _ (upsL_at h))
  have HO := hide ho
  have HOu := hide hO
  have HEnd := hide (dpsTo_end (met := o) hg (fun b hb => (hO.1 b).2 hb))
  have HNil := hide (dpsTo_nil ll)
  have HMax := hide (fun b => depth_max ll b)
  clear hcu ho hO hg
  generalize hNe : ll.length = N at *
  replace hNe := hide hNe
  go_enter Try.func29, Try.ntmps29
  go_upto_region 2 with (at_make; refine wpList_make_full _ rfl _ _ 22 rfl w.heap.size 3 i3 _ 1 Try.underlying22 hi3 hz3 hz4 .i64 .i64 N N N rfl rfl rfl rfl (by rw [hz5]; omega) (by unfold maxLen; omega) (Nat.le_refl _) ?_; intro w1 own1 grow1; refine Hid.out ?_)
  rw [made_ints] at own1
  have R1 : Hid (RowAt w1 w.heap.size 3 w.heap.size N (ints (dpsTo ll (o.take 0)))) := hide (by
    rw [List.take_zero, HNil.out]; exact own1)
  have B1 := hide (grown_b grow1)
  clear own1 grow1 HNil
  generalize hgw : w.heap.size = g at *
  refine hide ?_
  go_wp2_with fail
  go_loopw [13] (fun i wr => ∃ J : Nat, J ≤ o.length ∧ i = .int .i64 J ∧ Hid (RowAt wr g 3 g N (ints (dpsTo ll (o.take J)))) ∧ Hid (Below g w wr)) (fun i _ => o.length - (intOf i).toNat)
  case atStart => exact ⟨0, Nat.zero_le _, rfl, R1, B1⟩
  case round =>
    clear R1 B1
    obtain ⟨J, hJ, rfl, HA, HW⟩ := hrel
    by_cases hjt : J < o.length
    · have hjI : (J : Int) < o.length := by omega
      obtain ⟨m, hm⟩ : ∃ m, o[J]? = some m := ⟨_, List.getElem?_eq_getElem hjt⟩
      obtain ⟨hm0, hm1⟩ := HOu.out.2.1 m (List.mem_of_getElem? hm)
      obtain ⟨M, rfl⟩ : ∃ M : Nat, m = (M : Int) := ⟨m.toNat, by omega⟩
      have hMN : M < N := by have := hNe.out; omega
      have hMI : (M : Int) < N := by omega
      have HT : Hid (o.take (J + 1) = o.take J ++ [(M : Int)]) := hide (take_more hm)
      rcases HO.out with rfl | ⟨ob, oo2, rfl, hob, hoc⟩
      · simp at hjt
      have c1 := (HW.out.cell (p := ⟨ob, oo2 + J, none⟩) (by show ob < g; omega)).trans (hoc J _ hm)
      have c2 := (HW.out.cell (p := ⟨ub, uo2 + M, none⟩) (by show ub < g; omega)).trans (HU.out M hMN)
      have hcase := HOu.out.2.2 J _ hm
      clear hoc hm hm0 hm1
      rcases hcase with ⟨e1, e2⟩ | ⟨u0, u1, u2, u3⟩
      · have HE : Hid (RowAt wr g 3 g N (ints (dpsTo ll (o.take (J + 1))))) := hide (by
          rw [HT.out, ← dpsTo_same e2]; exact HA.out)
        rw [e1] at c2
        clear e1 e2
        go_wp2_with fail
        go_roundw
        case rel => exact ⟨J + 1, by omega, by go_num, HE, HW⟩
        case measure => simp [intOf]; omega
      · obtain ⟨U, hU⟩ : ∃ U : Nat, upB ll M = (U : Int) := ⟨(upB ll M).toNat, by omega⟩
        rw [hU] at c2 u0 u1 u2 u3
        have hUN : U < N := by have := hNe.out; omega
        have hUI : (U : Int) < N := by omega
        have c3 := HA.out.cell (ints_at (dpsTo_at (met := o.take J) (b := U) (by rw [hNe.out]; exact hUN)))
        rw [u2, if_pos rfl] at c3
        obtain ⟨x, hx⟩ : ∃ x, (dpsTo ll (o.take J))[M]? = some x := ⟨_, dpsTo_at (by rw [hNe.out]; exact hMN)⟩
        have c4 := HA.out.cell (ints_at hx)
        have z4 := HA.out.frozen M
        have hne1 : ((U : Int) == -1) = false := beq_eq_false_iff_ne.2 (by omega)
        have hne2 : ((U : Int) != -1) = true := bne_iff_ne.2 (by omega)
        have hmx := HMax.out (U : Int)
        obtain ⟨D, hD⟩ : ∃ D, depthB ll (U : Int) = D := ⟨_, rfl⟩
        rw [hD] at c3 hmx u3
        have HE : Hid (RowAt (wr.setCell ⟨g, M, none⟩ (.int .i64 ((D : Int) + 1))) g 3 g N (ints (dpsTo ll (o.take (J + 1))))) := hide (by
          have e := dpsTo_set (ll := ll) (met := o.take J) (M := M) (by rw [hNe.out]; exact hMN)
          rw [HT.out, ← e, ← u3, ← ints_set]
          have := HA.out.set M (.int .i64 ((D : Int) + 1))
          simpa using this)
        have HE2 : Hid (Below g w (wr.setCell ⟨g, M, none⟩ (.int .i64 ((D : Int) + 1)))) := hide (HW.out.setCell (p := ⟨g, M, none⟩) (Nat.le_refl _) _)
        have hDb : D ≤ 1000000 := by have := hNe.out; omega
        clear hx u0 u1 u2 u3 hU hD hmx
        go_wp2_with fail
        go_roundw
        case rel => exact ⟨J + 1, by omega, by go_num, HE, HE2⟩
        case measure => simp [intOf]; omega
    · obtain rfl : J = o.length := by omega
      have HE : Hid (RowAt wr w.heap.size 3 g N (ints (dpsL ll)) ∧ Below w.heap.size w wr) := hide (by
        refine ⟨?_, by rw [hgw]; exact HW.out⟩
        have := HA.out
        rw [List.take_length, HEnd.out] at this
        rw [hgw]; exact this)
      go_wp2_with fail
      go_ret
      exact ⟨g, rfl, HE.out.1, HE.out.2⟩
end Go.Proofs.Ytnlcpfijfjbgjaa
namespace Go.Proofs.Ytnlcpfijfjbgjaa
open Go Go.RowKit
open G (Tok Er Ins Fun)
theorem mask_small (a : Nat) (ha : a ≤ 1000000) : bits .and .u64 (a : Int) 4294967295 = (a : Int) := by
  have h := bits_and_u64_nat a 4294967295 (by omega) (by omega)
  have e : a &&& 4294967295 = a % 4294967296 := Nat.and_two_pow_sub_one_eq_mod a 32
  rw [e, Nat.mod_eq_of_lt (by omega)] at h
  exact h
set_option maxHeartbeats 400000 in
set_option maxRecDepth 20000 in
theorem mul64_one (N : Nat) (h : N ≤ 1000000) (w : World) : Calls Try.prog 63 #[.int .u64 1, .int .u64 N] w fun e w' => e = .returned (.tuple #[.int .u64 0, .int .u64 N]) ∧ w' = w := by
  go_enter Try.func63, Try.ntmps63
  go_wp2_with fail
  have m1 : bits .and .u64 1 4294967295 = 1 := mask_small 1 (by omega)
  have m0 : bits .and .u64 0 4294967295 = 0 := mask_small 0 (by omega)
  have d0 : (N : Int) / 4294967296 = 0 := by omega
  have wN : IntKind.u64.wrap (N : Int) = (N : Int) := by rw [IntKind.wrap_u64]; omega
  have w0 : IntKind.u64.wrap 0 = 0 := by rw [IntKind.wrap_u64]; omega
  simp only [mask_small N h, m1, m0, Int.one_mul, Int.mul_zero, Int.add_zero, d0, wN, w0, Int.zero_ediv]
  go_ret2
  exact ⟨rfl, rfl⟩
set_option maxHeartbeats 400000 in
set_option maxRecDepth 20000 in
theorem mul_one (N : Nat) (h : N ≤ 1000000) (w : World) : Calls Try.prog 52 #[.int .u64 1, .int .u64 N] w fun e w' => e = .returned (.tuple #[.int .u64 0, .int .u64 N]) ∧ w' = w := by
  have HC := hide (mul64_one N h w)
  go_enter Try.func52, Try.ntmps52
  go_wp2_with fail
  refine HC.out.mono ?_; rintro e w1 ⟨rfl, hw⟩
  rw [hw]
  go_wp2_with fail
  go_ret2
  exact ⟨rfl, rfl⟩
theorem rowAt_heap {w : World} {B e g n : Nat} {xs : List Value} (h : RowAt w B e g n xs) : w.heap[g]? = some (.cells xs.toArray e (0, 0)) := by
  rcases h.2 with ⟨hn, _⟩ | ⟨g', cap, cur, e1, h1, h2, h3, h4, h5, h6⟩
  · injection hn with q; cases q
  · injection e1 with q1 q2 q3
    injection q1 with q1
    injection q1 with q1
    subst q1 q3
    rw [h2]
    have : cur = xs.toArray := by
      rw [← h6, List.take_of_length_le (by simp [h5])]
    rw [this]
theorem rowAt_of {w : World} {B e g n : Nat} {xs : List Value} (h : w.heap[g]? = some (.cells xs.toArray e (0, 0))) (hB : B ≤ g) (hl : xs.length = n) (hn : n ≤ maxLen) : RowAt w B e g n xs :=
  ⟨by omega, .inr ⟨g, n, xs.toArray, rfl, hB, h, Nat.le_refl _, hn, by simp [hl], by simp [← hl]⟩⟩
theorem fill_splice {N K : Nat} (C : Nat) : splice (ints (fillTo N K)) K (ints (List.replicate C (-1))) = ints (fillTo N (K + C)) := by
  unfold splice fillTo ints
  have e1 : (List.replicate (N - K) (0 : Int)).drop C = List.replicate (N - (K + C)) 0 := by rw [List.drop_replicate]; congr 1; omega
  have e2 : List.replicate (K + C) (-1 : Int) = List.replicate K (-1) ++ List.replicate C (-1) := by rw [List.replicate_append_replicate]
  rw [← List.map_take, ← List.map_drop, ← List.map_append, ← List.map_append]
  congr 1
  rw [List.take_append_of_le_length (by simp), List.take_of_length_le (by simp), List.drop_append, List.length_replicate, List.length_map, List.length_replicate, List.drop_eq_nil_of_le (by simp), Nat.add_sub_cancel_left, e1, e2]
  simp only [List.nil_append, List.append_assoc]
set_option maxHeartbeats 4000000 in
set_option maxRecDepth 20000 in
theorem repeat_any (N g0 : Nat) (h0 : 0 < N) (hN : N ≤ 1000000) (w : World) (hg0 : g0 < w.heap.size) (hx : w.cell? ⟨g0, 0, none⟩ = some (.int .i64 (-1))) :
    Calls Try.prog 39 #[.slice (some ⟨g0, 0, none⟩) 1 1, .int .i64 N] w fun e w' => e = .returned (.slice (some ⟨w.heap.size, 0, none⟩) N N) ∧ RowAt w' w.heap.size 3 w.heap.size N (ints (List.replicate N (-1))) ∧ Below w.heap.size w w' := by
  obtain ⟨i3, hi3, hz3, hz4, hz5⟩ := info_parts Try.info3
  have hsz : (Try.prog.info? 3).map (·.size) = some 1 := by rw [hi3]; simp [hz4]
  have HM := hide (mul_one N hN w)
  have hw1 : IntKind.u64.wrap (N : Int) = (N : Int) := by rw [IntKind.wrap_u64]; omega
  have hw2 : IntKind.i64.wrap (N : Int) = (N : Int) := IntWalk.i64_in _ ⟨by omega, by omega⟩
  have HX := hide hx
  clear hx
  go_enter Try.func39, Try.ntmps39
  go_wp2_with fail
  refine HM.out.mono ?_; rintro e w1 ⟨rfl, hw⟩
  rw [hw]
  clear hw HM
  go_upto_region 7 with (at_make; refine wpList_make_full _ rfl _ _ 22 rfl w.heap.size 3 i3 _ 1 Try.underlying22 hi3 hz3 hz4 .i64 .i64 N N N rfl rfl rfl rfl (by rw [hz5]; omega) (by unfold maxLen; omega) (Nat.le_refl _) ?_; intro w2 own2 grow2; refine Hid.out ?_)
  rw [made_ints] at own2
  have R0 : Hid (w2.heap[w.heap.size]? = some (.cells (ints (fillTo N 0)).toArray 3 (0, 0))) := hide (by
    have e : fillTo N 0 = List.replicate N 0 := by simp [fillTo]
    rw [e]; exact rowAt_heap own2)
  have B0 := hide (grown_b grow2)
  have hc0 : Hid (∀ j v, (ints [-1])[j]? = some v → w2.cell? ((⟨g0, 0, none⟩ : Addr).add j) = some v) := hide (by
    intro j v hj
    match j, hj with
    | 0, hj =>
      simp [ints] at hj
      subst hj
      have := (B0.out.cell (p := ⟨g0, 0, none⟩) hg0).trans HX.out
      simpa [Addr.add] using this)
  have hm1 : Hid ((ints [-1]).length = Nat.min 1 N) := hide (by show 1 = min 1 N; omega)
  have hm2 : Hid (0 + (ints [-1]).length ≤ (ints (fillTo N 0)).length) := hide (by simp [ints, fillTo]; omega)
  clear own2 grow2
  generalize hg : w.heap.size = g at *
  refine hide ?_
  go_wp2_with (refine wpList_copy_splice rfl (.tmp 31) (.tmp 32) 22 22 rfl 3 Try.underlying22 hsz (some ⟨g, 0, none⟩) (some ⟨g0, 0, none⟩) N N 1 1 rfl rfl g 0 (ints (fillTo N 0)) 3 R0.out (ints [-1]) hm1.out (fun _ => ⟨rfl, _, rfl, hc0.out⟩) hm2.out (oneCell_ints _) g w B0.out (Nat.le_refl _) ?_; intro w3 hr3 hb3; refine Hid.out ?_)
  have R1 : Hid (w3.heap[g]? = some (.cells (ints (fillTo N 1)).toArray 3 (0, 0))) := hide (by
    have e := fill_splice (N := N) (K := 0) 1
    have e2 := hr3.out
    have e3 : ints [-1] = ints (List.replicate 1 (-1)) := rfl
    rw [e3, e] at e2
    exact e2)
  have B1 := hide hb3
  clear hr3 hb3 R0 B0 hc0
  refine hide ?_
  go_wp2_with fail
  go_loopw [8] (fun i wr => ∃ K : Nat, 1 ≤ K ∧ K ≤ N ∧ i = .int .i64 K ∧ Hid (wr.heap[g]? = some (.cells (ints (fillTo N K)).toArray 3 (0, 0))) ∧ Hid (Below g w wr)) (fun i _ => N - (intOf i).toNat)
  case atStart => exact ⟨1, Nat.le_refl _, h0, rfl, R1, B1⟩
  case round =>
    clear R1 B1
    obtain ⟨K, hK1, hK, rfl, HR, HB⟩ := hrel
    by_cases hKN : K < N
    · have hKI : (K : Int) < N := by omega
      obtain ⟨C, hC1, hC2, hC3⟩ : ∃ C, 0 < C ∧ K + C ≤ N ∧ C = Nat.min K (N - K) := ⟨min K (N - K), by omega, by omega, rfl⟩
      have HRd : Hid (wr.drew.heap[g]? = some (.cells (ints (fillTo N K)).toArray 3 (0, 0))) := hide HR.out
      have HBd : Hid (Below g w wr.drew) := hide HB.out.drew
      have Hmin : Hid ((ints (List.replicate C (-1))).length = Nat.min K (N - K)) := hide (by simp [ints]; exact hC3)
      have Hfit : Hid (K + (ints (List.replicate C (-1))).length ≤ (ints (fillTo N K)).length) := hide (by simp [ints, fillTo]; omega)
      have hCK : C ≤ K := by rw [hC3]; exact Nat.min_le_left _ _
      have Hsrc : Hid (∀ j v, (ints (List.replicate C (-1)))[j]? = some v → wr.drew.cell? ((⟨g, 0, none⟩ : Addr).add j) = some v) := hide (by
        intro j v hj
        have hjC : j < C := by have := (List.getElem?_eq_some_iff.1 hj).1; simpa [ints] using this
        have e : v = .int .i64 (-1) := by
          simp only [ints, List.getElem?_map, List.getElem?_replicate, if_pos hjC, Option.map_some, Option.some.injEq] at hj
          exact hj.symm
        subst e
        have hrow := rowAt_of (B := g) (n := N) HRd.out (Nat.le_refl _) (by simp [ints, fillTo]; omega) (by unfold maxLen; omega)
        have := hrow.cell (j := j) (u := .int .i64 (-1)) (ints_at (by unfold fillTo; rw [List.getElem?_append_left (by simp; omega), List.getElem?_replicate, if_pos (by omega)]))
        rw [Addr.add_lit, Nat.zero_add]
        exact this)
      have HSp := hide (fill_splice (N := N) (K := K) C)
      have hwKC : IntKind.i64.wrap ((K : Int) + (C : Int)) = ((K + C : Nat) : Int) := by rw [IntWalk.i64_in _ ⟨by omega, by omega⟩]; omega
      replace hC3 := hide hC3
      go_wp2_with fail
      go_region_law (refine step_copy_splice rfl (.tmp 41) (.tmp 44) 22 22 rfl 3 Try.underlying22 hsz (some ⟨g, K, none⟩) (some ⟨g, 0, none⟩) (N - K) (N - K) K N (by simp [Act.eval, Act.put]; omega) (by simp [Act.eval, Act.put]) g K (ints (fillTo N K)) 3 HRd.out (ints (List.replicate C (-1))) Hmin.out (fun _ => ⟨rfl, _, rfl, Hsrc.out⟩) Hfit.out (oneCell_ints _) g w HBd.out (Nat.le_refl _) ?_; intro w4 hr4 hb4)
      all_goals
        have HE : Hid (w4.heap[g]? = some (.cells (ints (fillTo N (K + C))).toArray 3 (0, 0))) := hide (by have := hr4.out; rwa [HSp.out] at this)
        have HE2 := hide hb4
        clear hr4 hb4
        go_wp2_with fail
        go_roundw
        case rel => exact ⟨K + C, by omega, hC2, by omega, HE⟩
        case measure => simp [intOf]; omega
    · obtain rfl : K = N := by omega
      have HE : Hid (RowAt wr w.heap.size 3 g K (ints (List.replicate K (-1))) ∧ Below w.heap.size w wr) := hide (by
        rw [hg]
        have e : fillTo K K = List.replicate K (-1) := by simp [fillTo]
        refine ⟨rowAt_of (by rw [← e]; exact HR.out) (Nat.le_refl _) (by simp [ints]) (by unfold maxLen; omega), HB.out⟩)
      go_wp2_with fail
      go_ret
      refine ⟨by rw [hg]; rfl, ?_⟩
      have := HE.out
      rw [hg] at this ⊢
      exact this
end Go.Proofs.Ytnlcpfijfjbgjaa
