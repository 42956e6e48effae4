/- Layer 9, the program: the last other block ahead of each one, by rounds through the order. Layer 9, the program: the tree of a function. Layer 9, the program: what the tree answers: whether a number is a block's, the last one ahead, how many stand ahead, whether one stands ahead of another. -/
import Derived.Test.YtnlcpfijfjbgjaaTeAY
import Derived.Test.YtnlcpfijfjbgjaaTeBA
namespace Go.Proofs.Ytnlcpfijfjbgjaa
open Go Go.RowKit
open G (Tok Er Ins Fun)
/-- What ups is handed: the order, the places, and who goes to each block. -/
def UpIn (ll : List (List Int)) (pl : Int → Int) (o ps : List Int) (pp : List (List Int)) : Prop :=
  Gr ll ∧ Ord ll pl ∧ (ps.length = ll.length ∧ ∀ k : Nat, k < ll.length → ps[k]? = some (pl k)) ∧ ((∀ (i : Nat) (b : Int), o[i]? = some b → All ll b ∧ pl b = i) ∧ ∀ x, All ll x → pl x < o.length) ∧
  pp.length = ll.length ∧ (∀ (b : Nat) (l : List Int), pp[b]? = some l → (∀ p, p ∈ l ↔ (0 ≤ p ∧ p < ll.length ∧ (b : Int) ∈ ll.getD p.toNat [])) ∧ l.length ≤ 1000000) ∧ ll.length ≤ 1000000 ∧ o.length ≤ 1000000
theorem splice_all {a b : List Int} (h : a.length = b.length) : splice (ints b) 0 (ints a) = ints a := by
  unfold splice
  rw [List.take_zero, List.nil_append, List.drop_eq_nil_of_le (by simp [ints]; omega), List.append_nil]
theorem Sl.of_row {w : World} {B g n : Nat} {l : List Int} (h : RowAt w B 3 g n (ints l)) : Sl w (some ⟨g, 0, none⟩) l := by
  refine .inr ⟨g, 0, rfl, h.lt.2, fun i x hx => ?_⟩
  rw [Nat.zero_add]
  exact h.cell (ints_at hx)
theorem row_len {w : World} {B g n : Nat} {l : List Int} (h : RowAt w B 3 g n (ints l)) : l.length = n := by
  have := h.len; simpa [ints] using this
/-- Rounds under way: the row of what is known, the row of what was known. -/
def UpW (w : World) (g1 g2 n : Nat) (u b : List Int) (wr : World) : Prop := RowAt wr w.heap.size 3 g1 n (ints u) ∧ RowAt wr w.heap.size 3 g2 n (ints b) ∧ Below w.heap.size w wr
theorem UpW.below {w wr wr2 : World} {g1 g2 n : Nat} {u b : List Int} (h : UpW w g1 g2 n u b wr) (k : Below wr.heap.size wr wr2) : UpW w g1 g2 n u b wr2 := ⟨h.1.below k, h.2.1.below k, below_step h.2.2 k⟩
theorem UpW.put {w wr : World} {g1 g2 n : Nat} {u b : List Int} (h : UpW w g1 g2 n u b wr) (hne : g1 ≠ g2) (B : Nat) (x : Int) : UpW w g1 g2 n (u.set B x) b (wr.setCell ⟨g1, B, none⟩ (.int .i64 x)) :=
  ⟨by rw [← ints_set]; exact h.1.set B _, h.2.1.other (p := ⟨g1, B, none⟩) (fun e => hne e.symm) _, h.2.2.setCell (p := ⟨g1, B, none⟩) h.1.lt.1 _⟩
set_option maxHeartbeats 4000000 in
set_option maxRecDepth 20000 in
theorem ups_any (ll : List (List Int)) (pl : Int → Int) (o ps : List Int) (pp : List (List Int)) (hI : UpIn ll pl o ps pp) (oo po ro : Option Addr) (oc pc rc : Nat) (w : World) (hO : Sl w oo o) (hP : Sl w po ps) (hR : RowsR w ro pp) :
    Calls Try.prog 26 #[.slice oo o.length oc, .slice po ps.length pc, .slice ro pp.length rc] w fun e w' => ∃ g, e = .returned (.slice (some ⟨g, 0, none⟩) ll.length ll.length) ∧ RowAt w' w.heap.size 3 g ll.length (ints (upsL ll)) ∧ Below w.heap.size w w' := by
  obtain ⟨hg, ho, ⟨hps, hpl⟩, ⟨hoi, hol⟩, hpp, hpr, hN, hoL⟩ := hI
  obtain ⟨i3, hi3, hz3, hz4, hz5⟩ := info_parts Try.info3
  have hsz : (Try.prog.info? 3).map (·.size) = some 1 := by rw [hi3]; simp [hz4]
  obtain ⟨K, hK⟩ := enough_ex hg pl
  have hpos := hg.2
  have HSh := hide (fun (u l : List Int) (hu : u.length = ll.length) (hw : Wf ll pl (gU u)) (hl : Num ll.length l) (hll : l.length ≤ 1000000) => shared_any ll hg pl ho u ps l ⟨hu, hps, hpl⟩ hw hl hll)
  have HEq := hide equal_any
  have HRe := hide (fun g0 w hg0 hx => repeat_any ll.length g0 hpos hN w hg0 hx)
  have HOi := hide hoi
  have HOl := hide hol
  have HPr := hide hpr
  have HEx1 := hide (fun (r : Nat) (g : Int → Int) (h : Rd ll pl r g) (hr : K < r) => Rd.exact hg h hK hr)
  have HEx2 := hide (fun (r : Nat) (g : Int → Int) (h : Rd ll pl r g) (hs : ∀ r, Rd ll pl r g → Rd ll pl (r + 1) g) => Rd.fixed hg h hs)
  have HStep := hide (fun (r i : Nat) (old g : Int → Int) (h : Mrd ll pl r i old g) (b x : Int) (l : List Int) (hb : All ll b) (h0 : b ≠ 0) (hp : pl b = i) (hl : ∀ p, p ∈ l ↔ (0 ≤ p ∧ p < ll.length ∧ b ∈ ll.getD p.toNat [])) (hs : Sh ll g l x) => h.step hg ho hb h0 hp hl hs)
  have HZero := hide (fun (r : Nat) (old g : Int → Int) (h : Mrd ll pl r 0 old g) => h.zero ho)
  have HStart := hide (fun (r : Nat) (g : Int → Int) (h : Rd ll pl r g) => Mrd.start ho h)
  have hp0 := hide ho.2.2.1
  have HNum := hide (fun b (h : All ll b) => h.num hg)
  have HSO := hide hO
  have HSP := hide hP
  have HSR := hide hR
  rw [hps] at HSh ⊢
  rw [hpp]
  have hppl := hide hpp
  have HUps := hide (fun (u : List Int) (hl : u.length = ll.length) (h : ∀ b, gU u b = upB ll b) => upsL_of hl h)
  clear hg ho hps hpl hoi hol hpr hO hP hR hK hpp
  generalize hNe : ll.length = N at *
  replace hNe := hide hNe
  go_enter Try.func26, Try.ntmps26
  have X0 := hide (L5.Box.new w [.int .i64 (-1)] 3)
  have B0 := hide (below_box w (.cells #[.int .i64 (-1)] 3))
  have hs0 : (w.alloc (.cells #[.int .i64 (-1)] 3)).heap.size = w.heap.size + 1 := by simp
  have HC : Hid (Calls Try.prog 39 #[.slice (some ⟨w.heap.size, 0, none⟩) 1 1, .int .i64 N] (w.alloc (.cells #[.int .i64 (-1)] 3)) fun e w' => e = .returned (.slice (some ⟨w.heap.size + 1, 0, none⟩) N N) ∧ RowAt w' (w.heap.size + 1) 3 (w.heap.size + 1) N (ints (List.replicate N (-1))) ∧ Below (w.heap.size + 1) (w.alloc (.cells #[.int .i64 (-1)] 3)) w') := hide (by
    have := HRe.out w.heap.size (w.alloc (.cells #[.int .i64 (-1)] 3)) (by omega) (X0.out.2 0 _ rfl)
    rw [hs0] at this
    exact this)
  clear HRe X0
  go_wp2_with fail
  refine HC.out.mono ?_; rintro e w1 ⟨rfl, hr1, hb1⟩
  have R1 := hide hr1
  have B1 : Hid (Below w.heap.size w w1) := hide (below_step B0.out (by rw [hs0]; exact hb1))
  have hs1 : w.heap.size + 1 < w1.heap.size := hr1.lt.2
  clear HC hr1 hb1 hs0 B0
  go_upto_region 3 with (at_make; refine wpList_make_full _ rfl _ _ 22 rfl w.heap.size 3 i3 _ 1 Try.underlying22 hi3 hz3 hz4 .i64 .i64 N N N rfl rfl rfl rfl (by rw [hz5]; omega) (by unfold maxLen; omega) (by omega) ?_; intro w2 own2 grow2; refine Hid.out ?_)
  rw [made_ints] at own2
  have b12 := grown_b grow2
  have HS0 : Hid (UpW w (w.heap.size + 1) w1.heap.size N (List.replicate N (-1)) (List.replicate N 0) w2) := hide ⟨(R1.out.base (by omega)).below b12, own2, below_step B1.out b12⟩
  clear own2 grow2 b12 R1 B1
  generalize w1.heap.size = g2 at *
  obtain ⟨g1, hg1⟩ : ∃ g1, w.heap.size + 1 = g1 := ⟨_, rfl⟩
  rw [hg1] at HS0 hs1 ⊢
  have hg01 : w.heap.size ≤ g1 := by omega
  clear hg1
  refine hide ?_
  go_wp2_with fail
  go_loopg [23] (K + 2) (fun k _ wr => ∃ (r : Nat) (u b : List Int), k + r = K + 2 ∧ Hid (UpW w g1 g2 N u b wr) ∧ Hid (Rd ll pl r (gU u)))
  case atStart => exact ⟨0, _, _, rfl, HS0, hide (Rd.start (gU_none N))⟩
  case round =>
    clear HS0
    obtain ⟨r, u, b, hkr, HS, HRd⟩ := hrel
    have hul : u.length = N := row_len HS.out.1
    have hbl : b.length = N := row_len HS.out.2.1
    have R2h := hide (rowAt_heap HS.out.2.1)
    have Hm : Hid ((ints u).length = Nat.min N N) := hide (by simp [ints, hul])
    have Hfit : Hid (0 + (ints u).length ≤ (ints b).length) := hide (by simp [ints]; omega)
    have Hsrc : Hid (∀ j v, (ints u)[j]? = some v → wr.cell? ((⟨g1, 0, none⟩ : Addr).add j) = some v) := hide (fun j v hj => by
      rw [Addr.add_lit, Nat.zero_add]; exact HS.out.1.cell hj)
    have hg2l : g2 < wr.heap.size := HS.out.2.1.lt.2
    have Hul := hide hul
    have Hbl := hide hbl
    clear hul hbl
    go_wp2_with (refine wpList_copy_splice rfl (.tmp 18) (.tmp 19) 22 22 rfl 3 Try.underlying22 hsz (some ⟨g2, 0, none⟩) (some ⟨g1, 0, none⟩) N N N N rfl rfl g2 0 (ints b) 3 R2h.out (ints u) Hm.out (fun _ => ⟨rfl, _, rfl, Hsrc.out⟩) Hfit.out (oneCell_ints _) g2 wr (Below.refl _ _) (Nat.le_refl _) ?_; intro w3 hr3 hb3; refine Hid.out ?_)
    have HS3 : Hid (UpW w g1 g2 N u u w3) := hide (by
      have e := splice_all (Hul.out.trans Hbl.out.symm)
      have h3 := hr3.out
      rw [e] at h3
      refine ⟨?_, rowAt_of h3 (by omega) (by simp [ints]; exact Hul.out) (by unfold maxLen; omega), HS.out.2.2.trans (hb3.mono (by omega))⟩
      refine rowAt_of ?_ hg01 (by simp [ints]; exact Hul.out) (by unfold maxLen; omega)
      rw [hb3.block g1 (by omega)]
      exact rowAt_heap HS.out.1)
    clear hr3 hb3 Hm Hfit Hsrc R2h HS Hbl b hg2l
    refine hide ?_
    go_wp2_with fail
    go_loopw [23] (fun i wr => ∃ (J : Nat) (u' : List Int), J ≤ o.length ∧ i = .int .i64 J ∧ Hid (UpW w g1 g2 N u' u wr) ∧ Hid (∀ r, Rd ll pl r (gU u) → Mrd ll pl r J (gU u) (gU u'))) (fun i _ => o.length - (intOf i).toNat)
    case atStart => exact ⟨0, u, Nat.zero_le _, rfl, HS3, hide (fun r h => HStart.out r _ h)⟩
    case round =>
      clear HS3
      obtain ⟨J, u', hJ, rfl, HS, HM⟩ := hrel
      by_cases hjt : J < o.length
      · have hjI : (J : Int) < o.length := by omega
        obtain ⟨m, hm⟩ : ∃ m, o[J]? = some m := ⟨_, List.getElem?_eq_getElem hjt⟩
        obtain ⟨hma, hmp⟩ := HOi.out J m hm
        obtain ⟨hm0, hm1⟩ := HNum.out m hma
        obtain ⟨M, rfl⟩ : ∃ M : Nat, m = (M : Int) := ⟨m.toNat, by omega⟩
        have hMN : M < N := by have := hNe.out; omega
        have hMI : (M : Int) < N := by omega
        rcases HSO.out with rfl | ⟨ob, oo2, rfl, hob, hoc⟩
        · simp at hjt
        have c1 := (HS.out.2.2.cell (p := ⟨ob, oo2 + J, none⟩) hob).trans (hoc J _ hm)
        have HMa := hide hma
        have HMp := hide hmp
        clear hoc hm hm0 hm1 hma hmp
        by_cases hM0 : M = 0
        · have hMz1 : ((M : Int) == 0) = true := beq_iff_eq.2 (by omega)
          have hMz2 : ((M : Int) != 0) = false := by rw [bne_eq_false_iff_eq]; omega
          have HE : Hid (∀ r, Rd ll pl r (gU u) → Mrd ll pl r (J + 1) (gU u) (gU u')) := hide (fun r h => by
            have e1 := HMp.out
            have e2 := hp0.out
            subst hM0
            have e3 : J = 0 := by
              have : pl ((0 : Nat) : Int) = 0 := e2
              omega
            have := HM.out r h
            subst e3
            exact HZero.out r _ _ this)
          clear hM0
          go_wp2_with fail
          go_roundw
          case rel => exact ⟨J + 1, u', by omega, by go_num, HS, HE⟩
          case measure => simp [intOf]; omega
        · have hMz1 : ((M : Int) == 0) = false := beq_eq_false_iff_ne.2 (by omega)
          have hMz2 : ((M : Int) != 0) = true := bne_iff_ne.2 (by omega)
          have hML : M < pp.length := by rw [hppl.out]; exact hMN
          rcases HSR.out with e0 | ⟨rb, ro2, rfl, hrb, hrc⟩
          · rw [e0] at hML; simp at hML
          obtain ⟨l, hl⟩ : ∃ l, pp[M]? = some l := ⟨_, List.getElem?_eq_getElem hML⟩
          obtain ⟨pv, hpv, lo, lc, rfl, hls, _, _⟩ := hrc M l hl
          have c2 := (HS.out.2.2.cell (p := ⟨rb, ro2 + M, none⟩) hrb).trans hpv
          obtain ⟨hpl1, hpl2⟩ := HPr.out M l hl
          have HPl := hide hpl1
          have hul' : u'.length = N := row_len HS.out.1
          have Hul' := hide hul'
          have HC : Hid (Calls Try.prog 40 #[.slice (some ⟨g1, 0, none⟩) N N, .slice po N pc, .slice lo l.length lc] wr fun e w' => (∃ x, e = .returned (.int .i64 x) ∧ Sh ll (gU u') l x) ∧ Below wr.heap.size wr w') := hide (by
            have := HSh.out u' l hul' (HM.out r HRd.out).1 (fun p hp => ⟨((hpl1 p).1 hp).1, ((hpl1 p).1 hp).2.1⟩) hpl2 (some ⟨g1, 0, none⟩) po lo N pc lc wr (Sl.of_row HS.out.1) (HSP.out.below HS.out.2.2) (hls.below HS.out.2.2)
            rw [hul'] at this
            exact this)
          clear hrc hl hpl1 hpl2 hpv hls hML hul'
          go_wp2_with fail
          refine HC.out.mono ?_; rintro e w4 ⟨⟨x, rfl, hx⟩, b4⟩
          have HS4 := hide (HS.out.below b4)
          have c4 := HS4.out.1.cell (ints_at (gU_at (u := u') (A := M) (by rw [Hul'.out]; exact hMN)))
          have z4 := HS4.out.1.frozen M
          have HE1 : Hid (UpW w g1 g2 N (u'.set M x) u (w4.setCell ⟨g1, M, none⟩ (.int .i64 x))) := hide (HS4.out.put (by omega) M x)
          have HE2 : Hid (∀ r, Rd ll pl r (gU u) → Mrd ll pl r (J + 1) (gU u) (gU (u'.set M x))) := hide (fun r h => by
            rw [gU_set (by rw [Hul'.out]; exact hMN)]
            exact HStep.out r J _ _ (HM.out r h) _ _ l HMa.out (by omega) HMp.out HPl.out hx)
          clear HC hx b4 c1 c2 HS
          go_wp2_with fail
          go_roundw
          case rel => exact ⟨J + 1, _, by omega, by go_num, HE1, HE2⟩
          case measure => simp [intOf]; omega
      · obtain rfl : J = o.length := by omega
        have HAll : Hid (∀ r, Rd ll pl r (gU u) → Rd ll pl (r + 1) (gU u')) := hide (fun r h => (HM.out r h).done HOl.out)
        have hul' : u'.length = N := row_len HS.out.1
        have HC : Hid (Calls Try.prog 41 #[.slice (some ⟨g2, 0, none⟩) N N, .slice (some ⟨g1, 0, none⟩) N N] wr fun e w' => e = .returned (.bool (decide (u = u'))) ∧ Below wr.heap.size wr w') := hide (by
          have := HEq.out u u' (by rw [Hul.out, hul']) (by rw [Hul.out]; exact hN) (some ⟨g2, 0, none⟩) (some ⟨g1, 0, none⟩) N N wr (Sl.of_row HS.out.2.1) (Sl.of_row HS.out.1)
          rw [Hul.out, hul'] at this
          exact this)
        have Hul' := hide hul'
        clear hul' HM
        by_cases heq : u = u'
        · have hde : decide (u = u') = true := decide_eq_true heq
          rw [hde] at HC
          have HX : Hid (u' = upsL ll) := hide (HUps.out u' Hul'.out (by
            rw [← heq] at HAll ⊢
            exact HEx2.out r _ HRd.out HAll.out))
          rw [HX.out] at HS
          clear hde heq HAll
          go_wp2_with fail
          refine HC.out.mono ?_; rintro e w4 ⟨rfl, b4⟩
          have HE := hide (HS.out.below b4)
          clear HC b4
          go_wp2_with fail
          go_ret
          exact ⟨g1, rfl, HE.out.1, HE.out.2.2⟩
        · have hde : decide (u = u') = false := decide_eq_false heq
          rw [hde] at HC
          have hrK : r ≤ K := by
            refine Classical.byContradiction fun e => heq ?_
            rw [HUps.out u Hul.out (HEx1.out r _ HRd.out (by omega)), HUps.out u' Hul'.out (HEx1.out (r + 1) _ (HAll.out r HRd.out) (by omega))]
          have HR2 := hide (HAll.out r HRd.out)
          clear hde heq HAll
          go_wp2_with fail
          refine HC.out.mono ?_; rintro e w4 ⟨rfl, b4⟩
          have HE := hide (HS.out.below b4)
          clear HC b4
          go_wp2_with fail
          go_roundg (K + 2 - (r + 1))
          case measure => omega
          case rel => exact ⟨r + 1, u', u, by omega, HE, HR2⟩
end Go.Proofs.Ytnlcpfijfjbgjaa
namespace Go.Proofs.Ytnlcpfijfjbgjaa
open Go Go.RowKit
open G (Tok Er Ins Fun)
open Mix (Up)
/-- The tree, as it is read. -/
def TreeV (w : World) (f : Fun) (v : Value) : Prop := ∃ (t : Nat) (uo dd : Option Addr) (uc dc : Nat), v = .pointer (some ⟨t, 0, none⟩) ∧ L5.Box w t [.slice uo f.2.2.2.1.length uc, .slice dd f.2.2.2.1.length dc] ∧ Sl w uo (upsL (succsF f)) ∧ Sl w dd (dpsL (succsF f))
theorem TreeV.below {w w' : World} {f : Fun} {v : Value} (h : TreeV w f v) (b : Below w.heap.size w w') : TreeV w' f v := by
  obtain ⟨t, uo, dd, uc, dc, e, h1, h2, h3⟩ := h
  exact ⟨t, uo, dd, uc, dc, e, h1.below b, h2.below b, h3.below b⟩
theorem upIn_of {f : Fun} (hF : Ful f) (hT : Tos f) (h0 : 0 < f.2.2.2.1.length) : UpIn (succsF f) (atF f) (orderF f) (placesF f) (predsF f) := by
  have hg := gr_succs hT h0
  have hn := succsF_len f
  refine ⟨hg, ord_of hT h0, ⟨by rw [placesF_len, hn], fun k hk => placesF_at (by rw [← hn]; exact hk)⟩, ⟨fun i b hb => ⟨(mem_order hT h0 b).1 (List.mem_of_getElem? hb), at_order hT h0 hb⟩, fun x hx => ?_⟩, by rw [predsF_len, hn], fun b l hl => ?_, by rw [hn]; exact hF.1, Nat.le_trans (orderF_len hT h0) hF.1⟩
  · obtain ⟨i, hi, e⟩ := List.mem_iff_getElem.1 ((mem_order hT h0 x).2 hx)
    have : (orderF f)[i]? = some x := by rw [List.getElem?_eq_getElem hi, e]
    rw [at_order hT h0 this]
    omega
  · have hb : b < f.2.2.2.1.length := by have := (List.getElem?_eq_some_iff.1 hl).1; rw [predsF_len] at this; exact this
    have e : (predsF f)[b]? = some (predTo f b f.2.2.2.1.length) := by
      unfold predsF; rw [List.getElem?_map, List.getElem?_range hb]; rfl
    rw [e] at hl
    injection hl with hl
    subst hl
    refine ⟨fun p => ?_, Nat.le_trans (predTo_len f b _) hF.1⟩
    rw [hn]
    unfold predTo
    rw [List.mem_map]
    constructor
    · rintro ⟨j, hj, rfl⟩
      obtain ⟨j1, j2⟩ := List.mem_filter.1 hj
      have j3 : j < f.2.2.2.1.length := by simpa using j1
      refine ⟨by simp, by simp; omega, ?_⟩
      have e2 : (Int.ofNat j).toNat = j := rfl
      rw [next_getD (by rw [e2]; exact j3), e2]
      exact hasL_mem.1 j2
    · rintro ⟨q1, q2, q3⟩
      refine ⟨p.toNat, List.mem_filter.2 ⟨by simp; omega, ?_⟩, by simp; omega⟩
      rw [next_getD (by omega)] at q3
      exact hasL_mem.2 q3
def ofUp (fv ov : Value) (f : Fun) (t : Tmp) : Up := match t with
  | 7 => Up.eq ov
  | 8 | 10 => Up.eq fv
  | 9 => Up.ints (placesF f)
  | 11 => Up.rows (predsF f)
  | 12 | 4 => Up.ints (upsL (succsF f))
  | _ => Up.any
set_option maxHeartbeats 2000000 in
set_option maxRecDepth 20000 in
theorem of_any (f : Fun) (v : Value) (w : World) (hv : FunV w f v) (hF : Ful f) (hT : Tos f) (h0 : 0 < f.2.2.2.1.length) :
    Calls Try.prog 8 #[v] w fun e w' => ∃ a, e = .returned (.pointer (some a)) ∧ TreeV w' f (.pointer (some a)) ∧ Below w.heap.size w w' := by
  have hv2 := hv
  obtain ⟨vp, vb, rfl, _, _⟩ := hv2
  have b0 := below_box w (.cells #[.string (bs f.1), vp, .int .i64 f.2.2.1, vb, .int .i64 f.2.2.2.2] 25)
  have X0 := hide (L5.Box.new w [.string (bs f.1), vp, .int .i64 f.2.2.1, vb, .int .i64 f.2.2.2.2] 25)
  have HV := hide (hv.below b0)
  have B0 := hide b0
  have HIn := hide (upIn_of hF hT h0)
  have HGr := hide (gr_succs hT h0)
  have HOu := hide (ordU_of hT h0)
  have hN : f.2.2.2.1.length ≤ 1000000 := hF.1
  have hol : (orderF f).length ≤ 1000000 := Nat.le_trans (orderF_len hT h0) hF.1
  have HCo := hide (fun v w hv => orderP_any f v w hv hF hT h0)
  have HCp := hide (fun v w hv => placesP_any f v w hv hF hT h0)
  have HCr := hide (fun v w hv => preds_any f v w hv hF hT)
  have HSl := hide (succsF_len f)
  have HPl := hide (placesF_len f)
  clear b0 hv hF hT
  obtain ⟨lp, cp, rfl⟩ : ∃ ao c, vp = .slice ao f.2.1.length c := by
    obtain ⟨vp', vb', e, ⟨ao, c, e2, _⟩, _⟩ := HV.out
    injection e with e
    have e1 := congrArg (fun a => a[1]?) e
    simp at e1
    exact ⟨ao, c, by rw [e1, e2]⟩
  obtain ⟨lb, cb, rfl⟩ : ∃ ao c, vb = .slice ao f.2.2.2.1.length c := by
    obtain ⟨vp', vb', e, _, ⟨ao, c, e2, _⟩⟩ := HV.out
    injection e with e
    have e1 := congrArg (fun a => a[3]?) e
    simp at e1
    exact ⟨ao, c, by rw [e1, e2]⟩
  generalize bs f.1 = nm at *
  generalize f.2.1.length = lps at *
  generalize f.2.2.1 = rt at *
  obtain ⟨lbs, hlbs⟩ : ∃ n, n = f.2.2.2.1.length := ⟨_, rfl⟩
  rw [← hlbs] at X0 HV B0 h0 hN ⊢
  have HLB := hide hlbs
  clear hlbs
  generalize f.2.2.2.2 = pl at *
  go_enter Try.func8, Try.ntmps8
  go_upto_region 1 with fail
  show Code.wp _ _ _ _ (w.alloc (.cells #[.string nm, .slice lp lps cp, .int .i64 rt, .slice lb lbs cb, .int .i64 pl] 25))
  replace X0 : Hid (L5.Box (w.alloc (.cells #[.string nm, .slice lp lps cp, .int .i64 rt, .slice lb lbs cb, .int .i64 pl] 25)) w.heap.size [.string nm, .slice lp lps cp, .int .i64 rt, .slice lb lbs cb, .int .i64 pl]) := X0
  generalize w.alloc (.cells #[.string nm, .slice lp lps cp, .int .i64 rt, .slice lb lbs cb, .int .i64 pl] 25) = W at *
  generalize hq : w.heap.size = q at *
  obtain ⟨x0, x1, x2, x3, x4⟩ : _ ∧ _ ∧ _ ∧ _ ∧ _ := ⟨X0.out.2 0 _ rfl, X0.out.2 1 _ rfl, X0.out.2 2 _ rfl, X0.out.2 3 _ rfl, X0.out.2 4 _ rfl⟩
  have HO := hide (HCo.out _ W HV.out)
  go_wp2_with fail
  refine HO.out.mono ?_; rintro e w2 ⟨u, rfl, hu, b2⟩
  have HOi := hide (ints_of hu)
  obtain ⟨oo, oc, rfl⟩ := own_len hu
  have X2 := hide (X0.out.below b2)
  have HV2 := hide (HV.out.below b2)
  have B2 : Hid (Below w.heap.size w w2) := hide (by have h := B0.out; rw [← hq] at h; exact below_step h b2)
  clear x0 x1 x2 x3 x4 HO hu b2 X0 HV HCo
  have CP : ∀ w, Below w2.heap.size w2 w → Calls Try.prog 27 #[(.agg #[.string nm, .slice lp lps cp, .int .i64 rt, .slice lb lbs cb, .int .i64 pl])] w fun e w' => ∃ v, e = .returned v ∧ Below w.heap.size w w' ∧ IntsV w' (placesF f) v := fun w b => (HCp.out _ w (HV2.out.below b)).mono fun e w' ⟨g, he, h, b'⟩ => ⟨_, he, b', places_read h⟩
  have CR : ∀ w, Below w2.heap.size w2 w → Calls Try.prog 28 #[(.agg #[.string nm, .slice lp lps cp, .int .i64 rt, .slice lb lbs cb, .int .i64 pl])] w fun e w' => ∃ v, e = .returned v ∧ Below w.heap.size w w' ∧ RowsV w' (predsF f) v := fun w b => (HCr.out _ w (HV2.out.below b)).mono fun e w' ⟨v, he, h, b'⟩ => ⟨_, he, b', h.read⟩
  have CV : ∀ w, Below w2.heap.size w2 w → ∀ (p9 p11 : Value), IntsV w (placesF f) p9 → RowsV w (predsF f) p11 → Calls Try.prog 26 #[(.slice oo (orderF f).length oc), p9, p11] w fun e w' => ∃ v, e = .returned v ∧ Below w.heap.size w w' ∧ IntsV w' (upsL (succsF f)) v := by
    rintro w b p9 p11 ⟨po, pc, rfl, hps, _, _⟩ ⟨ro, rc, rfl, hrs, _, _⟩
    obtain ⟨oo', oc', e, hos, _, _⟩ := HOi.out.below b
    injection e with e1 e2 e3
    subst e1 e3
    refine (ups_any (succsF f) (atF f) (orderF f) (placesF f) (predsF f) HIn.out oo po ro oc pc rc w hos hps hrs).mono ?_
    rintro e w' ⟨g, rfl, hr, hb⟩
    refine ⟨_, rfl, hb, ?_⟩
    have h1 : (upsL (succsF f)).length = (succsF f).length := upsL_len _
    unfold RowAt at hr
    rw [← h1] at hr ⊢
    exact ints_of hr
  have CX : ∃ v w', Below w2.heap.size w2 w' ∧ IntsV w' (upsL (succsF f)) v := by
    obtain ⟨_, w3, v3, _, b3, h3⟩ := calls_exist (CP w2 (Below.refl _ _))
    obtain ⟨_, w4, v4, _, b4, h4⟩ := calls_exist (CR w3 b3)
    obtain ⟨_, w5, v5, _, b5, h5⟩ := calls_exist (CV w4 (below_step b3 b4) v3 v4 (h3.below b4) h4)
    exact ⟨v5, w5, below_step (below_step b3 b4) b5, h5⟩
  have xs := fun (w : World) (b : Below w2.heap.size w2 w) => And.intro ((X2.out.below b).2 0 _ rfl) (And.intro ((X2.out.below b).2 1 _ rfl) (And.intro ((X2.out.below b).2 2 _ rfl) (And.intro ((X2.out.below b).2 3 _ rfl) ((X2.out.below b).2 4 _ rfl))))
  go_upto_region 2 with fail
  refine Mix.wp_region_mix (ofUp (.agg #[.string nm, .slice lp lps cp, .int .i64 rt, .slice lb lbs cb, .int .i64 pl]) (.slice oo (orderF f).length oc) f) (by kernel_rfl) (by kernel_rfl) ?_
  refine Mix.mix_step rfl (valid_eq (.slice oo (orderF f).length oc) rfl) ?_ ?_
  · intro w b k
    clear k
    simp [go_sem]
    exact ⟨Below.refl _ _, fun d hd => by cases hd; rfl⟩
  rintro v ⟨_, _, h⟩
  obtain rfl : v = (.slice oo (orderF f).length oc) := h _ rfl
  clear h
  simp only [Act.put, List.setIfInBounds_toArray, List.set_cons_succ, List.set_cons_zero]
  refine Mix.mix_step rfl (valid_eq (.agg #[.string nm, .slice lp lps cp, .int .i64 rt, .slice lb lbs cb, .int .i64 pl]) rfl) ?_ ?_
  · intro w b k
    obtain ⟨x0, x1, x2, x3, x4⟩ := xs w b
    clear k
    simp [go_sem, x0, x1, x2, x3, x4]
    exact ⟨Below.refl _ _, fun d hd => by cases hd; rfl⟩
  rintro v ⟨_, _, h⟩
  obtain rfl : v = (.agg #[.string nm, .slice lp lps cp, .int .i64 rt, .slice lb lbs cb, .int .i64 pl]) := h _ rfl
  clear h
  simp only [Act.put, List.setIfInBounds_toArray, List.set_cons_succ, List.set_cons_zero]
  refine Mix.mix_step rfl (valid_of (CP w2 (Below.refl _ _))) ?_ ?_
  · intro w b k
    clear k
    simp [go_sem]
    exact Calls.mono (CP w b) fun e w' ⟨v, he, hb, hf⟩ => ⟨v, he, hb, fun d hd => by cases hd; exact hf⟩
  rintro p9 -
  simp only [Act.put, List.setIfInBounds_toArray, List.set_cons_succ, List.set_cons_zero]
  refine Mix.mix_step rfl (valid_eq (.agg #[.string nm, .slice lp lps cp, .int .i64 rt, .slice lb lbs cb, .int .i64 pl]) rfl) ?_ ?_
  · intro w b k
    obtain ⟨x0, x1, x2, x3, x4⟩ := xs w b
    clear k
    simp [go_sem, x0, x1, x2, x3, x4]
    exact ⟨Below.refl _ _, fun d hd => by cases hd; rfl⟩
  rintro v ⟨_, _, h⟩
  obtain rfl : v = (.agg #[.string nm, .slice lp lps cp, .int .i64 rt, .slice lb lbs cb, .int .i64 pl]) := h _ rfl
  clear h
  simp only [Act.put, List.setIfInBounds_toArray, List.set_cons_succ, List.set_cons_zero]
  refine Mix.mix_step rfl (valid_of (CR w2 (Below.refl _ _))) ?_ ?_
  · intro w b k
    clear k
    simp [go_sem]
    exact Calls.mono (CR w b) fun e w' ⟨v, he, hb, hf⟩ => ⟨v, he, hb, fun d hd => by cases hd; exact hf⟩
  rintro p11 -
  simp only [Act.put, List.setIfInBounds_toArray, List.set_cons_succ, List.set_cons_zero]
  refine Mix.mix_step rfl (by obtain ⟨v, w', b, h⟩ := CX; exact ⟨v, w', b, fun d hd => by cases hd; exact h⟩) ?_ ?_
  · intro w b k
    have f1 : IntsV w (placesF f) p9 := k 9 (by decide +kernel) (by simp [Mix.add]) p9 rfl
    have f2 : RowsV w (predsF f) p11 := k 11 (by decide +kernel) (by simp [Mix.add]) p11 rfl
    clear k
    simp [go_sem]
    exact Calls.mono (CV w b p9 p11 f1 f2) fun e w' ⟨v, he, hb, hf⟩ => ⟨v, he, hb, fun d hd => by cases hd; exact hf⟩
  rintro p12 -
  simp only [Act.put, List.setIfInBounds_toArray, List.set_cons_succ, List.set_cons_zero]
  refine Mix.mix_step rfl (by obtain ⟨v, w', b, h⟩ := CX; exact ⟨v, w', b, fun d hd => by cases hd; exact h⟩) ?_ ?_
  · intro w b k
    have f1 : IntsV w (upsL (succsF f)) p12 := k 12 (by decide +kernel) (by simp [Mix.add]) p12 rfl
    clear k
    simp [go_sem]
    exact ⟨Below.refl _ _, fun d hd => by cases hd; exact f1⟩
  rintro p4 -
  simp only [Act.put, List.setIfInBounds_toArray, List.set_cons_succ, List.set_cons_zero]
  refine Mix.mix_nil ?_
  intro w4 b4 hk
  have f4 : IntsV w4 (upsL (succsF f)) p4 := hk 4 (by simp [Mix.add]) p4 rfl
  clear CP CR CV CX xs hk HCp HCr HIn X2 HV2
  obtain ⟨uo, uc, rfl, hus, _, _⟩ := f4
  have e4 : (upsL (succsF f)).length = lbs := by rw [upsL_len, HSl.out, HLB.out]
  rw [e4]
  have HUs := hide hus
  have HD : Hid (Calls Try.prog 29 #[.slice oo (orderF f).length oc, .slice uo lbs uc] w4 fun e w' => ∃ g, e = .returned (.slice (some ⟨g, 0, none⟩) lbs lbs) ∧ RowAt w' w4.heap.size 3 g lbs (ints (dpsL (succsF f))) ∧ Below w4.heap.size w4 w') := hide (by
    obtain ⟨oo', oc', e, hos, _, _⟩ := HOi.out.below b4
    injection e with e1 e2 e3
    subst e1 e3
    have e5 : (succsF f).length = lbs := by rw [HSl.out, HLB.out]
    have := depths_any (succsF f) HGr.out (orderF f) HOu.out (by rw [e5]; exact hN) hol oo uo oc uc w4 hos hus
    rw [e5] at this
    exact this)
  have B4 : Hid (Below w.heap.size w w4) := hide (below_step B2.out b4)
  clear hus e4 b4 B2 HOi
  go_wp2_with fail
  refine HD.out.mono ?_; rintro e w5 ⟨g, rfl, hr5, b5⟩
  have HE : Hid (TreeV (w5.alloc (.cells #[.slice uo lbs uc, .slice (some ⟨g, 0, none⟩) lbs lbs] 54)) f (.pointer (some ⟨w5.heap.size, 0, none⟩)) ∧ Below w.heap.size w (w5.alloc (.cells #[.slice uo lbs uc, .slice (some ⟨g, 0, none⟩) lbs lbs] 54))) := hide (by
    have b6 := below_box w5 (.cells #[.slice uo lbs uc, .slice (some ⟨g, 0, none⟩) lbs lbs] 54)
    refine ⟨⟨w5.heap.size, uo, some ⟨g, 0, none⟩, uc, lbs, rfl, ?_, (HUs.out.below b5).below b6, (Sl.of_row hr5).below b6⟩, below_step (below_step B4.out b5) b6⟩
    rw [← HLB.out]
    exact L5.Box.new w5 [.slice uo lbs uc, .slice (some ⟨g, 0, none⟩) lbs lbs] 54)
  clear HD hr5 b5 HUs B4
  go_wp2_with fail
  go_ret
  exact ⟨_, rfl, HE.out.1, HE.out.2⟩
end Go.Proofs.Ytnlcpfijfjbgjaa
namespace Go.Proofs.Ytnlcpfijfjbgjaa
open Go Go.RowKit
open G (Tok Er Ins Fun)
/-- The tree's two lists, by their cells. -/
def TreeC (w : World) (ll : List (List Int)) (N t ub uo db dd uc dc : Nat) : Prop := t < w.heap.size ∧ ub < w.heap.size ∧ db < w.heap.size ∧ w.cell? ⟨t, 0, none⟩ = some (.slice (some ⟨ub, uo, none⟩) N uc) ∧ w.cell? ⟨t, 1, none⟩ = some (.slice (some ⟨db, dd, none⟩) N dc) ∧
  (∀ k : Nat, k < N → w.cell? ⟨ub, uo + k, none⟩ = some (.int .i64 (upB ll k))) ∧ ∀ k : Nat, k < N → w.cell? ⟨db, dd + k, none⟩ = some (.int .i64 ((depthB ll k : Nat) : Int))
theorem TreeC.below {w w' : World} {ll : List (List Int)} {N t ub uo db dd uc dc : Nat} (h : TreeC w ll N t ub uo db dd uc dc) (b : Below w.heap.size w w') : TreeC w' ll N t ub uo db dd uc dc := by
  obtain ⟨h1, h2, h3, h4, h5, h6, h7⟩ := h
  have hs := b.size
  exact ⟨by omega, by omega, by omega, (b.cell (p := ⟨t, 0, none⟩) h1).trans h4, (b.cell (p := ⟨t, 1, none⟩) h1).trans h5, fun k hk => (b.cell (p := ⟨ub, uo + k, none⟩) h2).trans (h6 k hk), fun k hk => (b.cell (p := ⟨db, dd + k, none⟩) h3).trans (h7 k hk)⟩
theorem TreeV.cells {w : World} {f : Fun} {v : Value} (h : TreeV w f v) (h0 : 0 < f.2.2.2.1.length) : ∃ t ub uo db dd uc dc, v = .pointer (some ⟨t, 0, none⟩) ∧ TreeC w (succsF f) f.2.2.2.1.length t ub uo db dd uc dc := by
  obtain ⟨t, uo, dd, uc, dc, rfl, h1, h2, h3⟩ := h
  have hn := succsF_len f
  rcases h2 with e | ⟨ub, o1, rfl, l1, c1⟩
  · have := upsL_len (succsF f); rw [e, hn] at this; simp at this; omega
  rcases h3 with e | ⟨db, o2, rfl, l2, c2⟩
  · have := dpsL_len (succsF f); rw [e, hn] at this; simp at this; omega
  exact ⟨t, ub, o1, db, o2, uc, dc, rfl, h1.1, l1, l2, h1.2 0 _ rfl, h1.2 1 _ rfl, fun k hk => c1 k _ (upsL_at (by omega)), fun k hk => c2 k _ (dpsL_at (by omega))⟩
set_option maxHeartbeats 4000000 in
set_option maxRecDepth 20000 in
theorem there_tree {ll : List (List Int)} {N t ub uo db dd uc dc : Nat} (k : Int) (w : World) (h : TreeC w ll N t ub uo db dd uc dc) :
    Calls Try.prog 33 #[.pointer (some ⟨t, 0, none⟩), .int .i64 k] w fun e w' => e = .returned (.bool (decide (0 ≤ k ∧ k < N))) ∧ w' = w := by
  obtain ⟨_, _, _, c1, _, _, _⟩ := h
  by_cases h0 : 0 ≤ k
  · have hd : decide (0 ≤ k ∧ k < N) = decide (k < (N : Int)) := by simp [h0]
    rw [hd]
    clear hd
    go_enter Try.func33, Try.ntmps33
    go_wp2_with fail
    go_ret
    exact ⟨rfl, rfl⟩
  · have hd : decide (0 ≤ k ∧ k < N) = false := by simp [h0]
    rw [hd]
    clear hd
    go_enter Try.func33, Try.ntmps33
    go_wp2_with fail
    go_ret
    exact ⟨rfl, rfl⟩
theorem upB_range {ll : List (List Int)} (hg : Gr ll) {b : Int} (h : ¬ (0 ≤ b ∧ b < ll.length)) : upB ll b = -1 := upB_no hg fun _ ha => h ⟨(ha.2.1.2.1.num hg).1, (ha.2.1.2.1.num hg).2⟩
set_option maxHeartbeats 4000000 in
set_option maxRecDepth 20000 in
theorem upT_any {ll : List (List Int)} {t ub uo db dd uc dc : Nat} (hg : Gr ll) (k : Int) (w : World) (h : TreeC w ll ll.length t ub uo db dd uc dc) :
    Calls Try.prog 12 #[.pointer (some ⟨t, 0, none⟩), .int .i64 k] w fun e w' => e = .returned (.int .i64 (upB ll k)) ∧ w' = w := by
  have HC := hide (there_tree k w h)
  obtain ⟨_, _, _, c1, _, c2, _⟩ := h
  by_cases hk : 0 ≤ k ∧ k < ll.length
  · rw [decide_eq_true hk] at HC
    obtain ⟨K, rfl⟩ : ∃ K : Nat, k = (K : Int) := ⟨k.toNat, by omega⟩
    have c3 := c2 K (by omega)
    have hKI : (K : Int) < ll.length := hk.2
    generalize upB ll (K : Int) = x at *
    clear c2 hg hk
    go_enter Try.func12, Try.ntmps12
    go_wp2_with fail
    refine HC.out.mono ?_; rintro e w1 ⟨rfl, rfl⟩
    clear HC
    go_wp2_with fail
    go_ret
    exact ⟨rfl, rfl⟩
  · rw [decide_eq_false hk] at HC
    rw [upB_range hg hk]
    clear c2 hg hk
    go_enter Try.func12, Try.ntmps12
    go_wp2_with fail
    refine HC.out.mono ?_; rintro e w1 ⟨rfl, rfl⟩
    clear HC
    go_wp2_with fail
    go_ret
    exact ⟨rfl, rfl⟩
set_option maxHeartbeats 4000000 in
set_option maxRecDepth 20000 in
theorem depthT_any {ll : List (List Int)} {t ub uo db dd uc dc : Nat} (hg : Gr ll) (k : Int) (w : World) (h : TreeC w ll ll.length t ub uo db dd uc dc) :
    Calls Try.prog 14 #[.pointer (some ⟨t, 0, none⟩), .int .i64 k] w fun e w' => e = .returned (.int .i64 ((depthB ll k : Nat) : Int)) ∧ w' = w := by
  have HC := hide (there_tree k w h)
  obtain ⟨_, _, _, _, c1, _, c2⟩ := h
  by_cases hk : 0 ≤ k ∧ k < ll.length
  · rw [decide_eq_true hk] at HC
    obtain ⟨K, rfl⟩ : ∃ K : Nat, k = (K : Int) := ⟨k.toNat, by omega⟩
    have c3 := c2 K (by omega)
    have hKI : (K : Int) < ll.length := hk.2
    generalize depthB ll (K : Int) = x at *
    clear c2 hg hk
    go_enter Try.func14, Try.ntmps14
    go_wp2_with fail
    refine HC.out.mono ?_; rintro e w1 ⟨rfl, rfl⟩
    clear HC
    go_wp2_with fail
    go_ret
    exact ⟨rfl, rfl⟩
  · rw [decide_eq_false hk] at HC
    have e : depthB ll k = 0 := depth_un hg (fun h => hk (h.num hg))
    rw [e]
    clear c2 hg hk e
    go_enter Try.func14, Try.ntmps14
    go_wp2_with fail
    refine HC.out.mono ?_; rintro e w1 ⟨rfl, rfl⟩
    clear HC
    go_wp2_with fail
    go_ret
    exact ⟨rfl, rfl⟩
theorem all_up {ll : List (List Int)} (hg : Gr ll) (b : Int) : All ll b ↔ (b = 0 ∨ upB ll b ≠ -1) := by
  constructor
  · intro h
    by_cases h0 : b = 0
    · exact .inl h0
    · right
      obtain ⟨a, ha⟩ := IsUp.ex hg h h0
      rw [upB_eq hg ha]
      have := ha.2.1.1.num hg
      omega
  · rintro (rfl | h)
    · exact All.first _
    · refine Classical.byContradiction fun e => h ?_
      exact upB_no hg fun a ha => e ha.2.1.2.1
open Classical in
/-- Is a number that of a block that is reached? -/
noncomputable def standB (ll : List (List Int)) (b : Int) : Bool := decide (All ll b)
set_option maxHeartbeats 4000000 in
set_option maxRecDepth 20000 in
theorem stands_any {ll : List (List Int)} {t ub uo db dd uc dc : Nat} (hg : Gr ll) (k : Int) (w : World) (h : TreeC w ll ll.length t ub uo db dd uc dc) :
    Calls Try.prog 32 #[.pointer (some ⟨t, 0, none⟩), .int .i64 k] w fun e w' => e = .returned (.bool (standB ll k)) ∧ w' = w := by
  have HC := hide (there_tree k w h)
  obtain ⟨_, ul, _, c1, _, c2, _⟩ := h
  by_cases hk : 0 ≤ k ∧ k < ll.length
  · rw [decide_eq_true hk] at HC
    obtain ⟨K, rfl⟩ : ∃ K : Nat, k = (K : Int) := ⟨k.toNat, by omega⟩
    have hKl : K < ll.length := by omega
    have hs : Sl w (some ⟨ub, uo, none⟩) (upsL ll) := .inr ⟨ub, uo, rfl, ul, fun i x hx => by
      have hi : i < ll.length := by have := (List.getElem?_eq_some_iff.1 hx).1; rw [upsL_len] at this; exact this
      rw [upsL_at hi] at hx
      injection hx with hx
      subst hx
      exact c2 i hi⟩
    have HR : Hid (Calls Try.prog 43 #[.slice (some ⟨ub, uo, none⟩) ll.length uc, .int .i64 K] w fun e w' => e = .returned (.bool (standB ll K)) ∧ w' = w) := hide (by
      have := reached_any (upsL ll) K (by rw [upsL_len]; exact hKl) (some ⟨ub, uo, none⟩) uc w hs
      have e : gU (upsL ll) (K : Int) = upB ll K := by
        have := gU_at (u := upsL ll) (A := K) (by rw [upsL_len]; exact hKl)
        rw [upsL_at hKl] at this
        injection this with this
        exact this.symm
      rw [e, upsL_len] at this
      have e2 : standB ll K = decide ((K : Int) = 0 ∨ upB ll K ≠ -1) := by
        unfold standB
        rw [Bool.eq_iff_iff]
        simp only [decide_eq_true_eq]
        exact all_up hg K
      rw [e2]
      exact this)
    clear c2 hg hk hs
    go_enter Try.func32, Try.ntmps32
    go_wp2_with fail
    refine HC.out.mono ?_; rintro e w1 ⟨rfl, rfl⟩
    clear HC
    go_wp2_with fail
    refine HR.out.mono ?_; rintro e w2 ⟨rfl, rfl⟩
    clear HR
    go_wp2_with fail
    go_ret
    exact ⟨rfl, rfl⟩
  · rw [decide_eq_false hk] at HC
    have e : standB ll k = false := by
      unfold standB
      rw [decide_eq_false_iff_not]
      exact fun h => hk (h.num hg)
    rw [e]
    clear c2 hg hk e
    go_enter Try.func32, Try.ntmps32
    go_wp2_with fail
    refine HC.out.mono ?_; rintro e w1 ⟨rfl, rfl⟩
    clear HC
    go_wp2_with fail
    go_ret
    exact ⟨rfl, rfl⟩
end Go.Proofs.Ytnlcpfijfjbgjaa
