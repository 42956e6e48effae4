/- Layer 8, the program: the order of blocks, by a list of the blocks on the way. Layer 9, the reference: whom one meets from the first block on, not by way of one. Layer 9, the reference: the table of what stands ahead of what. Layer 9, the reference: the table is read: ahead, how deep, the last one ahead, whom one is the last one ahead of. Layer 9, the reference: down the tree. -/
import Derived.Test.YtnlcpfijfjbgjaaOrAH
import Derived.Test.YtnlcpfijfjbgjaaOrAI
import Derived.Test.YtnlcpfijfjbgjaaOrAJ
import Derived.Deep.LoopGhost
import Derived.Laws.OwnMore
namespace Go.Proofs.Ytnlcpfijfjbgjaa
open Go Go.RowKit
open G (Tok Er Ins Fun)
theorem Try.info4 : (Try.prog.info? 4).map (fun i => (i.zero, i.size, i.bytes)) = some (some (.bool false), 1, 1) := by kernel_rfl
theorem own_pop {B g n c : Nat} {w : World} {l : List Int} {x : Int} (h : w.ownsRow B 3 1 (.slice (some ⟨g, 0, none⟩) (n + 1) c) (n + 1) (ints (l ++ [x]))) (hn : l.length = n) : w.ownsRow B 3 1 (.slice (some ⟨g, 0, none⟩) n c) n (ints l) := by
  rcases h.2 with ⟨h', _⟩ | ⟨g', cap', cur, h', hb, hg, hnc, hcm, hcs, htake⟩
  · simp at h'
  · simp only [Value.slice.injEq, Option.some.injEq, Addr.mk.injEq, and_true, true_and] at h'
    obtain ⟨rfl, rfl⟩ := h'
    refine ⟨by simp [ints, hn], .inr ⟨g, c, cur, rfl, hb, hg, by omega, hcm, hcs, ?_⟩⟩
    have e : cur.toList.take (n * 1) = (cur.toList.take ((n + 1) * 1)).take (n * 1) := by rw [List.take_take]; congr 1; omega
    rw [e, htake]
    simp [ints, ← hn]
/-- Two rows that lie apart. -/
def Apart (u v : Value) : Prop := u.ownBlock = none ∨ u.ownBlock ≠ v.ownBlock
theorem Apart.symm {u v : Value} (h : Apart u v) : Apart v u := by
  rcases h with h | h
  · cases hv : v.ownBlock with
    | none => exact .inl hv
    | some k => right; rw [h, hv]; simp
  · exact .inr fun e => h e.symm
theorem Apart.grow {B n : Nat} {u v v' : Value} {xs : List Value} {w : World} {o : Obj} (h : Apart u v) (hu : w.ownsRow B 3 1 u n xs) (hat : v'.ownBlock = v.ownBlock ∨ v'.ownBlock = some (w.alloc o).heap.size) : Apart u v' := by
  rcases hat with e | e
  · rcases h with h | h
    · exact .inl h
    · right; rw [e]; exact h
  · cases hb : u.ownBlock with
    | none => exact .inl hb
    | some k =>
      right
      rw [e, hb]
      have := (hu.lt k hb).2
      simp
      omega
/-- The order under way. -/
def OrdW (f : Fun) (B g1 g2 : Nat) (W : World) (k : Nat) (way done : List Int) (wv dv : Value) (wr : World) : Prop := ∃ tr mt, Dfs f way done tr mt ∧ leftN f done tr ≤ k ∧ RowAt wr W.heap.size 4 g1 f.2.2.2.1.length (bools mt) ∧ RowAt wr W.heap.size 3 g2 f.2.2.2.1.length (ints tr) ∧
  wr.ownsRow B 3 1 wv way.length (ints way) ∧ wr.ownsRow B 3 1 dv done.length (ints done) ∧ Apart wv dv ∧ Below W.heap.size W wr ∧ B ≤ wr.heap.size
theorem OrdW.below {f : Fun} {B g1 g2 k : Nat} {W wr w' : World} {way done : List Int} {wv dv : Value} (h : OrdW f B g1 g2 W k way done wv dv wr) (b : Below wr.heap.size wr w') : OrdW f B g1 g2 W k way done wv dv w' := by
  obtain ⟨tr, mt, h1, h2, h3, h4, h5, h6, h7, h8, h9⟩ := h
  exact ⟨tr, mt, h1, h2, h3.below b, h4.below b, own_below b _ _ _ _ _ _ h5, own_below b _ _ _ _ _ _ h6, h7, below_step h8 b, Nat.le_trans h9 b.size⟩
theorem last_way {l : List Int} (h : l ≠ []) : ∃ up k, l = up ++ [k] := ⟨l.dropLast, l.getLast h, (List.dropLast_concat_getLast h).symm⟩
set_option maxHeartbeats 8000000 in
set_option maxRecDepth 20000 in
theorem order_any (f : Fun) (no : Option Addr) (nc : Nat) (w : World) (hr : RowsR w no (succsF f)) (hF : Ful f) (hT : Tos f) (h0 : 0 < f.2.2.2.1.length) :
    Calls Try.prog 37 #[.slice no f.2.2.2.1.length nc] w fun e w' => ∃ u, e = .returned u ∧ w'.ownsRow w.heap.size 3 1 u (orderF f).length (ints (orderF f)) ∧ Below w.heap.size w w' := by
  obtain ⟨i4, hi4, hy0, hy1, hy2⟩ := info_parts Try.info4
  obtain ⟨i3, hi3, hz3, hz4, hz5⟩ := info_parts Try.info3
  have HR := hide hr
  have HFu := hide hF
  have HTo := hide hT
  have hbl : f.2.2.2.1.length ≤ 1000000 := hF.1
  have HSt := hide (Dfs.start h0)
  have hol := orderF_len hT h0
  have HOr : Hid ((postF f f.2.2.2.1.length 0 [] []).reverse = orderF f ∧ (orderF f).length = (postF f f.2.2.2.1.length 0 [] []).length ∧ 0 < (postF f f.2.2.2.1.length 0 [] []).length) := hide (by
    refine ⟨rfl, by simp [orderF], ?_⟩
    obtain ⟨M, hM⟩ : ∃ M, f.2.2.2.1.length = M + 1 := ⟨f.2.2.2.1.length - 1, by omega⟩
    rw [hM, postF_succ]; simp)
  obtain ⟨N, hN⟩ : ∃ N, N = f.2.2.2.1.length := ⟨_, rfl⟩
  have HN := hide hN
  rw [← hN] at hbl HSt hol h0
  rw [← hN]
  have hN0 : ((N : Int) == 0) = false := beq_eq_false_iff_ne.2 (by omega)
  clear hr hF hT hN
  go_enter Try.func37, Try.ntmps37
  go_upto_region 4 with (at_make; refine wpList_make_full _ rfl _ _ 55 rfl w.heap.size 4 i4 _ 1 Try.underlying55 hi4 hy0 hy1 .i64 .i64 N N N rfl rfl rfl rfl (by rw [hy2]; omega) (by unfold maxLen; omega) (Nat.le_refl _) ?_; intro w1 own1 grow1; refine Hid.out ?_)
  rw [made_bools] at own1
  have R1 : Hid (RowAt w1 w.heap.size 4 w.heap.size N (bools (List.replicate N false))) := hide own1
  have B1 := hide (grown_b grow1)
  have hs1 := B1.out.size
  clear own1 grow1
  refine hide ?_
  go_upto_region 5 with (at_make; refine wpList_make_full _ rfl _ _ 22 rfl w.heap.size 3 i3 _ 1 Try.underlying22 hi3 hz3 hz4 .i64 .i64 N N N rfl rfl rfl rfl (by rw [hz5]; omega) (by unfold maxLen; omega) hs1 ?_; intro w2 own2 grow2; refine Hid.out ?_)
  rw [made_ints] at own2
  have R2 : Hid (RowAt w2 w.heap.size 3 w1.heap.size N (ints (List.replicate N 0))) := hide own2
  have B2 := hide (grown_b grow2)
  have R12 := hide (R1.out.below B2.out)
  have B12 := hide (below_step B1.out B2.out)
  have hg1 : w.heap.size < w1.heap.size := R1.out.lt.2
  have hg2 : w1.heap.size < w2.heap.size := R2.out.lt.2
  clear own2 grow2 hs1 R1 B1 B2
  have c0 := R12.out.cell (j := 0) (u := .bool false) (by rw [bools, List.getElem?_map, List.getElem?_replicate, if_pos h0]; rfl)
  have z0 := R12.out.frozen 0
  have hNI : (0 : Int) < N := by omega
  refine hide ?_
  go_upto_region 6 with fail
  show Code.wp _ _ _ _ (w2.setCell ⟨w.heap.size, 0, none⟩ (.bool true))
  have hs3 : (w2.setCell ⟨w.heap.size, 0, none⟩ (.bool true)).heap.size = w2.heap.size := by simp
  have R13 : Hid (RowAt (w2.setCell ⟨w.heap.size, 0, none⟩ (.bool true)) w.heap.size 4 w.heap.size N (bools ((List.replicate N false).set 0 true))) := hide (by rw [← bools_set]; exact R12.out.set 0 _)
  have R23 : Hid (RowAt (w2.setCell ⟨w.heap.size, 0, none⟩ (.bool true)) w.heap.size 3 w1.heap.size N (ints (List.replicate N 0))) := hide (R2.out.other (p := ⟨w.heap.size, 0, none⟩) (by show w1.heap.size ≠ w.heap.size; omega) _)
  have B3 : Hid (Below w.heap.size w (w2.setCell ⟨w.heap.size, 0, none⟩ (.bool true))) := hide (B12.out.setCell (p := ⟨w.heap.size, 0, none⟩) (Nat.le_refl _) _)
  generalize w2.setCell ⟨w.heap.size, 0, none⟩ (.bool true) = w3 at *
  have b4 := below_box w3 (.cells #[.int .i64 0] 3)
  have HS4 : Hid (OrdW f w2.heap.size w.heap.size w1.heap.size w (leftN f [] (List.replicate N 0)) [0] [] (.slice (some ⟨w3.heap.size, 0, none⟩) 1 1) (.slice none 0 0) (w3.alloc (.cells #[.int .i64 0] 3))) := hide (by
    refine ⟨_, _, HSt.out, Nat.le_refl _, ?_, ?_, World.ownsRow_lit w3 #[.int .i64 0] 1 (by omega) (by unfold maxLen; omega) rfl, World.ownsRow_nil _ _ _ _, .inr (by simp [Value.ownBlock]), below_step B3.out b4, by have := b4.size; omega⟩
    · rw [← HN.out]; exact R13.out.below b4
    · rw [← HN.out]; exact R23.out.below b4)
  have hs4 : Hid (w2.heap.size ≤ w3.heap.size) := hide (by omega)
  clear c0 z0 R12 R2 R13 R23 B12 B3 b4 HSt hs3
  go_wp2_with fail
  generalize w3.alloc (.cells #[.int .i64 0] 3) = w4 at *
  generalize w3.heap.size = gw at *
  generalize w2.heap.size = B at *
  generalize hg2e : w1.heap.size = g2 at *
  generalize hg1e : w.heap.size = g1 at *
  go_loopg [5, 6] (leftN f [] (List.replicate N 0)) (fun k wv dv wr => ∃ way done, Hid (OrdW f B g1 g2 w k way done wv dv wr))
  case atStart => exact ⟨_, _, HS4⟩
  case round =>
    clear HS4
    obtain ⟨way, done, HS⟩ := hrel
    by_cases hw0 : way = []
    · subst hw0
      obtain ⟨tr, mt, h1, h2, h3, h4, h5, h6, h7, h8, h9⟩ := HS.out
      obtain ⟨wo, wc, rfl⟩ := own_len h5
      have hde := h1.ended
      rw [← hde] at HOr
      obtain ⟨hrv, hln, hpos⟩ := HOr.out
      rcases own_view h6 with ⟨_, hn⟩ | ⟨gd, dc, rfl, d1, d2, d3, d4, d5, d6⟩
      · omega
      have HC := hide (reverse_any done (orderF f) hrv B gd dc wr h6 (by omega))
      have H8 := hide h8
      have hB : g1 ≤ B := by omega
      have hwl : w.heap.size = g1 := hg1e
      replace hln := hide hln
      have h9' := hide h9
      clear h1 h2 h3 h4 h5 h6 h7 h8 h9 d5 d6 hrv HS hde
      go_wp2_with fail
      refine HC.out.mono ?_; rintro e wE ⟨rfl, o9, b9⟩
      have HE : Hid (wE.ownsRow w.heap.size 3 1 (.slice (some ⟨gd, 0, none⟩) done.length dc) (orderF f).length (ints (orderF f)) ∧ Below w.heap.size w wE) := hide (by
        refine ⟨by rw [hln.out, hwl]; exact own_base o9 hB, ?_⟩
        exact H8.out.trans (b9.mono (by rw [hwl]; exact hB)))
      clear o9 b9
      go_wp2_with fail
      go_ret
      exact ⟨_, rfl, HE.out.1, HE.out.2⟩
    · obtain ⟨up, kI, rfl⟩ := last_way hw0
      obtain ⟨tr, mt, h1, h2, h3, h4, h5, h6, h7, h8, h9⟩ := HS.out
      have hkn := h1.2.1.2 kI (by simp)
      obtain ⟨k, rfl⟩ : ∃ k : Nat, kI = (k : Int) := ⟨kI.toNat, by omega⟩
      rw [← HN.out] at h3 h4 hkn
      have hkN : (k : Int) < N := hkn.2
      have hk' : k < f.2.2.2.1.length := by rw [← HN.out]; omega
      have hlu : (up ++ [(k : Int)]).length = up.length + 1 := by simp
      have hul : up.length + 1 ≤ N := by
        have := fit_len _ _ h1.2.1.1 h1.2.1.2
        rw [hlu, ← HN.out] at this
        exact this
      have hdl : done.length + 1 ≤ N := by
        have q := h1.2.2.1
        have := fit_len _ (done ++ [(k : Int)]) (List.nodup_append.2 ⟨q.1, by simp, fun x hx y hy e => by
          simp at hy
          subst hy
          subst e
          exact h1.2.2.2.1 _ hx (by simp)⟩) (fun m hm => by
          rcases List.mem_append.1 hm with hm | hm
          · exact q.2 m hm
          · simp at hm; subst hm; rw [← HN.out]; exact hkn)
        rw [← HN.out] at this
        simpa using this
      rw [hlu] at h5
      rcases own_view h5 with ⟨_, hn⟩ | ⟨gw2, wc, rfl, d1, d2, d3, d4, d5, d6⟩
      · omega
      obtain ⟨P, hP⟩ : ∃ P, P = up.length + 1 := ⟨_, rfl⟩
      obtain ⟨L, hL⟩ : ∃ L, L = up.length := ⟨_, rfl⟩
      have hPL : (P : Int) - 1 = (L : Int) := by omega
      have hLP : (L : Int) < P := by omega
      have hLP2 : L < P := by omega
      have cw : wr.cell? ⟨gw2, L, none⟩ = some (.int .i64 k) := d5 L _ (ints_at (by rw [hL]; simp))
      rw [← hP] at h5 d1
      have hP0 : (0 : Int) < P := by omega
      have hPc : P ≤ wc := d1
      unfold maxLen at d2
      obtain ⟨cN, t1, t2, _⟩ := h1.2.2.2.2.2.2.2 k hk'
      have ct := h4.cell (ints_at t1)
      obtain ⟨do', dc, rfl⟩ := own_len h6
      rcases (HR.out.below h8) with e0 | ⟨sb, so, rfl, s1, s2⟩
      · have := succsF_len f
        rw [e0] at this
        simp at this
        omega
      obtain ⟨lv, s3, lo, lc, rfl, s4, s5, s6⟩ := s2 k _ (succsF_at hk')
      have HNu : Hid (Num N (nextF f k)) := hide (by have := HTo.out k; rwa [← HN.out] at this)
      have hll : (nextF f k).length ≤ 1000000 := nextF_len HFu.out hk'
      have HS4 := hide s4
      have H1 := hide h1
      have H2 := hide h2
      have H3 := hide h3
      have H4 := hide h4
      have H5 := hide h5
      have H6 := hide h6
      have H7 := hide h7
      have H8 := hide h8
      have T1 := hide t1
      clear h1 h2 h3 h4 h5 h6 h7 h8 d5 d6 s2 s4 t1 HS hw0 hkn d4 d3
      rw [← hP]
      have hkN2 : k < N := by omega
      have hP1 : P ≤ N := by omega
      replace hP := hide hP
      replace hL := hide hL
      clear hlu
      go_wp2_with fail
      go_region
      have b9 := L5.below_drew1 wr
      replace H3 := hide (H3.out.below b9)
      replace H4 := hide (H4.out.below b9)
      replace H5 := hide (own_below b9 _ _ _ _ _ _ H5.out)
      replace H6 := hide (own_below b9 _ _ _ _ _ _ H6.out)
      replace H8 := hide (below_step H8.out b9)
      replace HS4 := hide (HS4.out.below b9)
      replace ct := (b9.cell (p := ⟨g2, k, none⟩) H4.out.lt.2).trans ct
      replace s3 := (b9.cell (p := ⟨sb, so + k, none⟩) s1).trans s3
      replace h9 : B ≤ wr.drew.heap.size := Nat.le_trans h9 b9.size
      clear b9 cw s1
      generalize wr.drew = wD at *
      by_cases hce : cN = (nextF f k).length
      · have hce' : ((cN : Int) == ((nextF f k).length : Int)) = true := beq_iff_eq.2 (by omega)
        obtain ⟨hp1, hp2⟩ := H1.out.pop (by rw [← hce]; exact T1.out)
        have HP1 := hide hp1
        have hlk : leftN f (done ++ [(k : Int)]) tr < gk := Nat.lt_of_lt_of_le hp2 H2.out
        have hAp := hide (H7.out.symm)
        replace hce := hide hce
        generalize (nextF f k).length = ln at *
        clear hp1 hp2
        go_wp2_with (at_builtin; refine wpList_append_own_at _ rfl (.tmp 40) (.tmp 42) 22 rfl B 3 i3 _ 1 8 Try.underlying22 hi3 hz3 hz4 hz5 rfl (by decide) _ _ _ rfl (H6.out.alloc _) ⟨wD.heap.size, 0, none⟩ 1 1 [.int .i64 k] rfl rfl one_cell one_one (by unfold maxLen; omega) (by omega) (by simp; omega) ?_; intro v2 wB own2 grow2 _ at2; refine Hid.out ?_)
        have far : ∀ g, g < B → some g ≠ (Value.slice do' done.length dc).ownBlock := fun g hg e => by have := (H6.out.lt g e.symm).1; omega
        have HE : Hid (OrdW f B g1 g2 w (leftN f (done ++ [(k : Int)]) tr) up (done ++ [(k : Int)]) (.slice (some ⟨gw2, 0, none⟩) L wc) v2 wB) := hide (by
          refine ⟨tr, mt, HP1.out, Nat.le_refl _, ?_, ?_, ?_, by simpa [ints] using own2, ?_, ?_, ?_⟩
          · rw [← HN.out]; exact (H3.out.alloc _).kept grow2 (far g1 (by omega))
          · rw [← HN.out]; exact (H4.out.alloc _).kept grow2 (far g2 (by omega))
          · rw [← hL.out]
            refine own_pop (x := (k : Int)) ?_ hL.out.symm
            rw [hL.out, ← hP.out]
            exact (H5.out.alloc _).kept grow2 H7.out
          · exact (Apart.grow (w := wD) (u := .slice (some ⟨gw2, 0, none⟩) P wc) H7.out H5.out at2)
          · exact Below.grown (H8.out.alloc H8.out.size _) grow2 (by have := H8.out.size; simp; omega) (fun k hk => by have := (H6.out.lt k hk).1; omega)
          · have := grow2.size; simp at this; omega)
        clear own2 grow2 at2 far
        obtain ⟨vo, vc, rfl⟩ : ∃ vo vc, v2 = .slice vo (done.length + 1) vc := by
          obtain ⟨_, _, _, _, _, _, _, h, _⟩ := HE.out
          obtain ⟨vo, vc, e⟩ := own_len h
          exact ⟨vo, vc, by simpa using e⟩
        have hLc : (L : Int) ≤ wc := by omega
        refine hide ?_
        go_wp2_with fail
        go_roundg (leftN f (done ++ [(k : Int)]) tr)
        case measure => exact hlk
        case rel => exact ⟨_, _, HE⟩
      · have hce' : ((cN : Int) == ((nextF f k).length : Int)) = false := beq_eq_false_iff_ne.2 (by omega)
        have hcl : cN < (nextF f k).length := by omega
        have hclI : (cN : Int) < (nextF f k).length := by omega
        obtain ⟨m, hm⟩ : ∃ m, (nextF f k)[cN]? = some m := ⟨_, List.getElem?_eq_getElem hcl⟩
        obtain ⟨hm0, hm1⟩ := HNu.out m (List.mem_of_getElem? hm)
        obtain ⟨M, rfl⟩ : ∃ M : Nat, m = (M : Int) := ⟨m.toNat, by omega⟩
        have hM' : M < f.2.2.2.1.length := by rw [← HN.out]; omega
        have hMN : M < N := by omega
        rcases HS4.out with e0 | ⟨tb, to2, rfl, u1, u2⟩
        · rw [e0] at hcl; simp at hcl
        have ce := u2 cN _ hm
        have hmt := H1.out.2.2.2.2.2.2.1 M hM'
        have HOld := hide (fun h => H1.out.old T1.out hm hM' h)
        have HNew := hide (fun h => H1.out.new T1.out hm hM' h)
        clear u2 hm hce
        generalize hln : (nextF f k).length = ln at *
        clear hln
        go_wp2_with fail
        go_region
        have b9 := L5.below_drew1 wD
        replace H3 := hide (H3.out.below b9)
        replace H4 := hide (H4.out.below b9)
        replace H5 := hide (own_below b9 _ _ _ _ _ _ H5.out)
        replace H6 := hide (own_below b9 _ _ _ _ _ _ H6.out)
        replace H8 := hide (below_step H8.out b9)
        replace ct := (b9.cell (p := ⟨g2, k, none⟩) H4.out.lt.2).trans ct
        have zt := H4.out.frozen k
        replace h9 : B ≤ wD.drew.heap.size := Nat.le_trans h9 b9.size
        clear b9 ce s3 HS4
        generalize wD.drew = wE at *
        go_upto_region 15 with fail
        show Code.wp _ _ _ _ (wE.setCell ⟨g2, k, none⟩ (.int .i64 ((cN : Int) + 1)))
        replace H3 : Hid (RowAt (wE.setCell ⟨g2, k, none⟩ (.int .i64 ((cN : Int) + 1))) w.heap.size 4 g1 N (bools mt)) := hide (H3.out.other (p := ⟨g2, k, none⟩) (by show g1 ≠ g2; omega) _)
        replace H4 : Hid (RowAt (wE.setCell ⟨g2, k, none⟩ (.int .i64 ((cN : Int) + 1))) w.heap.size 3 g2 N (ints (tr.set k ((cN : Int) + 1)))) := hide (by rw [← ints_set]; exact H4.out.set k _)
        replace H5 : Hid ((wE.setCell ⟨g2, k, none⟩ (.int .i64 ((cN : Int) + 1))).ownsRow B 3 1 (.slice (some ⟨gw2, 0, none⟩) P wc) P (ints (up ++ [(k : Int)]))) := hide (ownsRow_setCell_below H5.out (a := ⟨g2, k, none⟩) hg2 _)
        replace H6 : Hid ((wE.setCell ⟨g2, k, none⟩ (.int .i64 ((cN : Int) + 1))).ownsRow B 3 1 (.slice do' done.length dc) done.length (ints done)) := hide (ownsRow_setCell_below H6.out (a := ⟨g2, k, none⟩) hg2 _)
        replace H8 : Hid (Below w.heap.size w (wE.setCell ⟨g2, k, none⟩ (.int .i64 ((cN : Int) + 1)))) := hide (H8.out.setCell (p := ⟨g2, k, none⟩) (by show w.heap.size ≤ g2; omega) _)
        replace h9 : B ≤ (wE.setCell ⟨g2, k, none⟩ (.int .i64 ((cN : Int) + 1))).heap.size := by simpa using h9
        clear ct zt
        generalize wE.setCell ⟨g2, k, none⟩ (.int .i64 ((cN : Int) + 1)) = w5 at *
        cases hb : (hasL done M || hasL (up ++ [(k : Int)]) M) with
        | true =>
          rw [hb] at hmt
          have cm := H3.out.cell (bools_at hmt)
          obtain ⟨hp1, hp2⟩ := HOld.out hmt
          have hlk : leftN f done (tr.set k ((cN : Int) + 1)) < gk := Nat.lt_of_lt_of_le hp2 H2.out
          have HE : Hid (OrdW f B g1 g2 w (leftN f done (tr.set k ((cN : Int) + 1))) (up ++ [(k : Int)]) done (.slice (some ⟨gw2, 0, none⟩) P wc) (.slice do' done.length dc) w5) := hide (by
            refine ⟨_, mt, hp1, Nat.le_refl _, by rw [← HN.out]; exact H3.out, by rw [← HN.out]; exact H4.out, ?_, H6.out, H7.out, H8.out, h9⟩
            have e : (up ++ [(k : Int)]).length = P := by rw [hP.out]; simp
            rw [e]; exact H5.out)
          replace hb := hide hb
          clear hp1 hp2 hmt HOld HNew
          go_wp2_with fail
          go_roundg (leftN f done (tr.set k ((cN : Int) + 1)))
          case measure => exact hlk
          case rel => exact ⟨_, _, HE⟩
        | false =>
          rw [hb] at hmt
          have cm := H3.out.cell (bools_at hmt)
          have zm := H3.out.frozen M
          obtain ⟨hp1, hp2⟩ := HNew.out hmt
          have HP1 := hide hp1
          have hlk : leftN f done (tr.set k ((cN : Int) + 1)) < gk := Nat.lt_of_lt_of_le hp2 H2.out
          replace hb := hide hb
          clear hp1 hp2 hmt HOld HNew
          go_upto_region 17 with fail
          show Code.wp _ _ _ _ (w5.setCell ⟨g1, M, none⟩ (.bool true))
          replace H3 : Hid (RowAt (w5.setCell ⟨g1, M, none⟩ (.bool true)) w.heap.size 4 g1 N (bools (mt.set M true))) := hide (by rw [← bools_set]; exact H3.out.set M _)
          replace H4 : Hid (RowAt (w5.setCell ⟨g1, M, none⟩ (.bool true)) w.heap.size 3 g2 N (ints (tr.set k ((cN : Int) + 1)))) := hide (H4.out.other (p := ⟨g1, M, none⟩) (by show g2 ≠ g1; omega) _)
          replace H5 : Hid ((w5.setCell ⟨g1, M, none⟩ (.bool true)).ownsRow B 3 1 (.slice (some ⟨gw2, 0, none⟩) P wc) P (ints (up ++ [(k : Int)]))) := hide (ownsRow_setCell_below H5.out (a := ⟨g1, M, none⟩) (by show g1 < B; omega) _)
          replace H6 : Hid ((w5.setCell ⟨g1, M, none⟩ (.bool true)).ownsRow B 3 1 (.slice do' done.length dc) done.length (ints done)) := hide (ownsRow_setCell_below H6.out (a := ⟨g1, M, none⟩) (by show g1 < B; omega) _)
          replace H8 : Hid (Below w.heap.size w (w5.setCell ⟨g1, M, none⟩ (.bool true))) := hide (H8.out.setCell (p := ⟨g1, M, none⟩) (by show w.heap.size ≤ g1; omega) _)
          replace h9 : B ≤ (w5.setCell ⟨g1, M, none⟩ (.bool true)).heap.size := by simpa using h9
          clear cm zm
          generalize w5.setCell ⟨g1, M, none⟩ (.bool true) = w6 at *
          go_wp2_with (at_builtin; refine wpList_append_own_at _ rfl (.tmp 73) (.tmp 75) 22 rfl B 3 i3 _ 1 8 Try.underlying22 hi3 hz3 hz4 hz5 rfl (by decide) _ _ _ rfl (H5.out.alloc _) ⟨w6.heap.size, 0, none⟩ 1 1 [.int .i64 M] rfl rfl one_cell one_one (by unfold maxLen; omega) (by omega) (by simp; omega) ?_; intro v2 wB own2 grow2 _ at2; refine Hid.out ?_)
          have far : ∀ g, g < B → some g ≠ (Value.slice (some ⟨gw2, 0, none⟩) P wc).ownBlock := fun g hg e => by have := (H5.out.lt g e.symm).1; omega
          have HE : Hid (OrdW f B g1 g2 w (leftN f done (tr.set k ((cN : Int) + 1))) (up ++ [(k : Int)] ++ [(M : Int)]) done v2 (.slice do' done.length dc) wB) := hide (by
            refine ⟨_, _, HP1.out, Nat.le_refl _, ?_, ?_, ?_, ?_, ?_, ?_, ?_⟩
            · rw [← HN.out]; exact (H3.out.alloc _).kept grow2 (far g1 (by omega))
            · rw [← HN.out]; exact (H4.out.alloc _).kept grow2 (far g2 (by omega))
            · have e : (up ++ [(k : Int)] ++ [(M : Int)]).length = P + 1 := by rw [hP.out]; simp
              rw [e]
              have := own2
              simpa [ints] using this
            · exact (H6.out.alloc _).kept grow2 H7.out.symm
            · exact (Apart.grow (w := w6) H7.out.symm H6.out at2).symm
            · exact Below.grown (H8.out.alloc H8.out.size _) grow2 (by have := H8.out.size; simp; omega) (fun k hk => by have := (H5.out.lt k hk).1; omega)
            · have := grow2.size; simp at this; omega)
          obtain ⟨vo, vc, rfl⟩ := own_len own2
          clear own2 grow2 at2 far
          refine hide ?_
          go_wp2_with fail
          go_roundg (leftN f done (tr.set k ((cN : Int) + 1)))
          case measure => exact hlk
          case rel => exact ⟨_, _, HE⟩
end Go.Proofs.Ytnlcpfijfjbgjaa
namespace Go.Proofs.Ytnlcpfijfjbgjaa
open Go Go.RowKit
open G (Tok Er Ins Fun)
/-- A list of bools of one's own, under way. -/
def GrB (w : World) (l : List Bool) (v : Value) (wr : World) : Prop := wr.ownsRow w.heap.size 4 1 v l.length (bools l) ∧ Below w.heap.size w wr
theorem GrB.start (w : World) : GrB w [] (.slice none 0 0) w := ⟨World.ownsRow_nil _ _ _ _, Below.refl _ _⟩
theorem GrB.step {w wr w2 : World} {l : List Bool} {v v' : Value} {x : Bool} {o : Obj} (h : GrB w l v wr) (own : w2.ownsRow w.heap.size 4 1 v' (l.length + 1) (bools l ++ [.bool x])) (hg : (wr.alloc o).grownBy w2 v.ownBlock) : GrB w (l ++ [x]) v' w2 := by
  refine ⟨by simpa [bools] using own, ?_⟩
  refine Below.grown (h.2.alloc h.2.size o) hg (by simp; have := h.2.size; omega) ?_
  intro k hk
  exact (h.1.lt k hk).1
theorem GrB.len {w wr : World} {l : List Bool} {v : Value} (h : GrB w l v wr) : ∃ ao c, v = .slice ao l.length c := own_len h.1
end Go.Proofs.Ytnlcpfijfjbgjaa
namespace Go.Proofs.Ytnlcpfijfjbgjaa
open Go Go.RowKit
open G (Tok Er Ins Fun)
/-- What a block stands ahead of, of the first so many blocks; the table, to so many rows. -/
def rowTo (ll : List (List Int)) (a : Int) (K : Nat) : List Bool := (List.range K).map fun (b : Nat) => aheadB ll a b
def tabTo (ll : List (List Int)) (K : Nat) : List (List Bool) := (List.range K).map fun (a : Nat) => rowTo ll a ll.length
def tabOf (ll : List (List Int)) : List (List Bool) := tabTo ll ll.length
theorem rowTo_len (ll : List (List Int)) (a : Int) (K : Nat) : (rowTo ll a K).length = K := by simp [rowTo]
theorem rowTo_at {ll : List (List Int)} {a : Int} {K b : Nat} (h : b < K) : (rowTo ll a K)[b]? = some (aheadB ll a b) := by
  unfold rowTo; rw [List.getElem?_map, List.getElem?_range h]; rfl
theorem tabTo_len (ll : List (List Int)) (K : Nat) : (tabTo ll K).length = K := by simp [tabTo]
theorem tabTo_at {ll : List (List Int)} {K a : Nat} (h : a < K) : (tabTo ll K)[a]? = some (rowTo ll a ll.length) := by
  unfold tabTo; rw [List.getElem?_map, List.getElem?_range h]; rfl
/-- Lists of bools in a list of one's own. -/
def TabO (B : Nat) (w : World) (t : List (List Bool)) (v : Value) : Prop := ∃ us : List Value, w.ownsRow B 55 1 v t.length us ∧ us.length = t.length ∧ ∀ (i : Nat) (l : List Bool), t[i]? = some l → ∃ u, us[i]? = some u ∧ w.ownsRow B 4 1 u l.length (bools l)
theorem TabO.nil (B : Nat) (w : World) : TabO B w [] (.slice none 0 0) := ⟨[], World.ownsRow_nil _ _ _ _, rfl, fun i l h => by simp at h⟩
theorem TabO.below {B : Nat} {w w' : World} {t : List (List Bool)} {v : Value} (h : TabO B w t v) (b : Below w.heap.size w w') : TabO B w' t v := by
  obtain ⟨us, h1, h2, h3⟩ := h
  refine ⟨us, own_below b B _ _ _ _ _ h1, h2, fun i l hl => ?_⟩
  obtain ⟨u, k1, k2⟩ := h3 i l hl
  exact ⟨u, k1, own_below b B _ _ _ _ _ k2⟩
theorem TabO.base {B B' : Nat} {w : World} {t : List (List Bool)} {v : Value} (h : TabO B w t v) (hB : B' ≤ B) : TabO B' w t v := by
  obtain ⟨us, h1, h2, h3⟩ := h
  refine ⟨us, own_base h1 hB, h2, fun i l hl => ?_⟩
  obtain ⟨u, k1, k2⟩ := h3 i l hl
  exact ⟨u, k1, own_base k2 hB⟩
theorem TabO.len {B : Nat} {w : World} {t : List (List Bool)} {v : Value} (h : TabO B w t v) : ∃ ao c, v = .slice ao t.length c := by
  obtain ⟨us, h1, _⟩ := h
  exact own_len h1
theorem TabO.step {B : Nat} {wr w2 : World} {t : List (List Bool)} {l : List Bool} {v v' u : Value} {us : List Value} {o : Obj} (h1 : wr.ownsRow B 55 1 v t.length us)
    (h : us.length = t.length ∧ ∀ (i : Nat) (l : List Bool), t[i]? = some l → ∃ u, us[i]? = some u ∧ wr.ownsRow B 4 1 u l.length (bools l)) (hu : wr.ownsRow B 4 1 u l.length (bools l))
    (own : w2.ownsRow B 55 1 v' (t.length + 1) (us ++ [u])) (hg : (wr.alloc o).grownBy w2 v.ownBlock) : TabO B w2 (t ++ [l]) v' := by
  obtain ⟨h2, h3⟩ := h
  refine ⟨us ++ [u], by simpa using own, by simp [h2], fun i m hm => ?_⟩
  have other : ∀ (x : Value) (n : Nat) (xs : List Value), wr.ownsRow B 4 1 x n xs → w2.ownsRow B 4 1 x n xs := fun x n xs hx => own_other hg (h1.alloc o) (by decide) x n xs (hx.alloc o)
  by_cases hi : i < t.length
  · rw [List.getElem?_append_left hi] at hm
    obtain ⟨y, k1, k2⟩ := h3 i m hm
    exact ⟨y, by rw [List.getElem?_append_left (by omega)]; exact k1, other _ _ _ k2⟩
  · rw [List.getElem?_append_right (by omega)] at hm
    have hi2 : i - t.length = 0 := by
      have := (List.getElem?_eq_some_iff.1 hm).1
      simp at this
      omega
    rw [hi2] at hm
    simp at hm
    subst hm
    exact ⟨u, by rw [List.getElem?_append_right (by omega), h2, hi2]; rfl, other _ _ _ hu⟩
end Go.Proofs.Ytnlcpfijfjbgjaa
namespace Go.Proofs.Ytnlcpfijfjbgjaa
open Go Go.RowKit
open G (Tok Er Ins Fun)
/-- The table, as it is read. -/
def TabL (w : World) (ll : List (List Int)) (v : Value) : Prop := ∃ b o c, v = .slice (some ⟨b, o, none⟩) ll.length c ∧ b < w.heap.size ∧ ∀ i : Nat, i < ll.length → ∃ lb lo lc, w.cell? ⟨b, o + i, none⟩ = some (.slice (some ⟨lb, lo, none⟩) ll.length lc) ∧ lb < w.heap.size ∧
  ∀ j : Nat, j < ll.length → w.cell? ⟨lb, lo + j, none⟩ = some (.bool (aheadB ll i j))
theorem TabL.below {w w' : World} {ll : List (List Int)} {v : Value} (h : TabL w ll v) (hb : Below w.heap.size w w') : TabL w' ll v := by
  obtain ⟨b, o, c, e, h1, h2⟩ := h
  refine ⟨b, o, c, e, Nat.lt_of_lt_of_le h1 hb.size, fun i hi => ?_⟩
  obtain ⟨lb, lo, lc, k1, k2, k3⟩ := h2 i hi
  exact ⟨lb, lo, lc, (hb.cell (p := ⟨b, o + i, none⟩) h1).trans k1, Nat.lt_of_lt_of_le k2 hb.size, fun j hj => (hb.cell (p := ⟨lb, lo + j, none⟩) k2).trans (k3 j hj)⟩
theorem TabO.read {B : Nat} {w : World} {ll : List (List Int)} {v : Value} (h : TabO B w (tabOf ll) v) (hn : 0 < ll.length) : TabL w ll v := by
  obtain ⟨us, h1, h2, h3⟩ := h
  have hl : (tabOf ll).length = ll.length := tabTo_len _ _
  rw [hl] at h1
  rcases own_view h1 with ⟨_, e⟩ | ⟨g, cap, e, k1, k2, k3, k4, k5, k6⟩
  · omega
  refine ⟨g, 0, cap, e, k4, fun i hi => ?_⟩
  obtain ⟨u, q1, q2⟩ := h3 i _ (tabTo_at hi)
  rw [rowTo_len] at q2
  rcases own_view q2 with ⟨_, e⟩ | ⟨g2, cap2, e2, m1, m2, m3, m4, m5, m6⟩
  · omega
  refine ⟨g2, 0, cap2, by rw [Nat.zero_add, k5 i u q1, e2], m4, fun j hj => ?_⟩
  rw [Nat.zero_add]
  exact m5 j _ (bools_at (rowTo_at hj))
theorem cntB_max (p : Nat → Bool) : ∀ n, cntB p n ≤ n := by
  intro n
  induction n with
  | zero => exact Nat.le_refl _
  | succ n ih =>
    rw [cntB_succ]
    split <;> omega
theorem depth_max (ll : List (List Int)) (b : Int) : depthB ll b ≤ ll.length := cntB_max _ _
/-- The first number that has a property, of the first so many. -/
def firstB (p : Nat → Bool) : Nat → Int
  | 0 => -1
  | n + 1 => if 0 ≤ firstB p n then firstB p n else if p n then n else -1
theorem firstB_none {p : Nat → Bool} : ∀ n, (∀ j, j < n → p j = false) → firstB p n = -1 := by
  intro n
  induction n with
  | zero => intro _; rfl
  | succ n ih =>
    intro h
    have h1 := ih (fun j hj => h j (by omega))
    simp [firstB, h1, h n (by omega)]
theorem firstB_some {p : Nat → Bool} {K : Nat} (hp : p K = true) (h0 : ∀ j, j < K → p j = false) : ∀ n, K < n → firstB p n = K := by
  intro n
  induction n with
  | zero => intro h; omega
  | succ n ih =>
    intro h
    by_cases e : K = n
    · subst e
      have h1 := firstB_none K h0
      simp [firstB, h1, hp]
    · have h1 := ih (by omega)
      simp [firstB, h1]
/-- Is a block the last one ahead of another one? The last one ahead. -/
def isUpB (ll : List (List Int)) (b : Int) (a : Nat) : Bool := decide ((a : Int) ≠ b) && aheadB ll a b && decide (depthB ll a + 1 = depthB ll b)
def upB (ll : List (List Int)) (b : Int) : Int := firstB (isUpB ll b) ll.length
/-- Whom a block is the last one ahead of. -/
def kidsTo (ll : List (List Int)) (b : Int) (K : Nat) : List Int := ((List.range K).filter fun (a : Nat) => decide (0 ≤ b) && decide (upB ll a = b)).map Int.ofNat
def kidsB (ll : List (List Int)) (b : Int) : List Int := kidsTo ll b ll.length
theorem kidsTo_yes {ll : List (List Int)} {b : Int} {K : Nat} (h0 : 0 ≤ b) (h : upB ll K = b) : kidsTo ll b (K + 1) = kidsTo ll b K ++ [(K : Int)] := by
  unfold kidsTo; rw [List.range_succ, List.filter_append, List.map_append]; simp [h0, h]
theorem kidsTo_no {ll : List (List Int)} {b : Int} {K : Nat} (h : ¬ (0 ≤ b ∧ upB ll K = b)) : kidsTo ll b (K + 1) = kidsTo ll b K := by
  unfold kidsTo; rw [List.range_succ, List.filter_append, List.map_append]
  have e : (decide (0 ≤ b) && decide (upB ll K = b)) = false := by
    rw [Bool.and_eq_false_iff]
    by_cases h0 : 0 ≤ b
    · exact .inr (by simpa using fun e => h ⟨h0, e⟩)
    · exact .inl (by simpa using h0)
  simp [e]
theorem kidsTo_len (ll : List (List Int)) (b : Int) (K : Nat) : (kidsTo ll b K).length ≤ K := by
  unfold kidsTo; rw [List.length_map]
  exact Nat.le_trans (List.length_filter_le _ _) (by simp)
end Go.Proofs.Ytnlcpfijfjbgjaa
namespace Go.Proofs.Ytnlcpfijfjbgjaa
open Go Go.RowKit
open G (Tok Er Ins Fun)
theorem firstB_spec {p : Nat → Bool} : ∀ n, 0 ≤ firstB p n → p (firstB p n).toNat = true ∧ firstB p n < n := by
  intro n
  induction n with
  | zero => intro h; simp [firstB] at h
  | succ n ih =>
    intro h
    by_cases h0 : 0 ≤ firstB p n
    · have e : firstB p (n + 1) = firstB p n := by simp [firstB, h0]
      rw [e]
      have := ih h0
      exact ⟨this.1, by omega⟩
    · cases hp : p n with
      | true =>
        have e : firstB p (n + 1) = n := by simp [firstB, h0, hp]
        rw [e]
        exact ⟨by simpa using hp, by omega⟩
      | false =>
        have e : firstB p (n + 1) = -1 := by simp [firstB, h0, hp]
        rw [e] at h
        omega
theorem upB_is {ll : List (List Int)} (h : Gr ll) {b : Int} (h0 : 0 ≤ upB ll b) : IsUp ll b (upB ll b) := by
  have h1 := (firstB_spec _ h0).1
  have e : (((upB ll b).toNat : Nat) : Int) = upB ll b := Int.toNat_of_nonneg h0
  have h2 : isUpB ll b (upB ll b).toNat = true := h1
  unfold isUpB at h2
  rw [e] at h2
  simp only [Bool.and_eq_true, decide_eq_true_eq, ahead_iff h] at h2
  exact ⟨h2.1.1, h2.1.2, h2.2⟩
theorem upB_eq {ll : List (List Int)} (h : Gr ll) {b a : Int} (ha : IsUp ll b a) : upB ll b = a := by
  obtain ⟨n0, n1⟩ := ha.2.1.1.num h
  obtain ⟨A, rfl⟩ : ∃ A : Nat, a = (A : Int) := ⟨a.toNat, by omega⟩
  refine firstB_some (K := A) ?_ ?_ _ (by omega)
  · unfold isUpB
    simp only [Bool.and_eq_true, decide_eq_true_eq, ahead_iff h]
    exact ⟨⟨ha.1, ha.2.1⟩, ha.2.2⟩
  · intro j hj
    cases hp : isUpB ll b j with
    | false => rfl
    | true =>
      exfalso
      unfold isUpB at hp
      simp only [Bool.and_eq_true, decide_eq_true_eq, ahead_iff h] at hp
      have := IsUp.one h ⟨hp.1.1, hp.1.2, hp.2⟩ ha
      omega
theorem upB_no {ll : List (List Int)} (h : Gr ll) {b : Int} (hb : ∀ a, ¬ IsUp ll b a) : upB ll b = -1 := by
  by_cases h0 : 0 ≤ upB ll b
  · exact absurd (upB_is h h0) (hb _)
  · refine firstB_none _ fun j hj => ?_
    cases hp : isUpB ll b j with
    | false => rfl
    | true =>
      exfalso
      unfold isUpB at hp
      simp only [Bool.and_eq_true, decide_eq_true_eq, ahead_iff h] at hp
      exact hb _ ⟨hp.1.1, hp.1.2, hp.2⟩
theorem mem_kids {ll : List (List Int)} {b m : Int} (h : m ∈ kidsB ll b) : 0 ≤ b ∧ 0 ≤ m ∧ m < ll.length ∧ upB ll m = b := by
  unfold kidsB kidsTo at h
  obtain ⟨a, ha, rfl⟩ := List.mem_map.1 h
  obtain ⟨h1, h2⟩ := List.mem_filter.1 ha
  simp only [Bool.and_eq_true, decide_eq_true_eq] at h2
  exact ⟨h2.1, by simp, by simpa using h1, h2.2⟩
theorem kid_deep {ll : List (List Int)} (hg : Gr ll) {b m : Int} (h : m ∈ kidsB ll b) : depthB ll b + 1 = depthB ll m := by
  obtain ⟨h0, _, _, e⟩ := mem_kids h
  subst e
  exact (upB_is hg h0).2.2
/-- Down the tree from a block, no deeper than so far. -/
def downN (ll : List (List Int)) : Nat → Int → List Int
  | 0, _ => []
  | N + 1, b => b :: (kidsB ll b).flatMap (downN ll N)
def downB (ll : List (List Int)) (b : Int) : List Int := downN ll (ll.length + 1) b
theorem downs_max {ll : List (List Int)} (hl : ll.length ≤ 10) {M : Nat} {d : Int → List Int} (hd : ∀ b, (d b).length ≤ M) (b : Int) (J : Nat) : (((kidsB ll b).take J).flatMap d).length ≤ 10 * M := by
  have key : ∀ l : List Int, (l.flatMap d).length ≤ l.length * M := by
    intro l
    induction l with
    | nil => simp
    | cons x l ih =>
      rw [List.flatMap_cons, List.length_append, List.length_cons, Nat.succ_mul]
      have := hd x
      omega
  have h1 := key ((kidsB ll b).take J)
  have h2 : ((kidsB ll b).take J).length ≤ 10 := by
    have := kidsTo_len ll b ll.length
    have h3 : (kidsB ll b).length ≤ ll.length := this
    rw [List.length_take]
    omega
  exact Nat.le_trans h1 (Nat.mul_le_mul_right M h2)
theorem downN_max {ll : List (List Int)} (hl : ll.length ≤ 10) : ∀ (N : Nat) (b : Int), (downN ll N b).length ≤ 11 ^ N := by
  intro N
  induction N with
  | zero => intro b; simp [downN]
  | succ N ih =>
    intro b
    have h1 := downs_max hl ih b (kidsB ll b).length
    rw [List.take_length] at h1
    have h2 : 1 ≤ 11 ^ N := Nat.one_le_pow _ _ (by omega)
    show ((kidsB ll b).flatMap (downN ll N)).length + 1 ≤ 11 ^ (N + 1)
    rw [Nat.pow_succ]
    omega
theorem Grw.below {w wr w2 : World} {l : List Int} {v : Value} (h : Grw w l v wr) (b : Below wr.heap.size wr w2) : Grw w l v w2 := ⟨own_below b _ _ _ _ _ _ h.1, below_step h.2 b⟩
end Go.Proofs.Ytnlcpfijfjbgjaa
