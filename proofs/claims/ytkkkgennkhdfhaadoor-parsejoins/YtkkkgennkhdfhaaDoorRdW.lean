/- A program is read: the walk. -/
import Derived.Test.YtkkkgennkhdfhaaDoorRdV
namespace Go.Proofs.YtkkkgennkhdfhaaDoor
open Go Go.RowKit
open G (Tok Er Ins Fun peek0 peek1 atOf)

theorem one_slot {w : World} {v : Value} {t : TypeId} : (w.alloc (.cells #[v] t)).cell? ⟨w.heap.size, 0, none⟩ = some v := by simp [go_sem]
set_option maxHeartbeats 4000000 in
set_option maxRecDepth 20000 in
theorem program_any {B a : Nat} {L : List Tok} {E : Int} {l : List Tok} (w : World) (h : Rdr B a L E 0 l w) (ht : Tabs w) (h2 : 2 ≤ a) :
    Calls Tryd.prog 26 #[.pointer (some ⟨a, 0, none⟩)] w (OutP a (progG E l) w) := by
  obtain ⟨i0, hi0, hz0, hz1, hz2⟩ := info_parts Tryd.info34
  have hBw := h.size
  have hsm := h.suffix
  have b0 := below_step (below_box w (.cells #[.slice none 0 0] 25)) (below_box (w.alloc (.cells #[.slice none 0 0] 25)) (.cells #[.slice none 0 0] 25))
  have e1 : (w.alloc (.cells #[.slice none 0 0] 25)).heap.size = w.heap.size + 1 := by simp
  have M0 : Hid (MidP w a (w.heap.size + 1) L E 0 [] l ((w.alloc (.cells #[.slice none 0 0] 25)).alloc (.cells #[.slice none 0 0] 25))) :=
    hide ⟨((h.mono hBw (Nat.le_refl _)).step b0).mono (Nat.le_succ _) (by simp), ⟨.slice none 0 0, by rw [← e1]; exact heap_alloc_new _ _, [], World.ownsRow_nil _ _ _ _, rfl⟩, (heap_alloc_old _ _ (by simp)).trans (heap_alloc_new w _), Kp.of_belowW b0 (Nat.le_refl _), ht.below b0, h2, by omega⟩
  clear h ht b0 e1
  go_enter Tryd.func26, Tryd.ntmps26
  go_wp2_with fail
  show Code.wp _ _ _ _ ((w.alloc (.cells #[.slice none 0 0] 25)).alloc (.cells #[.slice none 0 0] 25))
  generalize (w.alloc (.cells #[.slice none 0 0] 25)).alloc (.cells #[.slice none 0 0] 25) = W0 at *
  obtain ⟨c, hc⟩ : ∃ c, c = w.heap.size + 1 := ⟨_, rfl⟩
  rw [← hc] at M0
  rw [← hc]
  replace hc := hide hc
  go_loopw [] (fun wr => ∃ (f m : Nat) (acc : List Fun) (l' : List Tok), MidP w a c L E m acc l' wr ∧ acc.length ≤ 32 ∧ l'.length < f ∧ Hid (progG E l = fwG E f m acc l')) (fun wr => L.length - readAt a wr)
  case atStart => exact ⟨l.length + 1, 0, [], l, M0.out, by simp, by omega, rfl⟩
  case round =>
    obtain ⟨f, m, acc, l', M5, h32, hlf, HM⟩ := hrel
    have hra := M5.1.readAt
    have hll := M5.1.suffix.1.length_le
    have hL := M5.1.suffix.2.1
    obtain ⟨aoW, cW, q0, q1⟩ := M5.1.words
    have M5 := hide M5
    obtain ⟨f, rfl⟩ : ∃ q, f = q + 1 := ⟨f - 1, by omega⟩
    have hj : L.length - l'.length ≤ 131072 := by omega
    by_cases hl' : l' = []
    · subst hl'
      have HE := hide (HM.out.trans fw_stop)
      have hj2 : ¬ (((L.length - ([] : List Tok).length : Nat) : Int) < L.length) := by simp
      simp only [List.length_nil, Nat.sub_zero] at q1 hj2
      have M6 := hide (M5.out.step (below_drew wr))
      go_wp2_with fail
      go_region
      generalize wr.drew = W6 at *
      clear M5 q0 q1 hj hj2 hra
      obtain ⟨v, hcv, cs, o1, o2⟩ := M6.out.2.1
      obtain ⟨aoV, cV, rfl⟩ := own_len o1
      have hS := hide M6.out.2.2.1
      have y0 : W6.cell? ⟨c, 0, none⟩ = some (.slice aoV acc.length cV) := by simp [World.cell?, hcv]
      have s0 : W6.cell? ⟨w.heap.size, 0, none⟩ = some (.slice none 0 0) := by simp [World.cell?, hS.out]
      have f0 : W6.frozen? ⟨w.heap.size, 0, none⟩ = false := by simp [World.frozen?, hS.out]
      have hlt7 := M6.out.lt
      have FF := hide ((Far.refl w.heap.size W6).set 0 (.slice aoV acc.length cV))
      have KK := hide (M6.out.2.2.2.1.trans (FF.out.kp (B := w.heap.size) (a := a) (Nat.le_refl _) (by omega) (fun cs fz hc => by rw [hS.out] at hc; simp at hc)))
      have SS := (far_kind (B := w.heap.size + 1) FF.out hS.out (by decide)).trans (stay_base (Nat.le_succ _))
      have OO := hide (own_base (FF.out.own o1 (own_ne o1 hS.out (by decide))) (Nat.le_succ _))
      have OB := hide (FRow.stay SS _ _ o2)
      clear o1 o2 SS hcv
      go_wp2_with fail
      exact bodyPost_ret (v := .agg #[.slice aoV acc.length cV]) (by simp [results, Tryd.results26, go_sem, s0]) rfl ⟨KK.out, .inl ⟨acc, m, [], _, HE.out, rfl, cs, OO.out, OB.out⟩⟩
    · have hlp : 0 < l'.length := List.length_pos_iff.2 hl'
      have hj2 : ((L.length - l'.length : Nat) : Int) < L.length := by omega
      have M6 := hide (M5.out.step (below_drew wr))
      go_wp2_with fail
      go_region
      generalize wr.drew = W6 at *
      clear M5 q0 q1 hj hj2
      have hlt6 := M6.out.lt
      obtain ⟨v, hcv, cs, o1, o2⟩ := M6.out.2.1
      obtain ⟨aoB, cB, rfl⟩ := own_len o1
      have c3 : W6.cell? ⟨c, 0, none⟩ = some (.slice aoB acc.length cB) := by simp [World.cell?, hcv]
      clear hcv o1 o2 cs
      by_cases h9 : acc.length < 32
      rotate_left
      · have HE := hide (HM.out.trans (fw_many hl' (by omega)))
        have h9a : ¬ (acc.length : Int) < 32 := by omega
        have h9b : (32 : Int) ≤ acc.length := by omega
        have h9c : decide ((acc.length : Int) < 32) = false := by simpa using h9b
        go_wp2_with fail
        go_region_with ((first
          | (go_at_call 32; refine (peek0_any _ M6.out.1.drew).mono ?_; rintro e w7 ⟨rfl, b7⟩; have c37 := (b7.cell (p := ⟨c, 0, none⟩) hlt6.2.2.1).trans c3)
          | (go_at_call 31; refine (need_no _ _ _ _).mono ?_; rintro e w8 ⟨rfl, b8⟩; refine step_done (P := Tryd.prog) (by exact bodyPost_thrown (P := Tryd.prog) (fn := Tryd.f26) ⟨M6.out.2.2.2.1.trans (Kp.of_belowW (below_step (Below.undrew (w := W6) b7) b8) M6.out.2.2.2.1.size), .inr ⟨_, HE.out, rfl⟩⟩) ?_)))
        all_goals trivial
      have h9a : (acc.length : Int) < 32 := by omega
      go_wp2_with fail
      go_region_held3 (fun w' => w'.cell? ⟨c, 0, none⟩ = some (.slice aoB acc.length cB))
        (first
          | (go_keep; done)
          | (exact (b7.cell (p := ⟨c, 0, none⟩) hlt6.2.2.1).trans (by assumption))
          | (exact (b8.cell (p := ⟨c, 0, none⟩) hcw7).trans (by assumption)))
        ((first
          | (go_at_call 32; refine (peek0_any _ M6.out.1.drew).mono ?_; rintro e w7 ⟨rfl, b7⟩; have hcw7 : c < w7.heap.size := Nat.lt_of_lt_of_le hlt6.2.2.1 b7.size)
          | (go_at_call 31; refine (need_ok _ _ _ _).mono ?_; rintro e w8 ⟨rfl, b8⟩)))
      have b7' : Below W6.heap.size W6 w7 := Below.undrew b7
      have M8 := hide (M6.out.step (below_step b7' b8))
      have c38 := ((below_step b7' b8).cell (p := ⟨c, 0, none⟩) hlt6.2.2.1).trans c3
      clear M6 c3 b7 b7' b8 hcw7 hlt6
      have hlt8 := M8.out.lt
      obtain ⟨vb, hc6, cs, oB6, hR6⟩ := M8.out.2.1
      have evb : vb = .slice aoB acc.length cB := by
        have e : w8.cell? ⟨c, 0, none⟩ = some vb := by simp [World.cell?, hc6]
        rw [c38] at e
        exact (Option.some.inj e).symm
      subst evb
      have c3 := c38
      have z3 : w8.frozen? ⟨c, 0, none⟩ = false := by simp [World.frozen?, hc6]
      have hc6 := hide hc6
      have oB6 := hide oB6
      have hR6 := hide hR6
      cases hblk : funG E m l' with
      | error er =>
        have HE := hide (HM.out.trans (fw_bad hl' h9 hblk))
        go_wp2_with fail
        go_region_with ((first
          | (go_at_call 33; refine (fun_err M8.out.1.drew (M8.out.2.2.2.2.1.below (below_drew w8)) h2 hblk).mono ?_; rintro e w9 ⟨rfl, k9⟩; refine step_done (P := Tryd.prog) (by exact bodyPost_thrown (P := Tryd.prog) (fn := Tryd.f26) ⟨M8.out.2.2.2.1.trans (k9.undrew.mono M8.out.2.2.2.1.size), .inr ⟨er, HE.out, rfl⟩⟩) ?_)))
        all_goals trivial
      | ok q =>
        obtain ⟨⟨x, m'⟩, l''⟩ := q
        have hless := fun_less hblk
        have HE := hide (HM.out.trans (fw_go hl' h9 hblk))
        have hva2 : (Value.slice aoB acc.length cB).ownBlock ≠ some c := own_ne oB6.out hc6.out (by decide)
        go_wp2_with fail
        go_region_law ((first
          | (refine step_append_lies _ (by rfl) _ _ _ (by rfl) (w.heap.size + 1) 34 i0 _ 5 80 Tryd.underlying23 hi0 hz0 hz1 hz2 rfl (by omega) (.slice aoB acc.length cB) acc.length cs (by rfl) ((own_kept k9.undrew (by omega) 34 5 _ _ _ oB6.out).alloc _)
              ⟨w9.heap.size, 0, none⟩ 1 1 (funCells x (.slice aoA mA cA) (.slice aoT mT cT)) (by rfl) (by rfl) five_cell five_one (by omega) (by unfold maxLen; omega) (by omega) (by simp; omega) (w9.heap.size + 1) (by simp) ?_; intro gg cap w10 hown hgrow hat hlt; obtain ⟨c3b, z3b⟩ := Cel.grown hgrow (by simp; omega) hva2 c3a z3a)
          | (go_simp; go_at_call 33; refine (fun_ok M8.out.1.drew (M8.out.2.2.2.2.1.below (below_drew w8)) h2 hblk).mono ?_; rintro e w9 ⟨aoA, mA, cA, aoT, mT, cT, rfl, V9a, V9, k9, r9⟩; have s9 : w8.heap.size ≤ w9.heap.size := k9.size; obtain ⟨c39, z39⟩ := Cel.kp k9 (c := c) (i := 0) hlt8.2.2.1 (by omega) c3 z3; obtain ⟨c3a, z3a⟩ := Cel.below (below_box w9 (.cells #[.string (bs x.1), .slice aoA mA cA, .int .i64 x.2.2.1, .slice aoT mT cT, .int .i64 x.2.2.2.2] 34)) (by omega) c39 z39; unfold funCells)))
        all_goals
          have K9 : Kp w8.heap.size a w8 w9 := k9.undrew
          have St := (stay_kp (B := w.heap.size + 1) K9 (by omega)).trans (stay_below (below_box w9 (.cells #[.string (bs x.1), .slice aoA mA cA, .int .i64 x.2.2.1, .slice aoT mT cT, .int .i64 x.2.2.2.2] 34)))
          have oR : (w9.alloc (.cells #[.string (bs x.1), .slice aoA mA cA, .int .i64 x.2.2.1, .slice aoT mT cT, .int .i64 x.2.2.2.2] 34)).ownsRow (w.heap.size + 1) 34 5 (.slice aoB acc.length cB) acc.length cs := (own_kept K9 (by omega) 34 5 _ _ _ oB6.out).alloc _
          have Sg := stay_grown (B := w.heap.size + 1) hgrow oR (by decide)
          have Sb : Stay w8.heap.size (w.heap.size + 1) w9 (w9.alloc (.cells #[.string (bs x.1), .slice aoA mA cA, .int .i64 x.2.2.1, .slice aoT mT cT, .int .i64 x.2.2.2.2] 34)) := (stay_base (show w.heap.size + 1 ≤ w8.heap.size by omega)).trans (stay_below (below_box w9 _))
          have hrow : ∀ q, (Value.slice aoB acc.length cB).ownBlock = some q → w.heap.size + 1 ≤ q := fun q hq => (oR.lt q hq).1
          have hc9 := (heap_alloc_old w9 (.cells #[.string (bs x.1), .slice aoA mA cA, .int .i64 x.2.2.1, .slice aoT mT cT, .int .i64 x.2.2.2.2] 34) (by omega)).trans ((K9.2.2.2.2 c hlt8.2.2.1 (by omega)).trans hc6.out)
          have hc10 := (hgrow.block c (by simp; omega) (fun e => hva2 e.symm)).trans hc9
          have F10 := (Far.refl c w10).set 0 (.slice (some ⟨gg, 0, none⟩) (acc.length + 1) cap)
          have Sf := far_kind (B := w.heap.size + 1) F10 hc10 (by decide)
          have PV : ProgVal (w.heap.size + 1) (acc ++ [x]) (.slice (some ⟨gg, 0, none⟩) (acc.length + 1) cap) (w10.setCell ⟨c, 0, none⟩ (.slice (some ⟨gg, 0, none⟩) (acc.length + 1) cap)) :=
            ⟨cs ++ funCells x (.slice aoA mA cA) (.slice aoT mT cT), by rw [List.length_append]; exact F10.own hown (own_ne hown hc10 (by decide)), FRow.snoc ((Sb.trans (Sg.trans Sf)) 3 1 _ _ _ (by simp) V9a) (V9.stay (Sb.trans (Sg.trans Sf))) _ _ (FRow.stay (St.trans (Sg.trans Sf)) _ _ hR6.out)⟩
          have RA := ((r9.step (below_box w9 (.cells #[.string (bs x.1), .slice aoA mA cA, .int .i64 x.2.2.1, .slice aoT mT cT, .int .i64 x.2.2.2.2] 34))).grown hgrow hrow).set (p := ⟨c, 0, none⟩) (by show _ ≤ c; omega) (.slice (some ⟨gg, 0, none⟩) (acc.length + 1) cap)
          have K10 := ((K9.andBelow (below_box w9 (.cells #[.string (bs x.1), .slice aoA mA cA, .int .i64 x.2.2.1, .slice aoT mT cT, .int .i64 x.2.2.2.2] 34))).mono (show w.heap.size ≤ _ by omega)).grown hgrow (by simp; omega) (fun q hq => by have := hrow q hq; omega) (own_not80 oR (by decide))
          have K11 := (M8.out.2.2.2.1.trans K10).trans (F10.kp (B := w.heap.size) (a := a) (by omega) (by omega) (fun cs fz hc => by rw [hc10] at hc; simp at hc))
          have T9 := M8.out.2.2.2.2.1.kp K9 h2 (by omega)
          have T10 := T9.grew (below_box w9 _) hgrow (fun q hq => by have := hrow q hq; omega)
          have T11 := T10.of (by rw [F10.2.2.2.1]; exact Nat.le_refl _) (F10.2.2.2.2 0 (by omega)) (F10.2.2.2.2 1 (by omega))
          have S9 := (heap_alloc_old w9 (.cells #[.string (bs x.1), .slice aoA mA cA, .int .i64 x.2.2.1, .slice aoT mT cT, .int .i64 x.2.2.2.2] 34) (by omega)).trans ((K9.2.2.2.2 w.heap.size (by omega) (by omega)).trans M8.out.2.2.1)
          have S10 := (hgrow.block w.heap.size (by simp; omega) (fun e => by have := hrow _ e.symm; omega)).trans S9
          have S11 := (F10.2.2.2.2 w.heap.size (by omega)).trans S10
          have M11 : Hid (MidP w a c L E m' (acc ++ [x]) l'' _) := hide ⟨RA, ⟨_, (heap_setCell_same w10 c 0 _ 25 _ hc10).trans rfl, PV⟩, S11, K11, T11, h2, by omega⟩
          have hra2 := M11.out.1.readAt
          have hll2 := M11.out.1.suffix.1.length_le
          clear RA PV S9 S10 S11 K9 K10 K11 T9 T10 T11 hc9 hc10 F10 V9 V9a k9 r9 hown hgrow c39 z39 c3a z3a oR Sg Sb Sf St
          go_wp2_with fail
          go_roundw
          case rel => exact ⟨f, m', acc ++ [x], l'', M11.out, by simp; omega, by omega, HE⟩
          case measure => rw [hra, hra2]; omega
end Go.Proofs.YtkkkgennkhdfhaaDoor
