/- Layer 6, the reference's reader, where nothing is wrong: a program is read, if its words are split. Layer 2, the reference's split: which bytes are of which kind. Layer 2, the reference's split, at texts without notes. -/
import Derived.Test.YtnlcpfijfjbgjaaOrAE
import Derived.Test.YtnlcpfijfjbgjaaOrAR
namespace Go.Proofs.Ytnlcpfijfjbgjaa
open Go Go.RowKit
open G (Tok Er Ins Fun peek0 peek1 atOf)
/-- What stands in memory while a program is read. -/
def MidT (w : World) (a c g2 g3 : Nat) (L : List Tok) (E : Int) (n : Nat) (xs : List Fun) (l : List Tok) (wk : World) : Prop :=
  RR a L E n l wk ∧ (∃ v, wk.heap[c]? = some (.cells #[v] 68 (0, 0)) ∧ ProgVal (a + 1) xs v wk) ∧ wk.heap[g2]? = some (.cells #[.slice none 0 0] 68 (0, 0)) ∧ wk.heap[g3]? = some (.cells #[.int .i64 0, .int .i64 0] 64 (0, 0)) ∧ Below w.heap.size w wk ∧ w.heap.size ≤ g2 ∧ g2 < g3 ∧ g3 < a ∧ a < c
section
variable {w : World} {a c g2 g3 : Nat} {L : List Tok} {E : Int} {n n' : Nat} {xs : List Fun} {l l' : List Tok} {wk wk' : World}
theorem MidT.lt (h : MidT w a c g2 g3 L E n xs l wk) : w.heap.size ≤ g2 ∧ g2 < g3 ∧ g3 < a ∧ a < c ∧ c < wk.heap.size := by
  obtain ⟨h1, ⟨v, h2, _⟩, h3, h4, h5, h6, h7, h8, h9⟩ := h
  exact ⟨h6, h7, h8, h9, (Array.getElem?_eq_some_iff.1 h2).1⟩
theorem below_step' {B a : Nat} {u v w : World} (h : Below B u v) (k : Kr a v w) (ha : B ≤ a) (hB : B ≤ v.heap.size) : Below B u w := h.trans (k.below ha hB)
theorem MidT.kr (h : MidT w a c g2 g3 L E n xs l wk) (r : RR a L E n' l' wk') (k : Kr a wk wk') : MidT w a c g2 g3 L E n' xs l' wk' := by
  have hl := h.lt
  obtain ⟨h1, ⟨v, h2, cs, o1, o2⟩, h3, h4, h5, h6, h7, h8, h9⟩ := h
  exact ⟨r, ⟨v, (k.2.2.2.2 c (by omega) (by omega)).trans h2, cs, own_kr o1 k (by omega), FRow.stay (stay_kr k (by omega)) _ _ o2⟩, (k.2.2.2.2 g2 (by omega) (by omega)).trans h3, (k.2.2.2.2 g3 (by omega) (by omega)).trans h4, below_step' h5 k (by omega) (by omega), h6, h7, h8, h9⟩
theorem MidT.below (h : MidT w a c g2 g3 L E n xs l wk) (b : Below wk.heap.size wk wk') : MidT w a c g2 g3 L E n xs l wk' := h.kr (h.1.below b) (Kr.of_below b)
end
/-- The reference's split answers these words. -/
def Splits (s : ByteArray) (L : List Tok) : Prop := ∀ w0 : World, Calls Try.prog 46 #[.string s] w0 fun e w' => ∃ v, e = .returned (.tuple #[v, .agg #[.int .i64 0, .int .i64 0]]) ∧ w'.ownsRow w0.heap.size 92 2 v L.length (cellsK L) ∧ Below w0.heap.size w0 w'
set_option maxHeartbeats 8000000 in
set_option maxRecDepth 20000 in
theorem rtext (s : ByteArray) {L : List Tok} (hL : L.length ≤ 131072 ∧ ∀ t ∈ L, t.1.length ≤ 65536) {xs : List Fun} {n' : Nat} (hsp : Splits s L) (hr : progG s.size L = .ok ((xs, n'), [])) (w : World) :
    Calls Try.prog 36 #[.string s] w fun e w' => ∃ v, e = .returned (.tuple #[.agg #[v], .agg #[.int .i64 0, .int .i64 0]]) ∧ ProgVal w.heap.size xs v w' ∧ Below w.heap.size w w' := by
  obtain ⟨i0, hi0, hz0, hz1, hz2⟩ := info_parts Try.info25
  have HR : Hid (fwG s.size (L.length + 1) 0 [] L = .ok ((xs, n'), [])) := hide hr
  have HSP := hide hsp
  have HL := hide hL
  clear hr hsp hL
  have b0 := below_box w (.cells #[.slice none 0 0] 68)
  have b1 := below_box (w.alloc (.cells #[.slice none 0 0] 68)) (.cells #[.int .i64 0, .int .i64 0] 64)
  have S2 : Hid (((w.alloc (.cells #[.slice none 0 0] 68)).alloc (.cells #[.int .i64 0, .int .i64 0] 64)).heap[w.heap.size]? = some (.cells #[.slice none 0 0] 68 (0, 0))) := hide ((b1.block _ (by simp)).trans (heap_alloc_new w _))
  have S3 : Hid (((w.alloc (.cells #[.slice none 0 0] 68)).alloc (.cells #[.int .i64 0, .int .i64 0] 64)).heap[w.heap.size + 1]? = some (.cells #[.int .i64 0, .int .i64 0] 64 (0, 0))) := hide (by
    have s1 : (w.alloc (.cells #[.slice none 0 0] 68)).heap.size = w.heap.size + 1 := by simp
    rw [← s1]; exact heap_alloc_new _ _)
  have B0 := hide (below_step b0 b1)
  have hsz0 : w.heap.size + 1 < ((w.alloc (.cells #[.slice none 0 0] 68)).alloc (.cells #[.int .i64 0, .int .i64 0] 64)).heap.size := by simp
  clear b0 b1
  go_enter Try.func36, Try.ntmps36
  go_upto_region 1 with fail
  show Code.wp _ _ _ _ ((w.alloc (.cells #[.slice none 0 0] 68)).alloc (.cells #[.int .i64 0, .int .i64 0] 64))
  generalize (w.alloc (.cells #[.slice none 0 0] 68)).alloc (.cells #[.int .i64 0, .int .i64 0] 64) = W0 at *
  go_wp2_with fail
  refine (HSP.out _).mono ?_; rintro e w1 ⟨v1, rfl, o1, b1⟩
  obtain ⟨ao, cp, rfl⟩ := own_len o1
  have b2 := below_box w1 (.cells #[.int .i64 0, .int .i64 0] 64)
  have O2 := hide (o1.alloc (.cells #[.int .i64 0, .int .i64 0] 64))
  have B2 := hide (below_step b1 b2)
  have x0 : (w1.alloc (.cells #[.int .i64 0, .int .i64 0] 64)).cell? ⟨w1.heap.size, 0, none⟩ = some (.int .i64 0) := by simp
  clear o1 b1 b2
  go_upto_region 2 with fail
  show Code.wp _ _ _ _ (w1.alloc (.cells #[.int .i64 0, .int .i64 0] 64))
  generalize w1.alloc (.cells #[.int .i64 0, .int .i64 0] 64) = W2 at *
  generalize w1.heap.size = g5 at *
  have b3 := below_box W2 (.cells #[.slice ao L.length cp, .int .i64 0, .int .i64 s.size, .int .i64 0, .int .i64 0, .int .i64 0] 82)
  have b4 := below_box (W2.alloc (.cells #[.slice ao L.length cp, .int .i64 0, .int .i64 s.size, .int .i64 0, .int .i64 0, .int .i64 0] 82)) (.cells #[.slice none 0 0] 68)
  have hW3 : (W2.alloc (.cells #[.slice ao L.length cp, .int .i64 0, .int .i64 s.size, .int .i64 0, .int .i64 0, .int .i64 0] 82)).heap.size = W2.heap.size + 1 := by simp
  have M0 : Hid (MidT w W2.heap.size (W2.heap.size + 1) w.heap.size (w.heap.size + 1) L s.size 0 [] L ((W2.alloc (.cells #[.slice ao L.length cp, .int .i64 0, .int .i64 s.size, .int .i64 0, .int .i64 0, .int .i64 0] 82)).alloc (.cells #[.slice none 0 0] 68))) := hide (by
    have hz := B2.out.size
    have hB := B0.out.size
    have BB := below_step B2.out (below_step b3 b4)
    refine ⟨⟨.slice ao L.length cp, ?_, ?_, List.suffix_refl _, HL.out, by omega⟩, ⟨.slice none 0 0, ?_, [], World.ownsRow_nil _ _ _ _, rfl⟩, (BB.block _ (by omega)).trans S2.out, (BB.block _ (by omega)).trans S3.out, below_step B0.out BB, Nat.le_refl _, by omega, by omega, by omega⟩
    · refine (b4.block _ (by omega)).trans ((heap_alloc_new W2 _).trans ?_)
      simp
    · exact own_base ((O2.out.alloc _).alloc _) (Nat.zero_le _)
    · rw [← hW3]; exact heap_alloc_new _ _)
  clear b3 b4 hW3 B2 O2 S2 S3 B0 hsz0
  go_wp2_with fail
  generalize (W2.alloc (.cells #[.slice ao L.length cp, .int .i64 0, .int .i64 s.size, .int .i64 0, .int .i64 0, .int .i64 0] 82)).alloc (.cells #[.slice none 0 0] 68) = W4 at *
  generalize W2.heap.size = a at *
  generalize a + 1 = c at *
  generalize w.heap.size + 1 = g3 at *
  clear x0
  go_loopw [] (fun wr => ∃ (f m : Nat) (acc : List Fun) (l' : List Tok), Hid (MidT w a c w.heap.size g3 L s.size m acc l' wr) ∧ l'.length < f ∧ Hid (fwG s.size f m acc l' = .ok ((xs, n'), []))) (fun wr => L.length - readAt a wr)
  case atStart => exact ⟨_, 0, [], L, M0, Nat.lt_succ_self _, HR⟩
  case round =>
    obtain ⟨f, m, acc, l', M, hf, HR'⟩ := hrel
    have hra := M.out.1.readAt
    have hll := M.out.1.len
    obtain ⟨c1, _, c4, hq9⟩ := M.out.1.at1
    obtain ⟨f, rfl⟩ : ∃ q, f = q + 1 := ⟨f - 1, by omega⟩
    have hlt := M.out.lt
    by_cases hl : l' = []
    · subst hl
      obtain ⟨rfl, rfl⟩ : acc = xs ∧ m = n' := by have := HR'.out; rw [fw_stop] at this; cases this; exact ⟨rfl, rfl⟩
      have hq1 : ¬ ((L.length - ([] : List Tok).length : Nat) : Int) < (L.length : Int) := by simp
      have hq2 : decide (((L.length - ([] : List Tok).length : Nat) : Int) < (L.length : Int)) = false := by simp
      generalize L.length - ([] : List Tok).length = q at *
      obtain ⟨_, ⟨v, hc, cs, o1, o2⟩, s2, s3, bb, _⟩ := M.out
      obtain ⟨aoV, cpV, rfl⟩ := own_len o1
      have y0 : wr.cell? ⟨c, 0, none⟩ = some (.slice aoV acc.length cpV) := by simp [World.cell?, hc]
      have u0 : wr.cell? ⟨w.heap.size, 0, none⟩ = some (.slice none 0 0) := by simp [World.cell?, s2]
      have u1 : wr.cell? ⟨g3, 0, none⟩ = some (.int .i64 0) := by simp [World.cell?, s3]
      have u2 : wr.cell? ⟨g3, 1, none⟩ = some (.int .i64 0) := by simp [World.cell?, s3]
      have v0 : wr.frozen? ⟨w.heap.size, 0, none⟩ = false := by simp [World.frozen?, s2]
      have v1 : wr.frozen? ⟨g3, 0, none⟩ = false := by simp [World.frozen?, s3]
      have v2 : wr.frozen? ⟨g3, 1, none⟩ = false := by simp [World.frozen?, s3]
      have hg23 : g3 ≠ w.heap.size := by omega
      have F1 := (Far.refl w.heap.size wr).set 0 (.slice aoV acc.length cpV)
      have hs3 := (F1.2.2.2.2 g3 hg23).trans s3
      have F2 := (((Far.refl g3 (wr.setCell ⟨w.heap.size, 0, none⟩ (.slice aoV acc.length cpV))).set 0 (.int .i64 0)).set 1 (.int .i64 0))
      have PV := hide (show ProgVal w.heap.size acc (.slice aoV acc.length cpV) (((wr.setCell ⟨w.heap.size, 0, none⟩ (.slice aoV acc.length cpV)).setCell ⟨g3, 0, none⟩ (.int .i64 0)).setCell ⟨g3, 1, none⟩ (.int .i64 0)) from
        ⟨cs, own_base (F2.own (F1.own o1 (own_ne o1 s2 (by decide))) (own_ne (F1.own o1 (own_ne o1 s2 (by decide))) hs3 (by decide))) (by omega), FRow.stay (((far_kind F1 s2 (by decide)).trans (far_kind F2 hs3 (by decide))).trans (stay_base (by omega))) _ _ o2⟩)
      have BBf := hide ((((bb.setCell (p := ⟨w.heap.size, 0, none⟩) (Nat.le_refl _) (.slice aoV acc.length cpV)).setCell (p := ⟨g3, 0, none⟩) (by show _ ≤ g3; omega) (.int .i64 0)).setCell (p := ⟨g3, 1, none⟩) (by show _ ≤ g3; omega) (.int .i64 0)))
      clear hc o1 o2 s2 s3 bb F1 F2 hs3 M
      go_wp2_with fail
      exact bodyPost_ret (v := .tuple #[.agg #[.slice aoV acc.length cpV], .agg #[.int .i64 0, .int .i64 0]]) (by simp [results, Try.results36, go_sem, u0, u1, u2]) rfl ⟨_, rfl, PV.out, BBf.out⟩
    · have h32 : acc.length < 32 := by
        refine Classical.byContradiction fun q => ?_
        have := HR'.out
        rw [fw_many hl (by omega)] at this
        cases this
      obtain ⟨x, m2, l3, hx⟩ : ∃ x m2 l3, funG s.size m l' = .ok ((x, m2), l3) := by
        cases hq : funG s.size m l' with
        | error er => have := HR'.out; rw [fw_bad hl h32 hq] at this; cases this
        | ok p => exact ⟨p.1.1, p.1.2, p.2, rfl⟩
      have HE : Hid (fwG s.size f m2 (acc ++ [x]) l3 = .ok ((xs, n'), [])) := hide (by have := HR'.out; rwa [fw_go hl h32 hx] at this)
      have hless := fun_less hx
      have HX := hide hx
      have hlp : 0 < l'.length := List.length_pos_iff.2 hl
      have hq1 : ((L.length - l'.length : Nat) : Int) < (L.length : Int) := by omega
      have hq2 : decide (((L.length - l'.length : Nat) : Int) < (L.length : Int)) = true := by simpa using hq1
      have hqr : Hid (readAt a wr = L.length - l'.length) := hide hra
      clear hx HR' hl hra
      have hll' := hide hll
      generalize hqe : L.length - l'.length = q at *
      have hqe := hide hqe
      obtain ⟨v, hc, cs, o1, o2⟩ := M.out.2.1
      obtain ⟨aoV, cpV, rfl⟩ := own_len o1
      have y0 : wr.cell? ⟨c, 0, none⟩ = some (.slice aoV acc.length cpV) := by simp [World.cell?, hc]
      have g4 : ¬ (32 : Int) ≤ (acc.length : Int) := by omega
      have g5' : decide ((32 : Int) ≤ (acc.length : Int)) = false := by simpa using g4
      clear hc o1 o2
      go_wp2_with fail
      refine (rfunction _ M.out.1 HX.out).mono ?_; rintro e w9 ⟨v9, rfl, ⟨vp, vb, rfl, V9a, V9⟩, r9, k9⟩
      obtain ⟨aoA, mA, cA, rfl⟩ := own_slice V9a
      obtain ⟨aoT, mT, cT, rfl⟩ := own_slice V9.choose_spec.1
      have b9 := below_box w9 (.cells (funCells x (.slice aoA mA cA) (.slice aoT mT cT)).toArray 25)
      have M9 := hide ((M.out.kr r9 k9).below b9)
      have SB : Stay wr.heap.size (a + 1) w9 (w9.alloc (.cells (funCells x (.slice aoA mA cA) (.slice aoT mT cT)).toArray 25)) := (stay_base (show a + 1 ≤ wr.heap.size by omega)).trans (stay_below b9)
      have V9a := hide (SB _ _ _ _ _ (by simp) V9a)
      have V9 := hide (V9.stay SB)
      have yy : ∀ i u, (funCells x (.slice aoA mA cA) (.slice aoT mT cT))[i]? = some u → (w9.alloc (.cells (funCells x (.slice aoA mA cA) (.slice aoT mT cT)).toArray 25)).cell? ⟨w9.heap.size, i, none⟩ = some u := fun i u hu => by
        have := five_cell (w := w9) (x := x) (vp := .slice aoA mA cA) (vb := .slice aoT mT cT) i u hu
        rw [Addr.add_lit, Nat.zero_add] at this
        exact this
      have p0 := yy 0 _ rfl
      have p1 := yy 1 _ rfl
      have p2 := yy 2 _ rfl
      have p3 := yy 3 _ rfl
      have p4 := yy 4 _ rfl
      clear yy SB r9 k9 b9 M y0 c1 c4 g4 g5' hq1 hq2
      unfold funCells
      go_upto_region 10 with fail
      show Code.wp _ _ _ _ (w9.alloc (.cells (funCells x (.slice aoA mA cA) (.slice aoT mT cT)).toArray 25))
      generalize w9.alloc (.cells (funCells x (.slice aoA mA cA) (.slice aoT mT cT)).toArray 25) = W9 at *
      have hlt9 := M9.out.lt
      obtain ⟨v, hc, cs, o1, o2⟩ := M9.out.2.1
      obtain ⟨aoV, cpV, rfl⟩ := own_len o1
      have y0 : W9.cell? ⟨c, 0, none⟩ = some (.slice aoV acc.length cpV) := by simp [World.cell?, hc]
      have z0 : W9.frozen? ⟨c, 0, none⟩ = false := by simp [World.frozen?, hc]
      have hne : (Value.slice aoV acc.length cpV).ownBlock ≠ some c := own_ne o1 hc (by decide)
      obtain ⟨y0a, z0a⟩ := Cel.below (below_box W9 (.cells (funCells x (.slice aoA mA cA) (.slice aoT mT cT)).toArray 25)) hlt9.2.2.2.2 y0 z0
      have O1 := hide (o1.alloc (.cells (funCells x (.slice aoA mA cA) (.slice aoT mT cT)).toArray 25))
      have hc := hide hc
      have o2 := hide o2
      clear o1
      have t2 : acc.length + 1 ≤ maxLen := by unfold maxLen; omega
      have t3 : (acc.length + 1) * 80 ≤ 140737488355328 := by omega
      have t4 : a + 1 ≤ (W9.alloc (.cells (funCells x (.slice aoA mA cA) (.slice aoT mT cT)).toArray 25)).heap.size := by simp; omega
      have t5 : c < (W9.alloc (.cells (funCells x (.slice aoA mA cA) (.slice aoT mT cT)).toArray 25)).heap.size := by simp; omega
      go_wp2_with (at_builtin; refine wpList_append_lies _ rfl (.tmp 49) (.tmp 51) 66 rfl (a + 1) 25 i0 _ 5 80 Try.underlying66 hi0 hz0 hz1 hz2 rfl (by decide) _ _ _ rfl O1.out ⟨W9.heap.size, 0, none⟩ 1 1 (funCells x (.slice aoA mA cA) (.slice aoT mT cT)) rfl rfl five_cell five_one (by decide) t2 t3 t4 (W9.heap.size + 1) (by simp) ?_; intro gg cap w10 hown hgrow hat hlt10; obtain ⟨y0b, z0b⟩ := Cel.grown hgrow t5 hne y0a z0a)
      have M10 : Hid (MidT w a c w.heap.size g3 L s.size m2 (acc ++ [x]) l3 (w10.setCell ⟨c, 0, none⟩ (.slice (some ⟨gg, 0, none⟩) (acc.length + 1) cap))) := hide (by
        obtain ⟨h1, _, h3, h4, h5, h6, h7, h8, h9⟩ := M9.out
        have bx := below_box W9 (.cells (funCells x (.slice aoA mA cA) (.slice aoT mT cT)).toArray 25)
        have hrow : ∀ q, (Value.slice aoV acc.length cpV).ownBlock = some q → a + 1 ≤ q := fun q hq => (O1.out.lt q hq).1
        have hc9 := (bx.block c (by omega)).trans hc.out
        have hc10 := (hgrow.block c t5 (fun e => hne e.symm)).trans hc9
        have F10 := (Far.refl c w10).set 0 (.slice (some ⟨gg, 0, none⟩) (acc.length + 1) cap)
        have Sg := stay_grown (B := a + 1) hgrow O1.out (by decide)
        have Sf := far_kind (B := a + 1) F10 hc10 (by decide)
        have Sa := (stay_below (B := a + 1) bx).trans (Sg.trans Sf)
        have blk : ∀ k, k < a → (w10.setCell ⟨c, 0, none⟩ (.slice (some ⟨gg, 0, none⟩) (acc.length + 1) cap)).heap[k]? = W9.heap[k]? := fun k hk => (F10.2.2.2.2 k (by omega)).trans ((hgrow.block k (show k < (W9.alloc (.cells (funCells x (.slice aoA mA cA) (.slice aoT mT cT)).toArray 25)).heap.size by have := bx.size; omega) (fun e => by have := hrow k e.symm; omega)).trans (bx.block k (by omega)))
        have hsz : W9.heap.size ≤ (w10.setCell ⟨c, 0, none⟩ (.slice (some ⟨gg, 0, none⟩) (acc.length + 1) cap)).heap.size := by rw [F10.2.2.2.1]; exact Nat.le_trans bx.size hgrow.size
        refine ⟨?_, ⟨_, (heap_setCell_same w10 c 0 _ 68 _ hc10).trans rfl, cs ++ funCells x (.slice aoA mA cA) (.slice aoT mT cT), by rw [List.length_append]; exact F10.own hown (own_ne hown hc10 (by decide)), FRow.snoc (Sa _ _ _ _ _ (by simp) V9a.out) (V9.out.stay Sa) _ _ (FRow.stay Sa _ _ o2.out)⟩, (blk _ (by omega)).trans h3, (blk _ (by omega)).trans h4, ?_, h6, h7, h8, h9⟩
        · exact ((h1.below bx).grown hgrow O1.out (by decide) (Nat.lt_succ_self a)).set hc10 (by decide) (by omega) 0 _
        · exact ⟨F10.1.trans (hgrow.os.trans (bx.os.trans h5.os)), F10.2.1.trans (hgrow.tape.trans (bx.tape.trans h5.tape)), F10.2.2.1.trans (hgrow.output.trans (bx.output.trans h5.output)), Nat.le_trans h5.size hsz, fun k hk => (blk k (by omega)).trans (h5.block k hk)⟩)
      have hra3 := M10.out.1.readAt
      have hll3 := M10.out.1.len
      go_roundw
      case rel => exact ⟨f, m2, acc ++ [x], l3, M10, by omega, HE⟩
      case measure => rw [hqr.out, hra3]; have := hqe.out; have := hll'.out; omega
end Go.Proofs.Ytnlcpfijfjbgjaa
namespace Go.Proofs.Ytnlcpfijfjbgjaa
open Go Go.RowKit
open G (Tok Er Ins Fun peek0 peek1 atOf)
/-- A byte is one of these. -/
def inB : List UInt8 → UInt8 → Bool
  | [], _ => false
  | d :: r, c => if d = c then true else inB r c
theorem inB_drop {t : List UInt8} {k : Nat} {c d : UInt8} (h : t[k]? = some d) : inB (t.drop k) c = if d = c then true else inB (t.drop (k + 1)) c := by
  obtain ⟨h1, h2⟩ := List.getElem?_eq_some_iff.1 h
  rw [List.drop_eq_getElem_cons h1, h2]; rfl
set_option maxHeartbeats 1000000 in
theorem rin (c : UInt8) (t : List UInt8) (w : World) (ht : t.length ≤ 100) : Calls Try.prog 55 #[.int .u8 (c.toNat : Int), .string (bs t)] w fun e w' => e = .returned (.bool (inB t c)) ∧ w' = w := by
  have hz : (bs t).size ≤ 100 := by rw [bs_size]; exact ht
  have HZ := hide (bs_size t)
  go_enter Try.func55, Try.ntmps55
  go_wp2_with fail
  go_loopw [5] (fun i wr => ∃ k : Nat, k ≤ t.length ∧ i = .int .i64 k ∧ Hid (wr = w) ∧ Hid (inB t c = inB (t.drop k) c)) (fun i _ => t.length - (intOf i).toNat)
  case atStart => exact ⟨0, Nat.zero_le _, rfl, hide rfl, rfl⟩
  case round =>
    obtain ⟨k, hk, rfl, hw, HC⟩ := hrel
    obtain rfl := hw.out
    by_cases hlt : k < t.length
    · obtain ⟨d, hd, _⟩ := drop_at hlt
      obtain ⟨hkz, hb⟩ := bs_at hd
      have hkz' : (k : Int) < ((bs t).size : Int) := by omega
      have HD := hide (inB_drop (c := c) hd)
      by_cases hdc : d = c
      · have hb1 : ((bs t)[k].toNat : Int) = (c.toNat : Int) := by rw [hb, hdc]
        have HE : Hid (inB t c = true) := hide (by rw [HC.out, HD.out, if_pos hdc])
        clear hb hd hdc HD HC
        go_wp2_with fail
        go_ret
        exact ⟨ret_bool HE.out.symm, rfl⟩
      · have hb1 : (((bs t)[k].toNat : Int) == (c.toNat : Int)) = false := by
          rw [hb]
          have h2 : d.toNat ≠ c.toNat := fun e => hdc (UInt8.toNat_inj.1 e)
          simpa using fun e : (d.toNat : Int) = c.toNat => h2 (by omega)
        have HE : Hid (inB t c = inB (t.drop (k + 1)) c) := hide (by rw [HC.out, HD.out, if_neg hdc])
        clear hb hd hdc HD HC
        go_wp2_with fail
        go_roundw
        case rel => exact ⟨k + 1, by omega, by go_num, hide trivial, HE⟩
        case measure => simp [intOf]; omega
    · have HE : Hid (inB t c = false) := hide (by rw [HC.out, List.drop_eq_nil_of_le (by omega)]; rfl)
      have hkz' : ¬ (k : Int) < ((bs t).size : Int) := by have := HZ.out; omega
      have hkz2 : decide ((k : Int) < ((bs t).size : Int)) = false := by simpa using hkz'
      go_wp2_with fail
      go_ret
      exact ⟨ret_bool HE.out.symm, rfl⟩
/-- A byte that words are made of. -/
def letB (c : UInt8) : Bool := (decide (97 ≤ c.toNat) && decide (c.toNat ≤ 122)) || (decide (65 ≤ c.toNat) && decide (c.toNat ≤ 90)) || (decide (48 ≤ c.toNat) && decide (c.toNat ≤ 57)) || inB [46, 37, 64, 45, 95] c
theorem letB_tog (c : UInt8) : letB c = L2.togB c.toNat := by
  have key : ∀ n : Fin 256, letB (UInt8.ofNat n.val) = L2.togB (UInt8.ofNat n.val).toNat := by decide +kernel
  have := key ⟨c.toNat, c.toNat_lt⟩
  rwa [show UInt8.ofNat c.toNat = c from UInt8.ofNat_toNat] at this
theorem inB_alo (c : UInt8) : inB [40, 41, 123, 125, 61, 58] c = L2.aloB c.toNat := by
  have key : ∀ n : Fin 256, inB [40, 41, 123, 125, 61, 58] (UInt8.ofNat n.val) = L2.aloB (UInt8.ofNat n.val).toNat := by decide +kernel
  have := key ⟨c.toNat, c.toNat_lt⟩
  rwa [show UInt8.ofNat c.toNat = c from UInt8.ofNat_toNat] at this
theorem inB_bla (c : UInt8) : inB [32, 9, 10, 13] c = L2.blaB c.toNat := by
  have key : ∀ n : Fin 256, inB [32, 9, 10, 13] (UInt8.ofNat n.val) = L2.blaB (UInt8.ofNat n.val).toNat := by decide +kernel
  have := key ⟨c.toNat, c.toNat_lt⟩
  rwa [show UInt8.ofNat c.toNat = c from UInt8.ofNat_toNat] at this
set_option maxHeartbeats 1000000 in
theorem rletter (c : UInt8) (w : World) : Calls Try.prog 56 #[.int .u8 (c.toNat : Int)] w fun e w' => e = .returned (.bool (letB c)) ∧ w' = w := by
  have HB : Hid (letB c = ((decide (97 ≤ c.toNat) && decide (c.toNat ≤ 122)) || (decide (65 ≤ c.toNat) && decide (c.toNat ≤ 90)) || (decide (48 ≤ c.toNat) && decide (c.toNat ≤ 57)) || inB [46, 37, 64, 45, 95] c)) := hide rfl
  have key : ∀ n : Nat, (c.toNat : Int) = n → Calls Try.prog 56 #[.int .u8 (n : Int)] w fun e w' => e = .returned (.bool ((decide (97 ≤ n) && decide (n ≤ 122)) || (decide (65 ≤ n) && decide (n ≤ 90)) || (decide (48 ≤ n) && decide (n ≤ 57)) || inB [46, 37, 64, 45, 95] c)) ∧ w' = w := by
    intro n hn
    have HI := hide (rin c [46, 37, 64, 45, 95] w (by simp))
    rw [hn] at HI
    clear hn HB
    have hyes : (97 ≤ n ∧ n ≤ 122) ∨ (65 ≤ n ∧ n ≤ 90) ∨ (48 ≤ n ∧ n ≤ 57) → true = ((decide (97 ≤ n) && decide (n ≤ 122)) || (decide (65 ≤ n) && decide (n ≤ 90)) || (decide (48 ≤ n) && decide (n ≤ 57)) || inB [46, 37, 64, 45, 95] c) := by
      rintro (h | h | h) <;> simp [h]
    have hno : ¬ ((97 ≤ n ∧ n ≤ 122) ∨ (65 ≤ n ∧ n ≤ 90) ∨ (48 ≤ n ∧ n ≤ 57)) → inB [46, 37, 64, 45, 95] c = ((decide (97 ≤ n) && decide (n ≤ 122)) || (decide (65 ≤ n) && decide (n ≤ 90)) || (decide (48 ≤ n) && decide (n ≤ 57)) || inB [46, 37, 64, 45, 95] c) := by
      intro h
      have e1 : (decide (97 ≤ n) && decide (n ≤ 122)) = false := by simp; omega
      have e2 : (decide (65 ≤ n) && decide (n ≤ 90)) = false := by simp; omega
      have e3 : (decide (48 ≤ n) && decide (n ≤ 57)) = false := by simp; omega
      rw [e1, e2, e3]; rfl
    have hyes := hide hyes
    have hno := hide hno
    by_cases h1 : (97 : Int) ≤ n <;> by_cases h2 : (n : Int) ≤ 122 <;> by_cases h3 : (65 : Int) ≤ n <;> by_cases h4 : (n : Int) ≤ 90 <;> by_cases h5 : (48 : Int) ≤ n <;> by_cases h6 : (n : Int) ≤ 57
    all_goals first
      | (exfalso; omega)
      | (go_enter Try.func56, Try.ntmps56
         go_wp2_with fail
         go_ret
         exact ⟨ret_bool (hyes.out (by omega)), rfl⟩)
      | (go_enter Try.func56, Try.ntmps56
         go_wp2_with fail
         refine HI.out.mono ?_; rintro e w1 ⟨rfl, hw1⟩
         rw [hw1]
         go_wp2_with fail
         go_ret
         exact ⟨ret_bool (hno.out (by omega)), rfl⟩)
  rw [HB.out]
  exact key c.toNat rfl
end Go.Proofs.Ytnlcpfijfjbgjaa
namespace Go.Proofs.Ytnlcpfijfjbgjaa
open Go Go.RowKit
open G (Tok Er Ins Fun peek0 peek1 atOf)
theorem kind_bla (c : UInt8) (h : inB [32, 9, 10, 13] c = true) : L2.togB c.toNat = false ∧ L2.aloB c.toNat = false ∧ ¬ (c.toNat : Int) = 35 ∧ L2.blaB c.toNat = true := by
  have key : ∀ n : Fin 256, inB [32, 9, 10, 13] (UInt8.ofNat n.val) = true → L2.togB (UInt8.ofNat n.val).toNat = false ∧ L2.aloB (UInt8.ofNat n.val).toNat = false ∧ ¬ ((UInt8.ofNat n.val).toNat : Int) = 35 ∧ L2.blaB (UInt8.ofNat n.val).toNat = true := by decide +kernel
  have := key ⟨c.toNat, c.toNat_lt⟩
  rw [show UInt8.ofNat c.toNat = c from UInt8.ofNat_toNat] at this
  exact this h
theorem kind_alo (c : UInt8) (h : inB [40, 41, 123, 125, 61, 58] c = true) : L2.togB c.toNat = false ∧ L2.aloB c.toNat = true := by
  have key : ∀ n : Fin 256, inB [40, 41, 123, 125, 61, 58] (UInt8.ofNat n.val) = true → L2.togB (UInt8.ofNat n.val).toNat = false ∧ L2.aloB (UInt8.ofNat n.val).toNat = true := by decide +kernel
  have := key ⟨c.toNat, c.toNat_lt⟩
  rw [show UInt8.ofNat c.toNat = c from UInt8.ofNat_toNat] at this
  exact this h
/-- A word that is shut. -/
theorem scan_shut (l : List UInt8) (p q : Nat) (ws : List (Nat × Nat)) (h : ∀ c r, l = c :: r → L2.togB c.toNat = false) : L2.scan l q ws (some p) false = L2.scan l q (ws ++ [(p, q)]) none false := by
  cases l with
  | nil => rfl
  | cons c r =>
    have hc := h c r rfl
    by_cases h2 : L2.aloB c.toNat = true
    · rw [L2.scan_alo r q ws (some p) hc h2, L2.scan_alo r q (ws ++ [(p, q)]) none hc h2]; rfl
    · have h2 : L2.aloB c.toNat = false := by simpa using h2
      by_cases h3 : (c.toNat : Int) = 35
      · rw [L2.scan_hash r q ws (some p) hc h2 h3, L2.scan_hash r q (ws ++ [(p, q)]) none hc h2 h3]; rfl
      · by_cases h4 : L2.blaB c.toNat = true
        · rw [L2.scan_bla r q ws (some p) hc h2 h3 h4, L2.scan_bla r q (ws ++ [(p, q)]) none hc h2 h3 h4]; rfl
        · have h4 : L2.blaB c.toNat = false := by simpa using h4
          rw [L2.scan_err r q ws (some p) hc h2 h3 h4, L2.scan_err r q (ws ++ [(p, q)]) none hc h2 h3 h4]
/-- The words so far stand in memory, and the place of what is wrong. -/
def SpR (w : World) (s : ByteArray) (v : Value) (ws : List (Nat × Nat)) (wr : World) : Prop :=
  wr.ownsRow (w.heap.size + 1) 92 2 v ws.length (L2.cellsT (ws.map (L2.tok s))) ∧ wr.heap[w.heap.size]? = some (.cells #[.int .i64 0, .int .i64 0] 64 (0, 0)) ∧ Below w.heap.size w wr ∧ w.heap.size < wr.heap.size
theorem SpR.step {w wr w2 : World} {s : ByteArray} {v v' : Value} {ws : List (Nat × Nat)} {a b : Nat} {o : Obj} (h : SpR w s v ws wr)
    (own : w2.ownsRow (w.heap.size + 1) 92 2 v' (ws.length + 1) (L2.cellsT (ws.map (L2.tok s)) ++ [.string (s.extract a b), .int .i64 a])) (hg : (wr.alloc o).grownBy w2 v.ownBlock) : SpR w s v' (ws ++ [(a, b)]) w2 := by
  obtain ⟨h1, h2, h3, h4⟩ := h
  have bx := below_box wr o
  have hz := bx.size
  have hrow : ∀ q, v.ownBlock = some q → w.heap.size + 1 ≤ q := fun q hq => (h1.lt q hq).1
  refine ⟨by rw [L2.cellsT_snoc, List.length_append]; exact own, (hg.block _ (by omega) (fun e => by have := hrow _ e.symm; omega)).trans ((bx.block _ h4).trans h2), ?_, by have := hg.size; omega⟩
  exact ⟨hg.os.trans (bx.os.trans h3.os), hg.tape.trans (bx.tape.trans h3.tape), hg.output.trans (bx.output.trans h3.output), by have := hg.size; have := h3.size; omega, fun k hk => (hg.block k (by omega) (fun e => by have := hrow k e.symm; omega)).trans ((bx.block k (by omega)).trans (h3.block k hk))⟩
set_option maxHeartbeats 8000000 in
set_option maxRecDepth 20000 in
theorem rsplit (s : ByteArray) (hs : s.size ≤ 65536) (hn : ∀ c ∈ s.data.toList, (c.toNat : Int) ≠ 35) {ws : List (Nat × Nat)} (hw : L2.words s = .inr ws) : Splits s (toks s ws) := by
  intro w
  obtain ⟨i0, hi, hz0, hz1, hz2⟩ := info_parts L2.Try.info92
  have hs1 : ¬ (65536 : Int) < (s.size : Int) := by omega
  have hs2 : decide ((65536 : Int) < (s.size : Int)) = false := by simpa using hs1
  have HN := hide hn
  have HW : Hid (L2.scan (s.data.toList.drop 0) 0 [] none false = .inr ws) := hide hw
  have S0 : Hid (SpR w s (.slice none 0 0) [] (w.alloc (.cells #[.int .i64 0, .int .i64 0] 64))) := hide ⟨World.ownsRow_nil _ _ _ _, heap_alloc_new w _, below_box w _, by simp⟩
  clear hn hw
  go_enter Try.func46, Try.ntmps46
  go_upto_region 1 with fail
  show Code.wp _ _ _ _ (w.alloc (.cells #[.int .i64 0, .int .i64 0] 64))
  generalize w.alloc (.cells #[.int .i64 0, .int .i64 0] 64) = W0 at *
  go_wp2_with fail
  go_loopw [4, 5] (fun v i wr => ∃ (p : Nat) (us : List (Nat × Nat)), p ≤ s.size ∧ i = .int .i64 p ∧ us.length ≤ p ∧ Hid (SpR w s v us wr) ∧ Hid (L2.scan (s.data.toList.drop p) p us none false = .inr ws)) (fun _ i _ => s.size - (intOf i).toNat)
  case atStart => exact ⟨0, [], Nat.zero_le _, rfl, by simp, S0, HW⟩
  case round =>
    obtain ⟨p, us, hp, rfl, hus, S, HR⟩ := hrel
    by_cases hlt : p < s.size
    · have hlt' : (p : Int) < (s.size : Int) := by omega
      obtain ⟨d, hd⟩ : ∃ d, d = s[p] := ⟨_, rfl⟩
      have hd1 : (s[p].toNat : Int) = (d.toNat : Int) := by rw [hd]
      have HD : Hid (L2.scan (d :: s.data.toList.drop (p + 1)) p us none false = .inr ws) := hide (by rw [hd, ← L2.drop_cons s p hlt]; exact HR.out)
      have hn35 : ((d.toNat : Int) == 35) = false := by
        have := HN.out d (by rw [hd]; exact List.mem_of_mem_drop (i := p) (by rw [L2.drop_cons s p hlt]; simp))
        simpa using this
      clear hd
      obtain ⟨ao, cp, rfl⟩ := own_len S.out.1
      go_wp2_with fail
      refine (rin d [32, 9, 10, 13] _ (by simp)).mono ?_; rintro e w1 ⟨rfl, hw1⟩
      rw [hw1]
      clear hw1
      cases hb : inB [32, 9, 10, 13] d with
      | true =>
        have HE : Hid (L2.scan (s.data.toList.drop (p + 1)) (p + 1) us none false = .inr ws) := hide (by
          obtain ⟨k1, k2, k3, k4⟩ := kind_bla d hb
          have := HD.out
          rwa [L2.scan_bla _ _ _ _ k1 k2 k3 k4] at this)
        clear HD HR hb
        go_wp2_with fail
        go_roundw
        case rel => exact ⟨p + 1, us, by omega, by go_num, by omega, S, HE⟩
        case measure => simp [intOf]; omega
      | false =>
        go_wp2_with fail
        refine (rin d [40, 41, 123, 125, 61, 58] _ (by simp)).mono ?_; rintro e w1 ⟨rfl, hw1⟩
        rw [hw1]
        clear hw1
        cases ha : inB [40, 41, 123, 125, 61, 58] d with
        | true =>
          have HE : Hid (L2.scan (s.data.toList.drop (p + 1)) (p + 1) (us ++ [(p, p + 1)]) none false = .inr ws) := hide (by
            obtain ⟨k1, k2⟩ := kind_alo d ha
            have := HD.out
            rwa [L2.scan_alo _ _ _ _ k1 k2] at this)
          have OS := hide S.out.1
          have hsw := S.out.2.2.2
          have t2 : us.length + 1 ≤ maxLen := by unfold maxLen; omega
          have t3 : (us.length + 1) * 24 ≤ 140737488355328 := by omega
          clear HD HR hb ha
          go_wp2_with (at_builtin; refine wpList_append_own _ rfl (.tmp 39) (.tmp 47) 77 rfl (w.heap.size + 1) 92 i0 _ 2 24 Try.underlying77 hi hz0 hz1 hz2 rfl (by decide) _ _ _ rfl (OS.out.alloc _) ⟨wr.heap.size, 0, none⟩ 1 1 [.string (s.extract p (p + 1)), .int .i64 p] rfl rfl L2.cells_two L2.one_two t2 t3 (by simp; omega) ?_; intro v2 w2 own2 grow2 _)
          have S2 := hide (S.out.step own2 grow2)
          clear own2 grow2
          go_wp2_with fail
          go_roundw
          case rel => exact ⟨p + 1, us ++ [(p, p + 1)], by omega, by go_num, by simp; omega, S2, HE⟩
          case measure => simp [intOf]; omega
        | false =>
          have hlet : letB d = true := by
            cases hl : letB d with
            | true => rfl
            | false =>
              have := HD.out
              rw [L2.scan_err _ _ _ _ (by rw [← letB_tog]; exact hl) (by rw [← inB_alo]; exact ha) (by simpa using hn35) (by rw [← inB_bla]; exact hb)] at this
              cases this
          have HLET := hide hlet
          go_wp2_with fail
          refine (rletter d _).mono ?_; rintro e w1 ⟨rfl, hw1⟩
          rw [hw1, HLET.out]
          clear hw1 hlet
          have HR0 : Hid (L2.scan (s.data.toList.drop p) p us none false = .inr ws) := HR
          clear HD HR hb ha
          go_wp2_with fail
          go_loopw [7] (fun j wr2 => ∃ (q : Nat) (bq : Option Nat), p ≤ q ∧ q ≤ s.size ∧ j = .int .i64 q ∧ Hid (SpR w s (.slice ao us.length cp) us wr2) ∧ Hid (bq.getD q = p ∧ (p < q → bq = some p) ∧ L2.scan (s.data.toList.drop q) q us bq false = .inr ws)) (fun j _ => s.size - (intOf j).toNat)
          case atStart => exact ⟨p, none, Nat.le_refl _, by omega, rfl, S, hide ⟨rfl, fun h => absurd h (Nat.lt_irrefl _), HR0.out⟩⟩
          case round =>
            obtain ⟨q, bq, hpq, hqs, rfl, SQ, HQ⟩ := hrel
            have fin : Hid ((∀ c r, s.data.toList.drop q = c :: r → L2.togB c.toNat = false) → p < q ∧ L2.scan (s.data.toList.drop q) q (us ++ [(p, q)]) none false = .inr ws) := hide (by
              intro hx
              have hpq2 : p < q := by
                refine Classical.byContradiction fun hc => ?_
                have e : q = p := by omega
                have := hx _ _ (by rw [e]; exact L2.drop_cons s p hlt)
                have h2 := HLET.out
                rw [letB_tog] at h2
                have h3 : (s[p].toNat : Int) = (d.toNat : Int) := hd1
                rw [h3] at this
                rw [this] at h2
                cases h2
              obtain ⟨_, k2, k3⟩ := HQ.out
              rw [k2 hpq2, scan_shut _ _ _ _ hx] at k3
              exact ⟨hpq2, k3⟩)
            by_cases hq : q < s.size
            · have hq' : (q : Int) < (s.size : Int) := by omega
              obtain ⟨d2, hd2⟩ : ∃ d2, d2 = s[q] := ⟨_, rfl⟩
              have hd3 : (s[q].toNat : Int) = (d2.toNat : Int) := by rw [hd2]
              have HDQ := hide (show s.data.toList.drop q = d2 :: s.data.toList.drop (q + 1) by rw [hd2]; exact L2.drop_cons s q hq)
              clear hd2
              go_wp2_with fail
              refine (rletter d2 _).mono ?_; rintro e w1 ⟨rfl, hw1⟩
              rw [hw1]
              clear hw1
              cases hl2 : letB d2 with
              | true =>
                have HQ2 : Hid ((some p).getD (q + 1) = p ∧ (p < q + 1 → some p = some p) ∧ L2.scan (s.data.toList.drop (q + 1)) (q + 1) us (some p) false = .inr ws) := hide ⟨rfl, fun _ => rfl, by
                  obtain ⟨k1, _, k3⟩ := HQ.out
                  rw [HDQ.out, L2.scan_tog _ _ _ _ (by rw [← letB_tog]; exact hl2), k1] at k3
                  exact k3⟩
                clear HQ fin HDQ hl2
                go_wp2_with fail
                go_roundw
                case rel => exact ⟨q + 1, some p, by omega, by omega, by go_num, SQ, hide ⟨rfl, fun _ => rfl, HQ2.out.2.2⟩⟩
                case measure => simp [intOf]; omega
              | false =>
                have HF := hide (fin.out fun c r hcr => by
                  rw [HDQ.out] at hcr
                  cases hcr
                  rw [← letB_tog]; exact hl2)
                clear HQ fin HDQ hl2
                have OS := hide SQ.out.1
                have hsw := SQ.out.2.2.2
                have t2 : us.length + 1 ≤ maxLen := by unfold maxLen; omega
                have t3 : (us.length + 1) * 24 ≤ 140737488355328 := by omega
                go_wp2_with (at_builtin; refine wpList_append_own _ rfl (.tmp 66) (.tmp 73) 77 rfl (w.heap.size + 1) 92 i0 _ 2 24 Try.underlying77 hi hz0 hz1 hz2 rfl (by decide) _ _ _ rfl (OS.out.alloc _) ⟨wr.heap.size, 0, none⟩ 1 1 [.string (s.extract p q), .int .i64 p] rfl rfl L2.cells_two L2.one_two t2 t3 (by simp; omega) ?_; intro v2 w2 own2 grow2 _)
                have S2 := hide (SQ.out.step own2 grow2)
                have hpq2 := HF.out.1
                clear own2 grow2
                go_wp2_with fail
                go_roundw
                case rel => exact ⟨q, us ++ [(p, q)], hqs, rfl, by simp; omega, S2, hide HF.out.2⟩
                case measure => simp [intOf]; omega
            · have hq' : ¬ (q : Int) < (s.size : Int) := by omega
              have hq2 : decide ((q : Int) < (s.size : Int)) = false := by simpa using hq'
              have HF := hide (fin.out fun c r hcr => by
                rw [List.drop_eq_nil_of_le (by have e9 : s.data.toList.length = s.size := (by simp); omega)] at hcr
                cases hcr)
              clear HQ fin
              have OS := hide SQ.out.1
              have hsw := SQ.out.2.2.2
              have t2 : us.length + 1 ≤ maxLen := by unfold maxLen; omega
              have t3 : (us.length + 1) * 24 ≤ 140737488355328 := by omega
              go_wp2_with (at_builtin; refine wpList_append_own _ rfl (.tmp 66) (.tmp 73) 77 rfl (w.heap.size + 1) 92 i0 _ 2 24 Try.underlying77 hi hz0 hz1 hz2 rfl (by decide) _ _ _ rfl (OS.out.alloc _) ⟨wr.heap.size, 0, none⟩ 1 1 [.string (s.extract p q), .int .i64 p] rfl rfl L2.cells_two L2.one_two t2 t3 (by simp; omega) ?_; intro v2 w2 own2 grow2 _)
              have S2 := hide (SQ.out.step own2 grow2)
              have hpq2 := HF.out.1
              clear own2 grow2
              go_wp2_with fail
              go_roundw
              case rel => exact ⟨q, us ++ [(p, q)], hqs, rfl, by simp; omega, S2, hide HF.out.2⟩
              case measure => simp [intOf]; omega
    · have hlt' : ¬ (p : Int) < (s.size : Int) := by omega
      have hlt2 : decide ((p : Int) < (s.size : Int)) = false := by simpa using hlt'
      obtain rfl : us = ws := by
        have := HR.out
        rw [List.drop_eq_nil_of_le (by have e9 : s.data.toList.length = s.size := (by simp); omega)] at this
        injection this
      obtain ⟨ao, cp, rfl⟩ := own_len S.out.1
      obtain ⟨o1, s3, bb, hwz⟩ := S.out
      have u1 : wr.cell? ⟨w.heap.size, 0, none⟩ = some (.int .i64 0) := by simp [World.cell?, s3]
      have u2 : wr.cell? ⟨w.heap.size, 1, none⟩ = some (.int .i64 0) := by simp [World.cell?, s3]
      have v1 : wr.frozen? ⟨w.heap.size, 0, none⟩ = false := by simp [World.frozen?, s3]
      have v2 : wr.frozen? ⟨w.heap.size, 1, none⟩ = false := by simp [World.frozen?, s3]
      have FF := ((Far.refl w.heap.size wr).set 0 (.int .i64 0)).set 1 (.int .i64 0)
      have OO := hide (own_base (FF.own o1 (own_ne o1 s3 (by decide))) (Nat.le_succ w.heap.size))
      have BB := hide ((bb.setCell (p := ⟨w.heap.size, 0, none⟩) (Nat.le_refl _) (.int .i64 0)).setCell (p := ⟨w.heap.size, 1, none⟩) (Nat.le_refl _) (.int .i64 0))
      have HL := hide (show us.length = (toks s us).length by simp [toks])
      have HC := hide (toks_cells s us)
      clear o1 s3 bb FF S HR
      go_wp2_with fail
      exact bodyPost_ret (v := .tuple #[.slice ao us.length cp, .agg #[.int .i64 0, .int .i64 0]]) (by simp [results, Try.results46, go_sem, u1, u2]) rfl ⟨_, rfl, by rw [← HC.out, ← HL.out]; exact OO.out, BB.out⟩
end Go.Proofs.Ytnlcpfijfjbgjaa
