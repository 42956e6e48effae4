/- Layer 6, the reference's reader, where nothing is wrong: a program is read, if its words are split. -/
import Derived.Test.YtahhbckccdigoaaGreatDoorMbAN
import Derived.Test.YtahhbckccdigoaaGreatDoorMbAS
set_option maxHeartbeats 8000000
set_option maxRecDepth 20000
namespace Go.Proofs.YtahhbckccdigoaaGreatDoor
open Go Go.RowKit
open G (Tok Er Ins Fun peek0 peek1 atOf)
def MidT (w : World) (a c g2 g3 : Nat) (L : List Tok) (E : Int) (n : Nat) (xs : List Fun) (l : List Tok) (wk : World) : Prop :=
  RR a L E n l wk /\ (∃ v, wk.heap[c]? = some (.cells #[v] 24 (0, 0)) /\ ProgVal (a + 1) xs v wk) /\ wk.heap[g2]? = some (.cells #[.slice none 0 0] 24 (0, 0)) /\ wk.heap[g3]? = some (.cells #[.int .i64 0, .int .i64 0] 28 (0, 0)) /\ Below w.heap.size w wk /\ w.heap.size <= g2 /\ g2 < g3 /\ g3 < a /\ a < c
section
variable {w : World} {a c g2 g3 : Nat} {L : List Tok} {E : Int} {n n' : Nat} {xs : List Fun} {l l' : List Tok} {wk wk' : World}
theorem MidT.lt (h : MidT w a c g2 g3 L E n xs l wk) : w.heap.size <= g2 /\ g2 < g3 /\ g3 < a /\ a < c /\ c < wk.heap.size := by
  obtain ⟨h1, ⟨v, h2, _⟩, h3, h4, h5, h6, h7, h8, h9⟩ := h
  exact ⟨h6, h7, h8, h9, (Array.getElem?_eq_some_iff.1 h2).1⟩
theorem below_step' {B a : Nat} {u v w : World} (h : Below B u v) (k : Kr a v w) (ha : B <= a) (hB : B <= v.heap.size) : Below B u w := h.trans (k.below ha hB)
theorem MidT.kr (h : MidT w a c g2 g3 L E n xs l wk) (r : RR a L E n' l' wk') (k : Kr a wk wk') : MidT w a c g2 g3 L E n' xs l' wk' := by
  have hl := h.lt
  obtain ⟨h1, ⟨v, h2, cs, o1, o2⟩, h3, h4, h5, h6, h7, h8, h9⟩ := h
  exact ⟨r, ⟨v, (k.2.2.2.2 c (by omega) (by omega)).trans h2, cs, own_kr o1 k (by omega), FRow.stay (stay_kr k (by omega)) _ _ o2⟩, (k.2.2.2.2 g2 (by omega) (by omega)).trans h3, (k.2.2.2.2 g3 (by omega) (by omega)).trans h4, below_step' h5 k (by omega) (by omega), h6, h7, h8, h9⟩
theorem MidT.below (h : MidT w a c g2 g3 L E n xs l wk) (b : Below wk.heap.size wk wk') : MidT w a c g2 g3 L E n xs l wk' := h.kr (h.1.below b) (Kr.of_below b)
end
def Splits (s : ByteArray) (L : List Tok) : Prop := ∀ w0 : World, Calls Tryz.prog 57 #[.string s] w0 fun e w' => ∃ v, e = .returned (.tuple #[v, .agg #[.int .i64 0, .int .i64 0]]) /\ w'.ownsRow w0.heap.size 96 2 v L.length (cellsK L) /\ Below w0.heap.size w0 w'
theorem rtext (s : ByteArray) {L : List Tok} (hL : L.length <= 131072 /\ ∀ t ∈ L, t.1.length <= 65536) {xs : List Fun} {n' : Nat} (hsp : Splits s L) (hr : progG s.size L = .ok ((xs, n'), [])) (w : World) :
    Calls Tryz.prog 23 #[.string s] w fun e w' => ∃ v, e = .returned (.tuple #[.agg #[v], .agg #[.int .i64 0, .int .i64 0]]) /\ ProgVal w.heap.size xs v w' /\ Below w.heap.size w w' := by
  obtain ⟨i0, hi0, hz0, hz1, hz2⟩ := info_parts Tryz.info34
  have HR : Hid (fwG s.size (L.length + 1) 0 [] L = .ok ((xs, n'), [])) := hide hr
  have HSP := hide hsp
  have HL := hide hL
  clear hr hsp hL
  have b0 := below_box w (.cells #[.slice none 0 0] 24)
  have b1 := below_box (w.alloc (.cells #[.slice none 0 0] 24)) (.cells #[.int .i64 0, .int .i64 0] 28)
  have S2 : Hid (((w.alloc (.cells #[.slice none 0 0] 24)).alloc (.cells #[.int .i64 0, .int .i64 0] 28)).heap[w.heap.size]? = some (.cells #[.slice none 0 0] 24 (0, 0))) := hide ((b1.block _ (by simp)).trans (heap_alloc_new w _))
  have S3 : Hid (((w.alloc (.cells #[.slice none 0 0] 24)).alloc (.cells #[.int .i64 0, .int .i64 0] 28)).heap[w.heap.size + 1]? = some (.cells #[.int .i64 0, .int .i64 0] 28 (0, 0))) := hide (by
    have s1 : (w.alloc (.cells #[.slice none 0 0] 24)).heap.size = w.heap.size + 1 := by simp
    rw [<- s1]; exact heap_alloc_new _ _)
  have B0 := hide (below_step b0 b1)
  have hsz0 : w.heap.size + 1 < ((w.alloc (.cells #[.slice none 0 0] 24)).alloc (.cells #[.int .i64 0, .int .i64 0] 28)).heap.size := by simp
  clear b0 b1
  go_enter Tryz.func23, Tryz.ntmps23
  go_upto_region 1 with fail
  show Code.wp _ _ _ _ ((w.alloc (.cells #[.slice none 0 0] 24)).alloc (.cells #[.int .i64 0, .int .i64 0] 28))
  generalize (w.alloc (.cells #[.slice none 0 0] 24)).alloc (.cells #[.int .i64 0, .int .i64 0] 28) = W0 at *
  go_wp2_with fail
  refine (HSP.out _).mono ?_; rintro e w1 ⟨v1, rfl, o1, b1⟩
  obtain ⟨ao, cp, rfl⟩ := own_len o1
  have b2 := below_box w1 (.cells #[.int .i64 0, .int .i64 0] 28)
  have O2 := hide (o1.alloc (.cells #[.int .i64 0, .int .i64 0] 28))
  have B2 := hide (below_step b1 b2)
  have x0 : (w1.alloc (.cells #[.int .i64 0, .int .i64 0] 28)).cell? ⟨w1.heap.size, 0, none⟩ = some (.int .i64 0) := by simp
  clear o1 b1 b2
  go_upto_region 2 with fail
  show Code.wp _ _ _ _ (w1.alloc (.cells #[.int .i64 0, .int .i64 0] 28))
  generalize w1.alloc (.cells #[.int .i64 0, .int .i64 0] 28) = W2 at *
  generalize w1.heap.size = g5 at *
  have b3 := below_box W2 (.cells #[.slice ao L.length cp, .int .i64 0, .int .i64 s.size, .int .i64 0, .int .i64 0, .int .i64 0] 80)
  have b4 := below_box (W2.alloc (.cells #[.slice ao L.length cp, .int .i64 0, .int .i64 s.size, .int .i64 0, .int .i64 0, .int .i64 0] 80)) (.cells #[.slice none 0 0] 24)
  have hW3 : (W2.alloc (.cells #[.slice ao L.length cp, .int .i64 0, .int .i64 s.size, .int .i64 0, .int .i64 0, .int .i64 0] 80)).heap.size = W2.heap.size + 1 := by simp
  have M0 : Hid (MidT w W2.heap.size (W2.heap.size + 1) w.heap.size (w.heap.size + 1) L s.size 0 [] L ((W2.alloc (.cells #[.slice ao L.length cp, .int .i64 0, .int .i64 s.size, .int .i64 0, .int .i64 0, .int .i64 0] 80)).alloc (.cells #[.slice none 0 0] 24))) := hide (by
    have hz := B2.out.size
    have hB := B0.out.size
    have BB := below_step B2.out (below_step b3 b4)
    refine ⟨⟨.slice ao L.length cp, ?_, ?_, List.suffix_refl _, HL.out, by omega⟩, ⟨.slice none 0 0, ?_, [], World.ownsRow_nil _ _ _ _, rfl⟩, (BB.block _ (by omega)).trans S2.out, (BB.block _ (by omega)).trans S3.out, below_step B0.out BB, Nat.le_refl _, by omega, by omega, by omega⟩
    . refine (b4.block _ (by omega)).trans ((heap_alloc_new W2 _).trans ?_)
      simp
    . exact own_base ((O2.out.alloc _).alloc _) (Nat.zero_le _)
    . rw [<- hW3]; exact heap_alloc_new _ _)
  clear b3 b4 hW3 B2 O2 S2 S3 B0 hsz0
  go_wp2_with fail
  generalize (W2.alloc (.cells #[.slice ao L.length cp, .int .i64 0, .int .i64 s.size, .int .i64 0, .int .i64 0, .int .i64 0] 80)).alloc (.cells #[.slice none 0 0] 24) = W4 at *
  generalize W2.heap.size = a at *
  generalize a + 1 = c at *
  generalize w.heap.size + 1 = g3 at *
  clear x0
  go_loopw [] (fun wr => ∃ (f m : Nat) (acc : List Fun) (l' : List Tok), Hid (MidT w a c w.heap.size g3 L s.size m acc l' wr) /\ l'.length < f /\ Hid (fwG s.size f m acc l' = .ok ((xs, n'), []))) (fun wr => L.length - readAt a wr)
  case atStart => exact ⟨_, 0, [], L, M0, Nat.lt_succ_self _, HR⟩
  case round =>
    obtain ⟨f, m, acc, l', M, hf, HR'⟩ := hrel
    have hra := M.out.1.readAt
    have hll := M.out.1.len
    obtain ⟨c1, _, c4, hq9⟩ := M.out.1.at1
    obtain ⟨f, rfl⟩ : ∃ q, f = q + 1 := ⟨f - 1, by omega⟩
    have hlt := M.out.lt
    by_cases hl : l' = []
    . subst hl
      obtain ⟨rfl, rfl⟩ : acc = xs /\ m = n' := by have := HR'.out; rw [fw_stop] at this; cases this; exact ⟨rfl, rfl⟩
      have hq1 : ¬ ((L.length - ([] : List Tok).length : Nat) : Int) < (L.length : Int) := by simp
      have hq2 : decide (((L.length - ([] : List Tok).length : Nat) : Int) < (L.length : Int)) = false := by simp
      generalize L.length - ([] : List Tok).length = q at *
      obtain ⟨_, ⟨v, hc, cs, o1, o2⟩, s2, s3, bb, _⟩ := M.out
      obtain ⟨aoV, cpV, rfl⟩ := own_len o1
      have y0 : wr.cell? ⟨c, 0, none⟩ = some (.slice aoV acc.length cpV) := by simp [World.cell?, hc]
      have u0 : wr.cell? ⟨w.heap.size, 0, none⟩ = some (.slice none 0 0) := by simp [World.cell?, s2]
      have u1 : wr.cell? ⟨g3, 0, none⟩ = some (.int .i64 0) := by simp [World.cell?, s3]
      have u2 : wr.cell? ⟨g3, 1, none⟩ = some (.int .i64 0) := by simp [World.cell?, s3]
      have v0 : wr.frozen? ⟨w.heap.size, 0, none⟩ = false := by simp [World.frozen?, s2]
      have v1 : wr.frozen? ⟨g3, 0, none⟩ = false := by simp [World.frozen?, s3]
      have v2 : wr.frozen? ⟨g3, 1, none⟩ = false := by simp [World.frozen?, s3]
      have hg23 : g3 ≠ w.heap.size := by omega
      have F1 := (Far.refl w.heap.size wr).set 0 (.slice aoV acc.length cpV)
      have hs3 := (F1.2.2.2.2 g3 hg23).trans s3
      have F2 := (((Far.refl g3 (wr.setCell ⟨w.heap.size, 0, none⟩ (.slice aoV acc.length cpV))).set 0 (.int .i64 0)).set 1 (.int .i64 0))
      have PV := hide (show ProgVal w.heap.size acc (.slice aoV acc.length cpV) (((wr.setCell ⟨w.heap.size, 0, none⟩ (.slice aoV acc.length cpV)).setCell ⟨g3, 0, none⟩ (.int .i64 0)).setCell ⟨g3, 1, none⟩ (.int .i64 0)) from
        ⟨cs, own_base (F2.own (F1.own o1 (own_ne o1 s2 (by decide))) (own_ne (F1.own o1 (own_ne o1 s2 (by decide))) hs3 (by decide))) (by omega), FRow.stay (((far_kind F1 s2 (by decide)).trans (far_kind F2 hs3 (by decide))).trans (stay_base (by omega))) _ _ o2⟩)
      have BBf := hide ((((bb.setCell (p := ⟨w.heap.size, 0, none⟩) (Nat.le_refl _) (.slice aoV acc.length cpV)).setCell (p := ⟨g3, 0, none⟩) (by show _ <= g3; omega) (.int .i64 0)).setCell (p := ⟨g3, 1, none⟩) (by show _ <= g3; omega) (.int .i64 0)))
      clear hc o1 o2 s2 s3 bb F1 F2 hs3 M
      go_wp2_with fail
      exact bodyPost_ret (v := .tuple #[.agg #[.slice aoV acc.length cpV], .agg #[.int .i64 0, .int .i64 0]]) (by simp [results, Tryz.results23, go_sem, u0, u1, u2]) rfl ⟨_, rfl, PV.out, BBf.out⟩
    . have h32 : acc.length < 32 := by
        refine Classical.byContradiction fun q => ?_
        have := HR'.out
        rw [fw_many hl (by omega)] at this
        cases this
      obtain ⟨x, m2, l3, hx⟩ : ∃ x m2 l3, funG s.size m l' = .ok ((x, m2), l3) := by
        cases hq : funG s.size m l' with
        | error er => have := HR'.out; rw [fw_bad hl h32 hq] at this; cases this
        | ok p => exact ⟨p.1.1, p.1.2, p.2, rfl⟩
      have HE : Hid (fwG s.size f m2 (acc ++ [x]) l3 = .ok ((xs, n'), [])) := hide (by have := HR'.out; rwa [fw_go hl h32 hx] at this)
      have hless := fun_less hx
      have HX := hide hx
      have hlp : 0 < l'.length := List.length_pos_iff.2 hl
      have hq1 : ((L.length - l'.length : Nat) : Int) < (L.length : Int) := by omega
      have hq2 : decide (((L.length - l'.length : Nat) : Int) < (L.length : Int)) = true := by simpa using hq1
      have hqr : Hid (readAt a wr = L.length - l'.length) := hide hra
      clear hx HR' hl hra
      have hll' := hide hll
      generalize hqe : L.length - l'.length = q at *
      have hqe := hide hqe
      obtain ⟨v, hc, cs, o1, o2⟩ := M.out.2.1
      obtain ⟨aoV, cpV, rfl⟩ := own_len o1
      have y0 : wr.cell? ⟨c, 0, none⟩ = some (.slice aoV acc.length cpV) := by simp [World.cell?, hc]
      have g4 : ¬ (32 : Int) <= (acc.length : Int) := by omega
      have g5' : decide ((32 : Int) <= (acc.length : Int)) = false := by simpa using g4
      clear hc o1 o2
      go_wp2_with fail
      refine (rfunction _ M.out.1 HX.out).mono ?_; rintro e w9 ⟨v9, rfl, ⟨vp, vb, rfl, V9a, V9⟩, r9, k9⟩
      obtain ⟨aoA, mA, cA, rfl⟩ := own_slice V9a
      obtain ⟨aoT, mT, cT, rfl⟩ := own_slice V9.choose_spec.1
      have b9 := below_box w9 (.cells (funCells x (.slice aoA mA cA) (.slice aoT mT cT)).toArray 34)
      have M9 := hide ((M.out.kr r9 k9).below b9)
      have SB : Stay wr.heap.size (a + 1) w9 (w9.alloc (.cells (funCells x (.slice aoA mA cA) (.slice aoT mT cT)).toArray 34)) := (stay_base (show a + 1 <= wr.heap.size by omega)).trans (stay_below b9)
      have V9a := hide (SB _ _ _ _ _ (by simp) V9a)
      have V9 := hide (V9.stay SB)
      have yy : ∀ i u, (funCells x (.slice aoA mA cA) (.slice aoT mT cT))[i]? = some u -> (w9.alloc (.cells (funCells x (.slice aoA mA cA) (.slice aoT mT cT)).toArray 34)).cell? ⟨w9.heap.size, i, none⟩ = some u := fun i u hu => by
        have := five_cell (w := w9) (x := x) (vp := .slice aoA mA cA) (vb := .slice aoT mT cT) i u hu
        rw [Addr.add_lit, Nat.zero_add] at this
        exact this
      have p0 := yy 0 _ rfl
      have p1 := yy 1 _ rfl
      have p2 := yy 2 _ rfl
      have p3 := yy 3 _ rfl
      have p4 := yy 4 _ rfl
      clear yy SB r9 k9 b9 M y0 c1 c4 g4 g5' hq1 hq2
      unfold funCells
      go_upto_region 10 with fail
      show Code.wp _ _ _ _ (w9.alloc (.cells (funCells x (.slice aoA mA cA) (.slice aoT mT cT)).toArray 34))
      generalize w9.alloc (.cells (funCells x (.slice aoA mA cA) (.slice aoT mT cT)).toArray 34) = W9 at *
      have hlt9 := M9.out.lt
      obtain ⟨v, hc, cs, o1, o2⟩ := M9.out.2.1
      obtain ⟨aoV, cpV, rfl⟩ := own_len o1
      have y0 : W9.cell? ⟨c, 0, none⟩ = some (.slice aoV acc.length cpV) := by simp [World.cell?, hc]
      have z0 : W9.frozen? ⟨c, 0, none⟩ = false := by simp [World.frozen?, hc]
      have hne : (Value.slice aoV acc.length cpV).ownBlock ≠ some c := own_ne o1 hc (by decide)
      obtain ⟨y0a, z0a⟩ := Cel.below (below_box W9 (.cells (funCells x (.slice aoA mA cA) (.slice aoT mT cT)).toArray 34)) hlt9.2.2.2.2 y0 z0
      have O1 := hide (o1.alloc (.cells (funCells x (.slice aoA mA cA) (.slice aoT mT cT)).toArray 34))
      have hc := hide hc
      have o2 := hide o2
      clear o1
      have t2 : acc.length + 1 <= maxLen := by unfold maxLen; omega
      have t3 : (acc.length + 1) * 80 <= 140737488355328 := by omega
      have t4 : a + 1 <= (W9.alloc (.cells (funCells x (.slice aoA mA cA) (.slice aoT mT cT)).toArray 34)).heap.size := by simp; omega
      have t5 : c < (W9.alloc (.cells (funCells x (.slice aoA mA cA) (.slice aoT mT cT)).toArray 34)).heap.size := by simp; omega
      go_wp2_with (at_builtin; refine wpList_append_lies _ rfl (.tmp 49) (.tmp 51) 22 rfl (a + 1) 34 i0 _ 5 80 Tryz.underlying22 hi0 hz0 hz1 hz2 rfl (by decide) _ _ _ rfl O1.out ⟨W9.heap.size, 0, none⟩ 1 1 (funCells x (.slice aoA mA cA) (.slice aoT mT cT)) rfl rfl five_cell five_one (by decide) t2 t3 t4 (W9.heap.size + 1) (by simp) ?_; intro gg cap w10 hown hgrow hat hlt10; obtain ⟨y0b, z0b⟩ := Cel.grown hgrow t5 hne y0a z0a)
      have M10 : Hid (MidT w a c w.heap.size g3 L s.size m2 (acc ++ [x]) l3 (w10.setCell ⟨c, 0, none⟩ (.slice (some ⟨gg, 0, none⟩) (acc.length + 1) cap))) := hide (by
        obtain ⟨h1, _, h3, h4, h5, h6, h7, h8, h9⟩ := M9.out
        have bx := below_box W9 (.cells (funCells x (.slice aoA mA cA) (.slice aoT mT cT)).toArray 34)
        have hrow : ∀ q, (Value.slice aoV acc.length cpV).ownBlock = some q -> a + 1 <= q := fun q hq => (O1.out.lt q hq).1
        have hc9 := (bx.block c (by omega)).trans hc.out
        have hc10 := (hgrow.block c t5 (fun e => hne e.symm)).trans hc9
        have F10 := (Far.refl c w10).set 0 (.slice (some ⟨gg, 0, none⟩) (acc.length + 1) cap)
        have Sg := stay_grown (B := a + 1) hgrow O1.out (by decide)
        have Sf := far_kind (B := a + 1) F10 hc10 (by decide)
        have Sa := (stay_below (B := a + 1) bx).trans (Sg.trans Sf)
        have blk : ∀ k, k < a -> (w10.setCell ⟨c, 0, none⟩ (.slice (some ⟨gg, 0, none⟩) (acc.length + 1) cap)).heap[k]? = W9.heap[k]? := fun k hk => (F10.2.2.2.2 k (by omega)).trans ((hgrow.block k (show k < (W9.alloc (.cells (funCells x (.slice aoA mA cA) (.slice aoT mT cT)).toArray 34)).heap.size by have := bx.size; omega) (fun e => by have := hrow k e.symm; omega)).trans (bx.block k (by omega)))
        have hsz : W9.heap.size <= (w10.setCell ⟨c, 0, none⟩ (.slice (some ⟨gg, 0, none⟩) (acc.length + 1) cap)).heap.size := by rw [F10.2.2.2.1]; exact Nat.le_trans bx.size hgrow.size
        refine ⟨?_, ⟨_, (heap_setCell_same w10 c 0 _ 24 _ hc10).trans rfl, cs ++ funCells x (.slice aoA mA cA) (.slice aoT mT cT), by rw [List.length_append]; exact F10.own hown (own_ne hown hc10 (by decide)), FRow.snoc (Sa _ _ _ _ _ (by simp) V9a.out) (V9.out.stay Sa) _ _ (FRow.stay Sa _ _ o2.out)⟩, (blk _ (by omega)).trans h3, (blk _ (by omega)).trans h4, ?_, h6, h7, h8, h9⟩
        . exact ((h1.below bx).grown hgrow O1.out (by decide) (Nat.lt_succ_self a)).set hc10 (by decide) (by omega) 0 _
        . exact ⟨F10.1.trans (hgrow.os.trans (bx.os.trans h5.os)), F10.2.1.trans (hgrow.tape.trans (bx.tape.trans h5.tape)), F10.2.2.1.trans (hgrow.output.trans (bx.output.trans h5.output)), Nat.le_trans h5.size hsz, fun k hk => (blk k (by omega)).trans (h5.block k hk)⟩)
      have hra3 := M10.out.1.readAt
      have hll3 := M10.out.1.len
      go_roundw
      case rel => exact ⟨f, m2, acc ++ [x], l3, M10, by omega, HE⟩
      case measure => rw [hqr.out, hra3]; have := hqe.out; have := hll'.out; omega
end Go.Proofs.YtahhbckccdigoaaGreatDoor
namespace Go.Proofs.YtahhbckccdigoaaGreatDoor
open Go Go.RowKit
open G (Tok Er Ins Fun peek0 peek1 atOf)
def inB : List UInt8 -> UInt8 -> Bool
  | [], _ => false
  | d :: r, c => if d = c then true else inB r c
theorem inB_drop {t : List UInt8} {k : Nat} {c d : UInt8} (h : t[k]? = some d) : inB (t.drop k) c = if d = c then true else inB (t.drop (k + 1)) c := by
  obtain ⟨h1, h2⟩ := List.getElem?_eq_some_iff.1 h
  rw [List.drop_eq_getElem_cons h1, h2]; rfl
theorem rin (c : UInt8) (t : List UInt8) (w : World) (ht : t.length <= 100) : Calls Tryz.prog 88 #[.int .u8 (c.toNat : Int), .string (bs t)] w fun e w' => e = .returned (.bool (inB t c)) /\ w' = w := by
  have hz : (bs t).size <= 100 := by rw [bs_size]; exact ht
  have HZ := hide (bs_size t)
  go_enter Tryz.func88, Tryz.ntmps88
  go_wp2_with fail
  go_loopw [5] (fun i wr => ∃ k : Nat, k <= t.length /\ i = .int .i64 k /\ Hid (wr = w) /\ Hid (inB t c = inB (t.drop k) c)) (fun i _ => t.length - (intOf i).toNat)
  case atStart => exact ⟨0, Nat.zero_le _, rfl, hide rfl, rfl⟩
  case round =>
    obtain ⟨k, hk, rfl, hw, HC⟩ := hrel
    obtain rfl := hw.out
    by_cases hlt : k < t.length
    . obtain ⟨d, hd, _⟩ := drop_at hlt
      obtain ⟨hkz, hb⟩ := bs_at hd
      have hkz' : (k : Int) < ((bs t).size : Int) := by omega
      have HD := hide (inB_drop (c := c) hd)
      by_cases hdc : d = c
      . have hb1 : ((bs t)[k].toNat : Int) = (c.toNat : Int) := by rw [hb, hdc]
        have HE : Hid (inB t c = true) := hide (by rw [HC.out, HD.out, if_pos hdc])
        clear hb hd hdc HD HC
        go_wp2_with fail
        go_ret
        exact ⟨ret_bool HE.out.symm, rfl⟩
      . have hb1 : (((bs t)[k].toNat : Int) == (c.toNat : Int)) = false := by
          rw [hb]
          have h2 : d.toNat ≠ c.toNat := fun e => hdc (UInt8.toNat_inj.1 e)
          simpa using fun e : (d.toNat : Int) = c.toNat => h2 (by omega)
        have HE : Hid (inB t c = inB (t.drop (k + 1)) c) := hide (by rw [HC.out, HD.out, if_neg hdc])
        clear hb hd hdc HD HC
        go_wp2_with fail
        go_roundw
        case rel => exact ⟨k + 1, by omega, by go_num, hide trivial, HE⟩
        case measure => simp [intOf]; omega
    . have HE : Hid (inB t c = false) := hide (by rw [HC.out, List.drop_eq_nil_of_le (by omega)]; rfl)
      have hkz' : ¬ (k : Int) < ((bs t).size : Int) := by have := HZ.out; omega
      have hkz2 : decide ((k : Int) < ((bs t).size : Int)) = false := by simpa using hkz'
      go_wp2_with fail
      go_ret
      exact ⟨ret_bool HE.out.symm, rfl⟩
def letB (c : UInt8) : Bool := (decide (97 <= c.toNat) && decide (c.toNat <= 122)) || (decide (65 <= c.toNat) && decide (c.toNat <= 90)) || (decide (48 <= c.toNat) && decide (c.toNat <= 57)) || inB [46, 37, 64, 45, 95] c
theorem letB_tog (c : UInt8) : letB c = L2.togB c.toNat := by
  have key : ∀ n : Fin 256, letB (UInt8.ofNat n.val) = L2.togB (UInt8.ofNat n.val).toNat := by decide +kernel
  have := key ⟨c.toNat, c.toNat_lt⟩
  rwa [show UInt8.ofNat c.toNat = c from UInt8.ofNat_toNat] at this
theorem inB_alo (c : UInt8) : inB [40, 41, 123, 125, 61, 58] c = L2.aloB c.toNat := by
  have key : ∀ n : Fin 256, inB [40, 41, 123, 125, 61, 58] (UInt8.ofNat n.val) = L2.aloB (UInt8.ofNat n.val).toNat := by decide +kernel
  have := key ⟨c.toNat, c.toNat_lt⟩
  rwa [show UInt8.ofNat c.toNat = c from UInt8.ofNat_toNat] at this
theorem inB_bla (c : UInt8) : inB [32, 9, 10, 13] c = L2.blaB c.toNat := by
  have key : ∀ n : Fin 256, inB [32, 9, 10, 13] (UInt8.ofNat n.val) = L2.blaB (UInt8.ofNat n.val).toNat := by decide +kernel
  have := key ⟨c.toNat, c.toNat_lt⟩
  rwa [show UInt8.ofNat c.toNat = c from UInt8.ofNat_toNat] at this
theorem rletter (c : UInt8) (w : World) : Calls Tryz.prog 89 #[.int .u8 (c.toNat : Int)] w fun e w' => e = .returned (.bool (letB c)) /\ w' = w := by
  have HB : Hid (letB c = ((decide (97 <= c.toNat) && decide (c.toNat <= 122)) || (decide (65 <= c.toNat) && decide (c.toNat <= 90)) || (decide (48 <= c.toNat) && decide (c.toNat <= 57)) || inB [46, 37, 64, 45, 95] c)) := hide rfl
  have key : ∀ n : Nat, (c.toNat : Int) = n -> Calls Tryz.prog 89 #[.int .u8 (n : Int)] w fun e w' => e = .returned (.bool ((decide (97 <= n) && decide (n <= 122)) || (decide (65 <= n) && decide (n <= 90)) || (decide (48 <= n) && decide (n <= 57)) || inB [46, 37, 64, 45, 95] c)) /\ w' = w := by
    intro n hn
    have HI := hide (rin c [46, 37, 64, 45, 95] w (by simp))
    rw [hn] at HI
    clear hn HB
    have hyes : (97 <= n /\ n <= 122) \/ (65 <= n /\ n <= 90) \/ (48 <= n /\ n <= 57) -> true = ((decide (97 <= n) && decide (n <= 122)) || (decide (65 <= n) && decide (n <= 90)) || (decide (48 <= n) && decide (n <= 57)) || inB [46, 37, 64, 45, 95] c) := by
      rintro (h | h | h) <;> simp [h]
    have hno : ¬ ((97 <= n /\ n <= 122) \/ (65 <= n /\ n <= 90) \/ (48 <= n /\ n <= 57)) -> inB [46, 37, 64, 45, 95] c = ((decide (97 <= n) && decide (n <= 122)) || (decide (65 <= n) && decide (n <= 90)) || (decide (48 <= n) && decide (n <= 57)) || inB [46, 37, 64, 45, 95] c) := by
      intro h
      have e1 : (decide (97 <= n) && decide (n <= 122)) = false := by simp; omega
      have e2 : (decide (65 <= n) && decide (n <= 90)) = false := by simp; omega
      have e3 : (decide (48 <= n) && decide (n <= 57)) = false := by simp; omega
      rw [e1, e2, e3]; rfl
    have hyes := hide hyes
    have hno := hide hno
    by_cases h1 : (97 : Int) <= n <;> by_cases h2 : (n : Int) <= 122 <;> by_cases h3 : (65 : Int) <= n <;> by_cases h4 : (n : Int) <= 90 <;> by_cases h5 : (48 : Int) <= n <;> by_cases h6 : (n : Int) <= 57
    all_goals first
      | (exfalso; omega)
      | (go_enter Tryz.func89, Tryz.ntmps89
         go_wp2_with fail
         go_ret
         exact ⟨ret_bool (hyes.out (by omega)), rfl⟩)
      | (go_enter Tryz.func89, Tryz.ntmps89
         go_wp2_with fail
         refine HI.out.mono ?_; rintro e w1 ⟨rfl, hw1⟩
         rw [hw1]
         go_wp2_with fail
         go_ret
         exact ⟨ret_bool (hno.out (by omega)), rfl⟩)
  rw [HB.out]
  exact key c.toNat rfl
end Go.Proofs.YtahhbckccdigoaaGreatDoor
namespace Go.Proofs.YtahhbckccdigoaaGreatDoor
open Go Go.RowKit
open G (Tok Er Ins Fun peek0 peek1 atOf)
theorem program_any {B a : Nat} {L : List Tok} {E : Int} {l : List Tok} (w : World) (h : Rdr B a L E 0 l w) (ht : Tabs w) (h2 : 2 <= a) :
    Calls Tryz.prog 85 #[.pointer (some ⟨a, 0, none⟩)] w (OutP a (progG E l) w) := by
  obtain ⟨i0, hi0, hz0, hz1, hz2⟩ := info_parts Tryz.info34
  have hBw := h.size
  have hsm := h.suffix
  have b0 := below_step (below_box w (.cells #[.slice none 0 0] 24)) (below_box (w.alloc (.cells #[.slice none 0 0] 24)) (.cells #[.slice none 0 0] 24))
  have e1 : (w.alloc (.cells #[.slice none 0 0] 24)).heap.size = w.heap.size + 1 := by simp
  have M0 : Hid (MidP w a (w.heap.size + 1) L E 0 [] l ((w.alloc (.cells #[.slice none 0 0] 24)).alloc (.cells #[.slice none 0 0] 24))) :=
    hide ⟨((h.mono hBw (Nat.le_refl _)).step b0).mono (Nat.le_succ _) (by simp), ⟨.slice none 0 0, by rw [<- e1]; exact heap_alloc_new _ _, [], World.ownsRow_nil _ _ _ _, rfl⟩, (heap_alloc_old _ _ (by simp)).trans (heap_alloc_new w _), Kp.of_belowW b0 (Nat.le_refl _), ht.below b0, h2, by omega⟩
  clear h ht b0 e1
  go_enter Tryz.func85, Tryz.ntmps85
  go_wp2_with fail
  show Code.wp _ _ _ _ ((w.alloc (.cells #[.slice none 0 0] 24)).alloc (.cells #[.slice none 0 0] 24))
  generalize (w.alloc (.cells #[.slice none 0 0] 24)).alloc (.cells #[.slice none 0 0] 24) = W0 at *
  obtain ⟨c, hc⟩ : ∃ c, c = w.heap.size + 1 := ⟨_, rfl⟩
  rw [<- hc] at M0
  rw [<- hc]
  replace hc := hide hc
  go_loopw [] (fun wr => ∃ (f m : Nat) (acc : List Fun) (l' : List Tok), MidP w a c L E m acc l' wr /\ acc.length <= 32 /\ l'.length < f /\ Hid (progG E l = fwG E f m acc l')) (fun wr => L.length - readAt a wr)
  case atStart => exact ⟨l.length + 1, 0, [], l, M0.out, by simp, by omega, rfl⟩
  case round =>
    obtain ⟨f, m, acc, l', M5, h32, hlf, HM⟩ := hrel
    have hra := M5.1.readAt
    have hll := M5.1.suffix.1.length_le
    have hL := M5.1.suffix.2.1
    obtain ⟨aoW, cW, q0, q1⟩ := M5.1.words
    have M5 := hide M5
    obtain ⟨f, rfl⟩ : ∃ q, f = q + 1 := ⟨f - 1, by omega⟩
    have hj : L.length - l'.length <= 131072 := by omega
    by_cases hl' : l' = []
    . subst hl'
      have HE := hide (HM.out.trans fw_stop)
      have hj2 : ¬ (((L.length - ([] : List Tok).length : Nat) : Int) < L.length) := by simp
      simp only [List.length_nil, Nat.sub_zero] at q1 hj2
      have M6 := hide (M5.out.step (below_drew wr))
      go_wp2_with fail
      go_region
      generalize wr.drew = W6 at *
      clear M5 q0 q1 hj hj2 hra
      obtain ⟨v, hcv, cs, o1, o2⟩ := M6.out.2.1
      obtain ⟨aoV, cV, rfl⟩ := own_len o1
      have hS := hide M6.out.2.2.1
      have y0 : W6.cell? ⟨c, 0, none⟩ = some (.slice aoV acc.length cV) := by simp [World.cell?, hcv]
      have s0 : W6.cell? ⟨w.heap.size, 0, none⟩ = some (.slice none 0 0) := by simp [World.cell?, hS.out]
      have f0 : W6.frozen? ⟨w.heap.size, 0, none⟩ = false := by simp [World.frozen?, hS.out]
      have hlt7 := M6.out.lt
      have FF := hide ((Far.refl w.heap.size W6).set 0 (.slice aoV acc.length cV))
      have KK := hide (M6.out.2.2.2.1.trans (FF.out.kp (B := w.heap.size) (a := a) (Nat.le_refl _) (by omega) (fun cs fz hc => by rw [hS.out] at hc; simp at hc)))
      have SS := (far_kind (B := w.heap.size + 1) FF.out hS.out (by decide)).trans (stay_base (Nat.le_succ _))
      have OO := hide (own_base (FF.out.own o1 (own_ne o1 hS.out (by decide))) (Nat.le_succ _))
      have OB := hide (FRow.stay SS _ _ o2)
      clear o1 o2 SS hcv
      go_wp2_with fail
      exact bodyPost_ret (v := .agg #[.slice aoV acc.length cV]) (by simp [results, Tryz.results85, go_sem, s0]) rfl ⟨KK.out, .inl ⟨acc, m, [], _, HE.out, rfl, cs, OO.out, OB.out⟩⟩
    . have hlp : 0 < l'.length := List.length_pos_iff.2 hl'
      have hj2 : ((L.length - l'.length : Nat) : Int) < L.length := by omega
      have M6 := hide (M5.out.step (below_drew wr))
      go_wp2_with fail
      go_region
      generalize wr.drew = W6 at *
      clear M5 q0 q1 hj hj2
      have hlt6 := M6.out.lt
      obtain ⟨v, hcv, cs, o1, o2⟩ := M6.out.2.1
      obtain ⟨aoB, cB, rfl⟩ := own_len o1
      have c3 : W6.cell? ⟨c, 0, none⟩ = some (.slice aoB acc.length cB) := by simp [World.cell?, hcv]
      clear hcv o1 o2 cs
      by_cases h9 : acc.length < 32
      rotate_left
      . have HE := hide (HM.out.trans (fw_many hl' (by omega)))
        have h9a : ¬ (acc.length : Int) < 32 := by omega
        have h9b : (32 : Int) <= acc.length := by omega
        have h9c : decide ((acc.length : Int) < 32) = false := by simpa using h9b
        go_wp2_with fail
        go_region_with ((first
          | (go_at_call 102; refine (peek0_any _ M6.out.1.drew).mono ?_; rintro e w7 ⟨rfl, b7⟩; have c37 := (b7.cell (p := ⟨c, 0, none⟩) hlt6.2.2.1).trans c3)
          | (go_at_call 101; refine (need_no _ _ _ _).mono ?_; rintro e w8 ⟨rfl, b8⟩; refine step_done (P := Tryz.prog) (by exact bodyPost_thrown (P := Tryz.prog) (fn := Tryz.f85) ⟨M6.out.2.2.2.1.trans (Kp.of_belowW (below_step (Below.undrew (w := W6) b7) b8) M6.out.2.2.2.1.size), .inr ⟨_, HE.out, rfl⟩⟩) ?_)))
        all_goals trivial
      have h9a : (acc.length : Int) < 32 := by omega
      go_wp2_with fail
      go_region_held3 (fun w' => w'.cell? ⟨c, 0, none⟩ = some (.slice aoB acc.length cB))
        (first
          | (go_keep; done)
          | (exact (b7.cell (p := ⟨c, 0, none⟩) hlt6.2.2.1).trans (by assumption))
          | (exact (b8.cell (p := ⟨c, 0, none⟩) hcw7).trans (by assumption)))
        ((first
          | (go_at_call 102; refine (peek0_any _ M6.out.1.drew).mono ?_; rintro e w7 ⟨rfl, b7⟩; have hcw7 : c < w7.heap.size := Nat.lt_of_lt_of_le hlt6.2.2.1 b7.size)
          | (go_at_call 101; refine (need_ok _ _ _ _).mono ?_; rintro e w8 ⟨rfl, b8⟩)))
      have b7' : Below W6.heap.size W6 w7 := Below.undrew b7
      have M8 := hide (M6.out.step (below_step b7' b8))
      have c38 := ((below_step b7' b8).cell (p := ⟨c, 0, none⟩) hlt6.2.2.1).trans c3
      clear M6 c3 b7 b7' b8 hcw7 hlt6
      have hlt8 := M8.out.lt
      obtain ⟨vb, hc6, cs, oB6, hR6⟩ := M8.out.2.1
      have evb : vb = .slice aoB acc.length cB := by
        have e : w8.cell? ⟨c, 0, none⟩ = some vb := by simp [World.cell?, hc6]
        rw [c38] at e
        exact (Option.some.inj e).symm
      subst evb
      have c3 := c38
      have z3 : w8.frozen? ⟨c, 0, none⟩ = false := by simp [World.frozen?, hc6]
      have hc6 := hide hc6
      have oB6 := hide oB6
      have hR6 := hide hR6
      cases hblk : funG E m l' with
      | error er =>
        have HE := hide (HM.out.trans (fw_bad hl' h9 hblk))
        go_wp2_with fail
        go_region_with ((first
          | (go_at_call 103; refine (fun_err M8.out.1.drew (M8.out.2.2.2.2.1.below (below_drew w8)) h2 hblk).mono ?_; rintro e w9 ⟨rfl, k9⟩; refine step_done (P := Tryz.prog) (by exact bodyPost_thrown (P := Tryz.prog) (fn := Tryz.f85) ⟨M8.out.2.2.2.1.trans (k9.undrew.mono M8.out.2.2.2.1.size), .inr ⟨er, HE.out, rfl⟩⟩) ?_)))
        all_goals trivial
      | ok q =>
        obtain ⟨⟨x, m'⟩, l''⟩ := q
        have hless := fun_less hblk
        have HE := hide (HM.out.trans (fw_go hl' h9 hblk))
        have hva2 : (Value.slice aoB acc.length cB).ownBlock ≠ some c := own_ne oB6.out hc6.out (by decide)
        go_wp2_with fail
        go_region_law ((first
          | (refine step_append_lies _ (by rfl) _ _ _ (by rfl) (w.heap.size + 1) 34 i0 _ 5 80 Tryz.underlying22 hi0 hz0 hz1 hz2 rfl (by omega) (.slice aoB acc.length cB) acc.length cs (by rfl) ((own_kept k9.undrew (by omega) 34 5 _ _ _ oB6.out).alloc _)
              ⟨w9.heap.size, 0, none⟩ 1 1 (funCells x (.slice aoA mA cA) (.slice aoT mT cT)) (by rfl) (by rfl) five_cell five_one (by omega) (by unfold maxLen; omega) (by omega) (by simp; omega) (w9.heap.size + 1) (by simp) ?_; intro gg cap w10 hown hgrow hat hlt; obtain ⟨c3b, z3b⟩ := Cel.grown hgrow (by simp; omega) hva2 c3a z3a)
          | (go_simp; go_at_call 103; refine (fun_ok M8.out.1.drew (M8.out.2.2.2.2.1.below (below_drew w8)) h2 hblk).mono ?_; rintro e w9 ⟨aoA, mA, cA, aoT, mT, cT, rfl, V9a, V9, k9, r9⟩; have s9 : w8.heap.size <= w9.heap.size := k9.size; obtain ⟨c39, z39⟩ := Cel.kp k9 (c := c) (i := 0) hlt8.2.2.1 (by omega) c3 z3; obtain ⟨c3a, z3a⟩ := Cel.below (below_box w9 (.cells #[.string (bs x.1), .slice aoA mA cA, .int .i64 x.2.2.1, .slice aoT mT cT, .int .i64 x.2.2.2.2] 34)) (by omega) c39 z39; unfold funCells)))
        all_goals
          have K9 : Kp w8.heap.size a w8 w9 := k9.undrew
          have St := (stay_kp (B := w.heap.size + 1) K9 (by omega)).trans (stay_below (below_box w9 (.cells #[.string (bs x.1), .slice aoA mA cA, .int .i64 x.2.2.1, .slice aoT mT cT, .int .i64 x.2.2.2.2] 34)))
          have oR : (w9.alloc (.cells #[.string (bs x.1), .slice aoA mA cA, .int .i64 x.2.2.1, .slice aoT mT cT, .int .i64 x.2.2.2.2] 34)).ownsRow (w.heap.size + 1) 34 5 (.slice aoB acc.length cB) acc.length cs := (own_kept K9 (by omega) 34 5 _ _ _ oB6.out).alloc _
          have Sg := stay_grown (B := w.heap.size + 1) hgrow oR (by decide)
          have Sb : Stay w8.heap.size (w.heap.size + 1) w9 (w9.alloc (.cells #[.string (bs x.1), .slice aoA mA cA, .int .i64 x.2.2.1, .slice aoT mT cT, .int .i64 x.2.2.2.2] 34)) := (stay_base (show w.heap.size + 1 <= w8.heap.size by omega)).trans (stay_below (below_box w9 _))
          have hrow : ∀ q, (Value.slice aoB acc.length cB).ownBlock = some q -> w.heap.size + 1 <= q := fun q hq => (oR.lt q hq).1
          have hc9 := (heap_alloc_old w9 (.cells #[.string (bs x.1), .slice aoA mA cA, .int .i64 x.2.2.1, .slice aoT mT cT, .int .i64 x.2.2.2.2] 34) (by omega)).trans ((K9.2.2.2.2 c hlt8.2.2.1 (by omega)).trans hc6.out)
          have hc10 := (hgrow.block c (by simp; omega) (fun e => hva2 e.symm)).trans hc9
          have F10 := (Far.refl c w10).set 0 (.slice (some ⟨gg, 0, none⟩) (acc.length + 1) cap)
          have Sf := far_kind (B := w.heap.size + 1) F10 hc10 (by decide)
          have PV : ProgVal (w.heap.size + 1) (acc ++ [x]) (.slice (some ⟨gg, 0, none⟩) (acc.length + 1) cap) (w10.setCell ⟨c, 0, none⟩ (.slice (some ⟨gg, 0, none⟩) (acc.length + 1) cap)) :=
            ⟨cs ++ funCells x (.slice aoA mA cA) (.slice aoT mT cT), by rw [List.length_append]; exact F10.own hown (own_ne hown hc10 (by decide)), FRow.snoc ((Sb.trans (Sg.trans Sf)) 3 1 _ _ _ (by simp) V9a) (V9.stay (Sb.trans (Sg.trans Sf))) _ _ (FRow.stay (St.trans (Sg.trans Sf)) _ _ hR6.out)⟩
          have RA := ((r9.step (below_box w9 (.cells #[.string (bs x.1), .slice aoA mA cA, .int .i64 x.2.2.1, .slice aoT mT cT, .int .i64 x.2.2.2.2] 34))).grown hgrow hrow).set (p := ⟨c, 0, none⟩) (by show _ <= c; omega) (.slice (some ⟨gg, 0, none⟩) (acc.length + 1) cap)
          have K10 := ((K9.andBelow (below_box w9 (.cells #[.string (bs x.1), .slice aoA mA cA, .int .i64 x.2.2.1, .slice aoT mT cT, .int .i64 x.2.2.2.2] 34))).mono (show w.heap.size <= _ by omega)).grown hgrow (by simp; omega) (fun q hq => by have := hrow q hq; omega) (own_not80 oR (by decide))
          have K11 := (M8.out.2.2.2.1.trans K10).trans (F10.kp (B := w.heap.size) (a := a) (by omega) (by omega) (fun cs fz hc => by rw [hc10] at hc; simp at hc))
          have T9 := M8.out.2.2.2.2.1.kp K9 h2 (by omega)
          have T10 := T9.grew (below_box w9 _) hgrow (fun q hq => by have := hrow q hq; omega)
          have T11 := T10.of (by rw [F10.2.2.2.1]; exact Nat.le_refl _) (F10.2.2.2.2 0 (by omega)) (F10.2.2.2.2 1 (by omega))
          have S9 := (heap_alloc_old w9 (.cells #[.string (bs x.1), .slice aoA mA cA, .int .i64 x.2.2.1, .slice aoT mT cT, .int .i64 x.2.2.2.2] 34) (by omega)).trans ((K9.2.2.2.2 w.heap.size (by omega) (by omega)).trans M8.out.2.2.1)
          have S10 := (hgrow.block w.heap.size (by simp; omega) (fun e => by have := hrow _ e.symm; omega)).trans S9
          have S11 := (F10.2.2.2.2 w.heap.size (by omega)).trans S10
          have M11 : Hid (MidP w a c L E m' (acc ++ [x]) l'' _) := hide ⟨RA, ⟨_, (heap_setCell_same w10 c 0 _ 24 _ hc10).trans rfl, PV⟩, S11, K11, T11, h2, by omega⟩
          have hra2 := M11.out.1.readAt
          have hll2 := M11.out.1.suffix.1.length_le
          clear RA PV S9 S10 S11 K9 K10 K11 T9 T10 T11 hc9 hc10 F10 V9 V9a k9 r9 hown hgrow c39 z39 c3a z3a oR Sg Sb Sf St
          go_wp2_with fail
          go_roundw
          case rel => exact ⟨f, m', acc ++ [x], l'', M11.out, by simp; omega, by omega, HE⟩
          case measure => rw [hra, hra2]; omega
end Go.Proofs.YtahhbckccdigoaaGreatDoor
