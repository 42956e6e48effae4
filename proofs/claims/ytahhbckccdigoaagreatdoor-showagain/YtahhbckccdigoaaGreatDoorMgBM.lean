/- ShowAgain: what the law answers. -/
import Derived.Test.YtahhbckccdigoaaGreatDoorMgAR
import Derived.Test.YtahhbckccdigoaaGreatDoorMgBL
import Derived.Test.YtahhbckccdigoaaGreatDoorRows
import Derived.ProofKit
import Derived.LaidMore
import Derived.OpenShut
import Derived.Stop.Joined
import Derived.ShutString
import Derived.ChangeOld
import Derived.Below
import Derived.Lib.LaidTab
import Derived.Lib.SmallJoins
import Derived.WideKeyPair
set_option maxHeartbeats 8000000
set_option maxRecDepth 20000
namespace Go.Proofs.YtahhbckccdigoaaGreatDoor
open Go Go.RowKit
open G (Tok Er Ins Fun peek0 peek1 atOf noI noB noF)
theorem like_mem {α β : Type} {f : α -> β} {l m : List α} (h : l.map f = m.map f) {x : α} (hx : x ∈ l) : ∃ y ∈ m, f x = f y := by
  have : f x ∈ m.map f := by rw [<- h]; exact List.mem_map.2 ⟨x, hx, rfl⟩
  obtain ⟨y, hy, e⟩ := List.mem_map.1 this
  exact ⟨y, hy, e.symm⟩
theorem like_ins {f g : Fun} (h : noF g = noF f) {b : List Ins} (hb : b ∈ g.2.2.2.1) {x : Ins} (hx : x ∈ b) : ∃ c ∈ f.2.2.2.1, ∃ y ∈ c, noI x = noI y := by
  obtain ⟨nm, ps, rt, bl, bm, p, q, rfl, rfl, hl⟩ := noF_eq h
  obtain ⟨c, hc, e⟩ := like_mem hl hb
  obtain ⟨y, hy, e2⟩ := like_mem e hx
  exact ⟨c, hc, y, hy, e2⟩
theorem like_may {f g : Fun} (h : noF g = noF f) (hm : MayG f) : MayG g := by
  have hi : ∀ b ∈ g.2.2.2.1, ∀ x ∈ b, MayX x := fun b hb x hx => by
    obtain ⟨c, hc, y, hy, e⟩ := like_ins h hb hx
    have := hm.2.2.2.2.2.2 c hc y hy
    obtain ⟨op, id, n, ty, ar, tt, nm, p, q, rfl, rfl⟩ := noI_eq e
    exact this
  obtain ⟨nm, ps, rt, bl, bm, p, q, rfl, rfl, hl⟩ := noF_eq h
  obtain ⟨g1, g2, g3, g4, g5, g6, _⟩ := hm
  exact ⟨g1, g2, g3, g4, g5, by have := same_len hl; dsimp only at g6 ⊢; omega, hi⟩
theorem gB_no (b : List Ins) : gB (noB b) = gB b := by
  show ((b.map noI).map gI).sum + 2 = (b.map gI).sum + 2
  rw [List.map_map]; rfl
theorem gF_no (f : Fun) : gF (noF f) = gF f := by
  show f.2.1.length + ((f.2.2.2.1.map noB).map gB).sum + 7 = f.2.1.length + (f.2.2.2.1.map gB).sum + 7
  rw [List.map_map, show gB ∘ noB = gB from funext gB_no]
theorem gP_no (p : List Fun) : gP (p.map noF) = gP p := by
  unfold gP
  rw [List.map_map, show gF ∘ noF = gF from funext gF_no]
theorem szF_no (f : Fun) : szB (noF f).2.2.2.1 = szB f.2.2.2.1 := by
  show ((f.2.2.2.1.map noB).map List.length).sum = (f.2.2.2.1.map List.length).sum
  rw [List.map_map, show List.length ∘ noB = List.length from funext fun b => List.length_map ..]
theorem szP_no (p : List Fun) : szP (p.map noF) = szP p := by
  unfold szP
  rw [List.map_map, show (fun x : Fun => szB x.2.2.2.1) ∘ noF = fun x => szB x.2.2.2.1 from funext szF_no]
theorem Sm.like {p q : List Fun} (h : Sm p) (e : q.map noF = p.map noF) : Sm q := by
  obtain ⟨⟨h1, h2, h3⟩, h4, h5⟩ := h
  refine ⟨⟨fun f hf => ?_, by have := same_len e; omega, by rw [<- szP_no, e, szP_no]; exact h3⟩, by rw [<- gP_no, e, gP_no]; exact h4, fun f hf b hb x hx => ?_⟩
  · obtain ⟨g, hg, k⟩ := like_mem e hf
    exact like_may k (h1 g hg)
  · obtain ⟨g, hg, k⟩ := like_mem e hf
    obtain ⟨c, hc, y, hy, k2⟩ := like_ins k hb hx
    have := h5 g hg c hc y hy
    obtain ⟨op, id, n, ty, ar, tt, nm, p, q, rfl, rfl⟩ := noI_eq k2
    exact this
theorem blksW_no (bl : List (List Ins)) : ∀ k, blksW k (bl.map noB) = blksW k bl := by
  induction bl with
  | nil => intro k; rfl
  | cons b bl ih =>
    intro k
    rw [List.map_cons, blksW, blksW, ih, blkW_line, blkW_line]
    have : (noB b).flatMap lineW = b.flatMap lineW := by
      show (b.map noI).flatMap lineW = _
      rw [List.flatMap_map]; rfl
    rw [this]
theorem funT_no (f : Fun) : funT (noF f) = funT f := by
  unfold funT
  have : funW (noF f) = funW f := by
    show headW f ++ blksW 0 (f.2.2.2.1.map noB) ++ [[125, 10]] = _
    rw [blksW_no]; rfl
  rw [this]
theorem progT_like {p q : List Fun} (e : q.map noF = p.map noF) : progT q = progT p := by
  have h : ∀ l : List Fun, l.map funT = (l.map noF).map funT := fun l => by
    rw [List.map_map, show funT ∘ noF = funT from funext funT_no]
  unfold progT
  rw [h, e, <- h]
theorem lawAgain (s : ByteArray) (w : World) (hmax : s.size <= maxLen) (ht : Tb w) : Calls Tryz.prog 6 #[.string s] w fun e w' => e = .returned (.bool true) /\ Below w.heap.size w w' := by
  have HT := hide ht
  unfold maxLen at hmax
  have hfl : ∀ (a b : Value) (w : World), (Instr.field 28 (.agg #[a, b]) 0).run Tryz.prog w = .ok a w := fun _ _ _ => rfl
  clear ht
  go_enter Tryz.func6, Tryz.ntmps6
  by_cases h0 : (2000 : Int) < (s.size : Int)
  · go_wp2_with fail
    refine (works_any _ HT.out).mono ?_; rintro e w2 ⟨rfl, b2⟩
    have B2 := hide b2
    go_wp2_with fail
    go_ret
    exact ⟨rfl, B2.out⟩
  · have hs2 : s.size <= 2000 := by omega
    go_wp2_with fail
    cases hg : textG s with
    | error er =>
      refine (text_any s w (by omega) ⟨HT.out.2.1, HT.out.2.2⟩ (by have := HT.out.1.lt; omega)).mono ?_
      rintro e w1 ⟨b1, ⟨xs, v, h1, _⟩ | ⟨er', h1, rfl⟩⟩
      · rw [hg] at h1; cases h1
      · rw [hg] at h1
        cases h1
        have hz := (text_err hg).1
        have hz' : (er.1 != 0) = true := by simpa using hz
        obtain ⟨b5, d1, d2⟩ := boxes_ok w1 (.slice none 0 0) (.int .i64 er.1) (.int .i64 er.2)
        have X4 : Hid (L5.Box (boxes w1 (.slice none 0 0) (.int .i64 er.1) (.int .i64 er.2)) (w1.heap.size + 1) [.int .i64 er.1, .int .i64 er.2]) := hide ⟨(Array.getElem?_eq_some_iff.1 d2).1, fun i u hu => by simp only [World.cell?, d2]; simpa using hu⟩
        have B5 := hide (below_step b1 b5)
        replace HT := hide (HT.out.below (below_step b1 b5))
        clear b1 b5 d1 d2 hg hz
        generalize er.1 = y at *
        generalize er.2 = z at *
        go_upto_region 4 with fail
        show Code.wp _ _ _ _ (boxes w1 (.slice none 0 0) (.int .i64 y) (.int .i64 z))
        generalize boxes w1 (.slice none 0 0) (.int .i64 y) (.int .i64 z) = W5 at *
        generalize w1.heap.size = g1 at *
        have u4 := X4.out.2 0 _ rfl
        go_wp2_with fail
        refine (works_any _ HT.out).mono ?_; rintro e w7 ⟨rfl, b7⟩
        have B7 := hide (below_step B5.out b7)
        go_wp2_with fail
        go_ret
        exact ⟨rfl, B7.out⟩
    | ok p =>
      have HS := hide (Sm.of_text hg hs2)
      refine (ptext_ok s p w (by omega) HT.out hg).mono ?_; rintro e w1 ⟨po, c, rfl, P1, b1⟩
      obtain ⟨p', ht', hp'⟩ := text_back HS.out.1
      have HQS := hide (HS.out.like hp')
      have HPT := hide (progT_like hp')
      replace ht' := hide ht'
      replace hp' := hide hp'
      obtain ⟨b5, d1, d2⟩ := boxes_ok w1 (.slice po p.length c) (.int .i64 0) (.int .i64 0)
      have X3 : Hid (L5.Box (boxes w1 (.slice po p.length c) (.int .i64 0) (.int .i64 0)) w1.heap.size [.slice po p.length c]) := hide ⟨(Array.getElem?_eq_some_iff.1 d1).1, fun i u hu => by simp only [World.cell?, d1]; simpa using hu⟩
      have X4 : Hid (L5.Box (boxes w1 (.slice po p.length c) (.int .i64 0) (.int .i64 0)) (w1.heap.size + 1) [.int .i64 0, .int .i64 0]) := hide ⟨(Array.getElem?_eq_some_iff.1 d2).1, fun i u hu => by simp only [World.cell?, d2]; simpa using hu⟩
      have B5 := hide (below_step b1 b5)
      replace HT := hide (HT.out.below (below_step b1 b5))
      have HP := hide (P1.below b5)
      clear b1 b5 d1 d2 hg P1
      go_upto_region 4 with fail
      show Code.wp _ _ _ _ (boxes w1 (.slice po p.length c) (.int .i64 0) (.int .i64 0))
      generalize boxes w1 (.slice po p.length c) (.int .i64 0) (.int .i64 0) = W5 at *
      generalize w1.heap.size = g1 at *
      have u3 := X3.out.2 0 _ rfl
      have u4 := X4.out.2 0 _ rfl
      have u5 := X4.out.2 1 _ rfl
      go_wp2_with fail
      refine (prog_text p po c _ HP.out HT.out HS.out.fin).mono ?_; rintro e w6 ⟨rfl, b6⟩
      have B6 := hide (below_step B5.out b6)
      replace X3 := hide (X3.out.below b6)
      replace HP := hide (HP.out.below b6)
      replace HT := hide (HT.out.below b6)
      clear b6 u3 u4 u5 B5 X4
      have hsz := hide HS.out.size
      have HTX : Hid (bs (progT p') = bs (progT p)) := hide (by rw [HPT.out])
      generalize hbt : bs (progT p) = t at *
      replace hbt := hide hbt
      go_wp2_with fail
      refine (ptext_ok t p' _ hsz.out HT.out ht'.out).mono ?_; rintro e w7 ⟨qo, qc, rfl, P7, b7⟩
      obtain ⟨b8, d1, d2⟩ := boxes_ok w7 (.slice qo p'.length qc) (.int .i64 0) (.int .i64 0)
      have X5 : Hid (L5.Box (boxes w7 (.slice qo p'.length qc) (.int .i64 0) (.int .i64 0)) w7.heap.size [.slice qo p'.length qc]) := hide ⟨(Array.getElem?_eq_some_iff.1 d1).1, fun i u hu => by simp only [World.cell?, d1]; simpa using hu⟩
      have X6 : Hid (L5.Box (boxes w7 (.slice qo p'.length qc) (.int .i64 0) (.int .i64 0)) (w7.heap.size + 1) [.int .i64 0, .int .i64 0]) := hide ⟨(Array.getElem?_eq_some_iff.1 d2).1, fun i u hu => by simp only [World.cell?, d2]; simpa using hu⟩
      have B8 := hide (below_step B6.out (below_step b7 b8))
      replace X3 := hide (X3.out.below (below_step b7 b8))
      replace HP := hide (HP.out.below (below_step b7 b8))
      replace HT := hide (HT.out.below (below_step b7 b8))
      have HQ := hide (P7.below b8)
      clear b7 b8 d1 d2 P7 B6
      go_upto_region 8 with fail
      show Code.wp _ _ _ _ (boxes w7 (.slice qo p'.length qc) (.int .i64 0) (.int .i64 0))
      generalize boxes w7 (.slice qo p'.length qc) (.int .i64 0) (.int .i64 0) = W8 at *
      generalize w7.heap.size = g7 at *
      have hw0 := whole_zero HS.out.1
      have u3 := X3.out.2 0 _ rfl
      have hle : Hid (p.length <= 64) := hide (by have := HS.out.1.2.1; omega)
      go_wp2_with fail
      refine (whole_try p po c _ HP.out HT.out HS.out.okf).mono ?_; rintro e w9 ⟨rfl, b9⟩
      rw [hw0]
      have B9 := hide (below_step B8.out b9)
      replace X3 := hide (X3.out.below b9)
      replace X5 := hide (X5.out.below b9)
      replace X6 := hide (X6.out.below b9)
      replace HP := hide (HP.out.below b9)
      replace HQ := hide (HQ.out.below b9)
      replace HT := hide (HT.out.below b9)
      clear b9 B8 u3 hw0
      have u3 := X3.out.2 0 _ rfl
      have u5 := X5.out.2 0 _ rfl
      have u6 := X6.out.2 0 _ rfl
      go_wp2_with fail
      refine (same_try p p' hp'.out.symm po qo c qc _ hle.out HP.out HQ.out).mono ?_; rintro e w10 ⟨rfl, b10⟩
      have B10 := hide (below_step B9.out b10)
      replace X5 := hide (X5.out.below b10)
      replace HQ := hide (HQ.out.below b10)
      replace HT := hide (HT.out.below b10)
      clear b10 B9 u3 u5 u6 X3 X6
      have u5 := X5.out.2 0 _ rfl
      go_wp2_with fail
      refine (prog_text p' qo qc _ HQ.out HT.out HQS.out.fin).mono ?_; rintro e w11 ⟨rfl, b11⟩
      rw [HTX.out]
      have B11 := hide (below_step B10.out b11)
      replace HT := hide (HT.out.below b11)
      clear b11 B10 u5
      go_wp2_with fail
      refine (works_any _ HT.out).mono ?_; rintro e w12 ⟨rfl, b12⟩
      have B12 := hide (below_step B11.out b12)
      go_wp2_with fail
      go_ret
      exact ⟨rfl, B12.out⟩
end Go.Proofs.YtahhbckccdigoaaGreatDoor
namespace Go.Proofs.YtahhbckccdigoaaGreatDoor
open Go.ChangeShapes Go.WideShapes Go.ChangeAt Go.RowKit
open L5 (letters tk0 tk1 mk ds word)
theorem own : ownKnob Tryz.prog.godebug = none := by kernel_rfl
def laid5 : List (String × DataW Unit) := [("math/bits.deBruijn32tab", Rows.laid_math_bits_deBruijn32tab), ("math/bits.deBruijn64tab", Rows.laid_math_bits_deBruijn64tab), ("internal/strconv.uint64pow10", Rows.laid_internal_strconv_uint64pow10), ("turntable/ops.rows", Rows.laid_turntable_ops_rows), ("turntable/shape.slotBits", Rows.laid_turntable_shape_slotBits)]
theorem rowsNamed : Tryz.prog.globalNamed "turntable/ops.rows" = some 0 := by kernel_rfl
theorem rowsType : (Tryz.prog.globals[0]?).map (·.type) = some 115 := by kernel_rfl
theorem lc3 : Tryz.prog.cellsOf 3 = 1 := by kernel_rfl
theorem lc9 : Tryz.prog.cellsOf 9 = 1 := by kernel_rfl
theorem lc86 : Tryz.prog.cellsOf 86 = 2 := by kernel_rfl
theorem lc88 : Tryz.prog.cellsOf 88 = 5 := by kernel_rfl
theorem lc117 : Tryz.prog.cellsOf 117 = 16 := by kernel_rfl
theorem lc133 : Tryz.prog.cellsOf 133 = 1 := by kernel_rfl
theorem lc143 : Tryz.prog.cellsOf 143 = 20 := by kernel_rfl
def rowD {H : Type} (k : Nat) : DataW H := .agg [.lit (.string (letters k)), .agg [.lit (.int .i64 (tk0 k)), .lit (.int .i64 (tk1 k))], .lit (.int .i64 (mk k)), .lit (.int .i64 (ds k))]
theorem laid_rows {H : Type} : (Rows.laid_turntable_ops_rows : DataW H) = .agg ((List.range 30).map rowD) := by rfl
def bitsTab : List Int := [1, 2, 4, 8, 16, 32, 64, 128, 256, 512, 1024, 2048, 4096, 8192, 16384, 32768]
theorem bitsNamed : Tryz.prog.globalNamed "turntable/shape.slotBits" = some 1 := by kernel_rfl
theorem bitsType : (Tryz.prog.globals[1]?).map (·.type) = some 117 := by kernel_rfl
theorem bitsData : (Rows.laid_turntable_shape_slotBits : DataW Unit) = Lib.tabData .i64 bitsTab := by kernel_rfl
theorem bits_pw : ∀ k, k < 16 -> bitsTab.getD k 0 = L3.pw k := by decide
theorem powType : (Tryz.prog.globals[3]?).map (·.type) = some 143 := by kernel_rfl
theorem powData : (Rows.laid_internal_strconv_uint64pow10 : DataW Unit) = Lib.tabData .u64 Lib.pow10Tab := by kernel_rfl
section
variable {H : Type} {enc : TypeId × Value -> H} {W : World} {base : Nat} {sp : Nat -> Bool} {held : Bool}
theorem five {cs : List Value} (h : cs.length = 5) : ∃ a b c d e, cs = [a, b, c, d, e] := by
  match cs, h with
  | [a, b, c, d, e], _ => exact ⟨a, b, c, d, e, rfl⟩
theorem str_of {s : ByteArray} {bs : List UInt8} (h : s.data.toList = bs) : s = ⟨bs.toArray⟩ := by
  subst h; rfl
theorem row_cells {fuel k : Nat} {cs : List Value} {p : List MemPlace} (h : DataW.trod enc Tryz.prog W base sp held fuel 88 cs = some (rowD k, p)) :
    cs = [.string (word k), .int .i64 (tk0 k), .int .i64 (tk1 k), .int .i64 (mk k), .int .i64 (ds k)] := by
  obtain ⟨xs, n, _, hx, hl, hlen, hf⟩ := DataW.trod_struct Tryz.underlying88 h
  obtain ⟨v0, v1, v2, v3, v4, rfl⟩ := five (hl.trans lc88)
  match xs, hlen with
  | [y0, y1, y2, y3], _ =>
    have h0 : DataW.trod enc Tryz.prog W base sp held n 9 ([v0, v1, v2, v3, v4].take (Tryz.prog.cellsOf 9)) = some y0 := hf 0 _ rfl
    have h1 : DataW.trod enc Tryz.prog W base sp held n 86 ([v1, v2, v3, v4].take (Tryz.prog.cellsOf 86)) = some y1 := hf 1 _ rfl
    have h2 : DataW.trod enc Tryz.prog W base sp held n 3 ([v3, v4].take (Tryz.prog.cellsOf 3)) = some y2 := hf 2 _ rfl
    have h3 : DataW.trod enc Tryz.prog W base sp held n 3 ([v4].take (Tryz.prog.cellsOf 3)) = some y3 := hf 3 _ rfl
    rw [lc9] at h0
    rw [lc86] at h1
    rw [lc3] at h2 h3
    obtain ⟨s, e0, rfl, _⟩ := DataW.trod_string Tryz.underlying9 h0
    obtain ⟨x2, e2, rfl, _⟩ := DataW.trod_int Tryz.underlying3 h2
    obtain ⟨x3, e3, rfl, _⟩ := DataW.trod_int Tryz.underlying3 h3
    obtain ⟨zs, m, _, hz, _, hzl, each⟩ := DataW.trod_array Tryz.underlying86 h1
    match zs, hzl with
    | [z0, z1], _ =>
      have g0 := each 0 (by decide)
      have g1 := each 1 (by decide)
      simp only [lc3] at g0 g1
      simp at g0 g1
      obtain ⟨u0, f0, rfl, _⟩ := DataW.trod_int Tryz.underlying3 g0
      obtain ⟨u1, f1, rfl, _⟩ := DataW.trod_int Tryz.underlying3 g1
      subst hz
      simp [rowD] at hx e0 e2 e3 f0 f1
      obtain ⟨⟨q0, ⟨q1, q2⟩, q3, q4⟩, _⟩ := hx
      subst e0 e2 e3 f0 f1 q1 q2 q3 q4
      rw [str_of q0.symm]
      rfl
end
theorem tabs_of_laid {W : World} (h : laidMetH Tryz.prog laid5 W) : Tb W := by
  rw [MakeChecks.laidMetH_plain _ _ _ (by kernel_rfl)] at h
  obtain ⟨ps, ⟨g8, t8, cs8, f8, p8, q8, _, _, _, _, ⟨g9, t9, cs9, f9, p9, q9, _, _, _, _, ⟨g2, t2, cs2, f2, p2, q2, hg2, ht2, hv2, hd2, ⟨g, t, cs, fuel, p, q, hg, ht, hvar, hd, ⟨g1, t1, cs1, f1, p1, q1, hg1, ht1, hv1, hd1, _, _⟩, _⟩, _⟩, _⟩, _⟩, _, _⟩ := h
  obtain rfl := Option.some.inj (rowsNamed.symm.trans hg)
  obtain rfl := Option.some.inj (rowsType.symm.trans ht)
  rw [laid_rows] at hd
  obtain ⟨xs, n, _, hx, hl, hlen, each⟩ := DataW.trod_array Tryz.underlying115 hd
  have hxs : xs.map (·.1) = (List.range 30).map rowD := by
    have := congrArg Prod.fst hx
    simpa using this.symm
  have key : ∀ k, k < 30 -> (cs.toList.drop (k * 5)).take 5 = [.string (word k), .int .i64 (tk0 k), .int .i64 (tk1 k), .int .i64 (mk k), .int .i64 (ds k)] := by
    intro k hk
    have h1 := each k hk
    rw [lc88] at h1
    obtain ⟨y, hy⟩ : ∃ y, xs[k]? = some y := ⟨_, List.getElem?_eq_getElem (by omega)⟩
    have h2 := congrArg (·[k]?) hxs
    simp [hy, hk] at h2
    rw [hy] at h1
    obtain ⟨d, pl⟩ := y
    simp at h2
    subst h2
    exact row_cells h1
  have cell : ∀ k j v, k < 30 -> j < 5 -> ((cs.toList.drop (k * 5)).take 5)[j]? = some v -> W.cell? ⟨0, k * 5 + j, none⟩ = some v := by
    intro k j v hk hj hv
    have := World.var?_cell hg hvar (k * 5 + j)
    rw [this]
    simpa [List.getElem?_take, List.getElem?_drop, hj] using hv
  refine ⟨?_, ?_, ?_⟩
  · obtain rfl := Option.some.inj (L1.powNamed.symm.trans hg2)
    obtain rfl := Option.some.inj (powType.symm.trans ht2)
    rw [powData] at hd2
    have := Lib.cells_of_tab Tryz.underlying143 Tryz.underlying133 lc133 lc143 hd2
    unfold L1.Tab Lib.TabIs
    rw [hv2, <- this]
  · obtain rfl := Option.some.inj (bitsNamed.symm.trans hg1)
    obtain rfl := Option.some.inj (bitsType.symm.trans ht1)
    rw [bitsData] at hd1
    have hcs := Lib.cells_of_tab Tryz.underlying117 Tryz.underlying3 lc3 lc117 hd1
    have ht : Lib.TabIs Tryz.prog W "turntable/shape.slotBits" .i64 bitsTab := by
      unfold Lib.TabIs
      rw [hv1, <- hcs]
    have hc : ∀ k, k < 16 -> W.cell? ⟨1, k, none⟩ = some (.int .i64 (L3.pw k)) := fun k hk => by
      rw [<- bits_pw k hk]; exact ht.cell bitsNamed k hk
    exact ⟨World.block_lt_of_cell? W _ (hc 0 (by omega)), hc⟩
  refine ⟨World.block_lt_of_cell? W _ (cell 0 0 (.string (word 0)) (by omega) (by omega) (by rw [key 0 (by omega)]; rfl)), fun k hk => ?_⟩
  exact ⟨cell k 0 _ hk (by omega) (by rw [key k hk]; rfl), cell k 1 _ hk (by omega) (by rw [key k hk]; rfl), cell k 2 _ hk (by omega) (by rw [key k hk]; rfl), cell k 3 _ hk (by omega) (by rw [key k hk]; rfl), cell k 4 _ hk (by omega) (by rw [key k hk]; rfl)⟩
theorem door_met (os : Os) (args : Array Value) : laidMetH Tryz.prog laid5 ((World.doorLaid Tryz.prog 400 os).forCall (fun _ _ => 0) ⟨#[], args, []⟩).memory :=
  laidMetH_of_parts3 (fuel := 8) (laidMet_of_run' 8 (by kernel_rfl) (by kernel_rfl)) (by kernel_rfl) (by kernel_rfl)
end Go.Proofs.YtahhbckccdigoaaGreatDoor
