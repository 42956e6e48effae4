/- Layer 7: what Func returns. -/
import Derived.Test.YtahhbckccdigoaaGreatDoorMbAE
import Derived.Test.YtahhbckccdigoaaGreatDoorMbAG
import Derived.Test.YtahhbckccdigoaaGreatDoorMbAW
import Derived.Test.YtahhbckccdigoaaGreatDoorMbAX
set_option maxHeartbeats 8000000
set_option maxRecDepth 20000
namespace Go.Proofs.YtahhbckccdigoaaGreatDoor
open Go Go.RowKit
open G (Tok Er Ins Fun)
def lineW (x : Ins) : List (List UInt8) := [[32, 32], insT x, [10]]
theorem blkW_line (k : Nat) (b : List Ins) : blkW k b = [labW (k : Int), [58, 10]] ++ b.flatMap lineW := rfl
theorem blksW_app (a b : List (List Ins)) : ∀ k, blksW k (a ++ b) = blksW k a ++ blksW (k + a.length) b := by
  induction a with
  | nil => intro k; simp [blksW]
  | cons x r ih =>
    intro k
    simp only [List.cons_append, blksW, List.length_cons]
    rw [ih, List.append_assoc, show k + 1 + r.length = k + (r.length + 1) by omega]
theorem blksW_len (l : List (List Ins)) (j : Nat) (b : List Ins) (i : Nat) (h : l[j]? = some b) : (blksW 0 (l.take j)).length + ((b.take i).flatMap lineW).length + 2 <= (blksW 0 l).length := by
  have h1 := blksW_take l 0 j b h
  have h2 := blksW_app (l.take (j + 1)) (l.drop (j + 1)) 0
  rw [List.take_append_drop] at h2
  rw [h2, h1, blkW_line, List.length_append, List.length_append, List.length_append]
  have h3 : b.flatMap lineW = (b.take i).flatMap lineW ++ (b.drop i).flatMap lineW := by rw [<- List.flatMap_append, List.take_append_drop]
  rw [h3, List.length_append]
  simp
  omega
theorem line_take (b : List Ins) (j : Nat) (x : Ins) (h : b[j]? = some x) : (b.take (j + 1)).flatMap lineW = (b.take j).flatMap lineW ++ [[32, 32], insT x, [10]] := by
  rw [List.take_add_one, h]; simp [lineW]
theorem insT_len {x : Ins} (h : Fin7 x) : (insT x).length <= 3000000 := by
  obtain ⟨h1, h2⟩ := insW_small h
  unfold insT
  rw [jn_len]
  have := lens_le (insW x) 1000 h2
  simp
  omega
theorem three_lit {w : World} {s t u : List UInt8} : SlS (w.alloc (.cells #[.string (bs s), .string (bs t), .string (bs u)] 9)) (.slice (some ⟨w.heap.size, 0, none⟩) 3 3) [s, t, u] := by
  refine .inr ⟨_, _, rfl, fun j v hj => ?_⟩
  match j, hj with
  | 0, hj => simp at hj; subst hj; simp [Addr.add]
  | 1, hj => simp at hj; subst hj; simp [Addr.add]
  | 2, hj => simp at hj; subst hj; simp [Addr.add]
theorem seven_lit {w : World} {a b c : List UInt8} : SlS (w.alloc (.cells #[.string ⟨#[102, 117, 110, 99, 32]⟩, .string (bs a), .string ⟨#[40]⟩, .string (bs b), .string ⟨#[41, 32]⟩, .string (bs c), .string ⟨#[32, 123, 10]⟩] 9)) (.slice (some ⟨w.heap.size, 0, none⟩) 7 7) [[102, 117, 110, 99, 32], a, [40], b, [41, 32], c, [32, 123, 10]] := by
  refine .inr ⟨_, _, rfl, fun j v hj => ?_⟩
  match j, hj with
  | 0, hj => simp at hj; subst hj; simp [Addr.add]; rfl
  | 1, hj => simp at hj; subst hj; simp [Addr.add]
  | 2, hj => simp at hj; subst hj; simp [Addr.add]; rfl
  | 3, hj => simp at hj; subst hj; simp [Addr.add]
  | 4, hj => simp at hj; subst hj; simp [Addr.add]; rfl
  | 5, hj => simp at hj; subst hj; simp [Addr.add]
  | 6, hj => simp at hj; subst hj; simp [Addr.add]; rfl
theorem InsR.val {w : World} {x : Ins} {g o : Nat} (h : InsR w x g o) : ∃ ao to ca ct, InsV w x (.agg #[.int .i64 x.1, .int .i64 x.2.1, .int .i64 x.2.2.1, .int .i64 x.2.2.2.1, .slice ao x.2.2.2.2.1.length ca, .slice to x.2.2.2.2.2.1.length ct, .string (bs x.2.2.2.2.2.2.1), .int .i64 x.2.2.2.2.2.2.2]) /\
    w.cell? ⟨g, o, none⟩ = some (.int .i64 x.1) /\ w.cell? ⟨g, o + 1, none⟩ = some (.int .i64 x.2.1) /\ w.cell? ⟨g, o + 2, none⟩ = some (.int .i64 x.2.2.1) /\ w.cell? ⟨g, o + 3, none⟩ = some (.int .i64 x.2.2.2.1) /\
    w.cell? ⟨g, o + 4, none⟩ = some (.slice ao x.2.2.2.2.1.length ca) /\ w.cell? ⟨g, o + 5, none⟩ = some (.slice to x.2.2.2.2.2.1.length ct) /\ w.cell? ⟨g, o + 6, none⟩ = some (.string (bs x.2.2.2.2.2.2.1)) /\ w.cell? ⟨g, o + 7, none⟩ = some (.int .i64 x.2.2.2.2.2.2.2) := by
  obtain ⟨hg, va, vt, h1, ⟨ao, ca, rfl, a1, a2, a3⟩, ⟨to, ct, rfl, t1, t2, t3⟩⟩ := h
  exact ⟨ao, to, ca, ct, ⟨ao, to, ca, ct, rfl, a1, t1, a2, a3, t2, t3⟩, h1 0 _ rfl, h1 1 _ rfl, h1 2 _ rfl, h1 3 _ rfl, h1 4 _ rfl, h1 5 _ rfl, h1 6 _ rfl, h1 7 _ rfl⟩
def FinF (f : Fun) : Prop := f.1.length <= 1000 /\ f.2.1.length <= 1000 /\ (blksW 0 f.2.2.2.1).length <= 900000 /\ ∀ b ∈ f.2.2.2.1, ∀ x ∈ b, Fin7 x
theorem jn_short {sep : List UInt8} {l : List (List UInt8)} {m : Nat} (h : ∀ x ∈ l, x.length <= m) (hs : sep.length <= 1) : (jn sep l).length <= l.length * (m + 1) := by
  rw [jn_len]
  have := lens_le l m h
  have h2 : sep.length * (l.length - 1) <= 1 * (l.length - 1) := Nat.mul_le_mul_right _ hs
  rw [Nat.mul_add]
  omega
theorem mem_blksW {s : List UInt8} : ∀ (l : List (List Ins)) (k : Nat), s ∈ blksW k l -> (∃ j : Nat, j < k + l.length /\ s = labW (j : Int)) \/ s = [58, 10] \/ s = [32, 32] \/ s = [10] \/ ∃ b ∈ l, ∃ x ∈ b, s = insT x := by
  intro l
  induction l with
  | nil => intro k h; simp [blksW] at h
  | cons b r ih =>
    intro k h
    rw [blksW, blkW_line, List.mem_append, List.mem_append] at h
    rcases h with (h | h) | h
    . simp at h
      rcases h with rfl | rfl
      . exact .inl ⟨k, by simp, rfl⟩
      . exact .inr (.inl rfl)
    . rw [List.mem_flatMap] at h
      obtain ⟨x, hx, h⟩ := h
      simp [lineW] at h
      rcases h with rfl | rfl | rfl
      . exact .inr (.inr (.inl rfl))
      . exact .inr (.inr (.inr (.inr ⟨b, by simp, x, hx, rfl⟩)))
      . exact .inr (.inr (.inr (.inl rfl)))
    . rcases ih (k + 1) h with ⟨j, hj, e⟩ | h | h | h | ⟨b2, hb, x, hx, e⟩
      . exact .inl ⟨j, by simp; omega, e⟩
      . exact .inr (.inl h)
      . exact .inr (.inr (.inl h))
      . exact .inr (.inr (.inr (.inl h)))
      . exact .inr (.inr (.inr (.inr ⟨b2, by simp [hb], x, hx, e⟩)))
theorem blks_count (l : List (List Ins)) : ∀ k, 2 * l.length <= (blksW k l).length := by
  induction l with
  | nil => intro k; simp
  | cons b r ih =>
    intro k
    have := ih (k + 1)
    rw [blksW, blkW_line, List.length_append, List.length_append]
    simp
    omega
theorem funW_small {f : Fun} (h : FinF f) : ∀ s ∈ funW f, s.length <= 67108864 := by
  obtain ⟨h1, h2, h3, h4⟩ := h
  intro s hs
  unfold funW headW at hs
  rw [List.mem_append, List.mem_append] at hs
  rcases hs with (hs | hs) | hs
  . simp only [List.mem_cons, List.not_mem_nil, or_false] at hs
    have hp : (parT f.2.1).length <= (f.2.1.map letL).length * (1 + 1) := jn_short (fun x hx => by
      simp only [List.mem_map] at hx
      obtain ⟨t, _, rfl⟩ := hx
      exact letL_len t) (by simp)
    have hl := letL_len f.2.2.1
    rw [List.length_map] at hp
    rcases hs with rfl | rfl | rfl | rfl | rfl | rfl | rfl <;> first | (simp; done) | omega
  . have hc := blks_count f.2.2.2.1 0
    rcases mem_blksW _ _ hs with ⟨j, hj, rfl⟩ | rfl | rfl | rfl | ⟨b, hb, x, hx, rfl⟩
    . have := lab_len (n := (j : Int)) ⟨by omega, by omega⟩
      omega
    . simp
    . simp
    . simp
    . have := insT_len (h4 b hb x hx)
      omega
  . simp at hs; subst hs; simp
theorem head_all {w : World} (c : Nat) (a0 a1 a2 a3 a4 : Value) (h : w.heap[c]? = some (.cells #[a0, a1, a2, a3, a4] 34 (0, 0))) {w' : World} (b : Below w.heap.size w w') : w'.heap[c]? = some (.cells #[a0, a1, a2, a3, a4] 34 (0, 0)) :=
  (b.block c (Array.getElem?_eq_some_iff.1 h).1).trans h
theorem func_try (nm : List UInt8) (ps : List Int) (rt pl : Int) (bl : List (List Ins)) (ao bo : Option Addr) (c cb : Nat) (w : World) (hs : Sl w ao ps) (hb : BlksR w bl (.slice bo bl.length cb)) (ht : Tb w) (hF : FinF (nm, ps, rt, bl, pl)) :
    Calls Tryz.prog 10 #[.agg #[.string (bs nm), .slice ao ps.length c, .int .i64 rt, .slice bo bl.length cb, .int .i64 pl]] w fun e w' => e = .returned (.string (bs (funT (nm, ps, rt, bl, pl)))) /\ Below w.heap.size w w' := by
  obtain ⟨f1, f2, f3, f4⟩ := hF
  dsimp only at f1 f2 f3 f4
  have h3 : 3 < w.heap.size := ht.1.lt
  have b0 := below_box w (o5 nm rt pl ao bo ps.length bl.length c cb)
  have H0 := hide (heap_alloc_new w (o5 nm rt pl ao bo ps.length bl.length c cb))
  have T0 := hide (ht.below b0)
  have A0 := hide (hs.below b0)
  have hz0 : (w.alloc (o5 nm rt pl ao bo ps.length bl.length c cb)).heap.size > w.heap.size := by simp
  have B0 := hide b0
  have HBl := hide hb
  have HT0 := hide ht
  have F4 := hide f4
  have HSM := hide (funW_small (f := (nm, ps, rt, bl, pl)) ⟨f1, f2, f3, f4⟩)
  clear b0 ht hs hb f4
  go_enter Tryz.func10, Tryz.ntmps10
  go_upto_region 1 with fail
  show Code.wp _ _ _ _ (w.alloc (o5 nm rt pl ao bo ps.length bl.length c cb))
  generalize w.alloc (o5 nm rt pl ao bo ps.length bl.length c cb) = W at *
  go_wp2_with fail
  refine (pen_any ⟨#[]⟩ W).mono ?_; rintro e w1 ⟨rfl, rfl⟩
  obtain ⟨p1, s1, b1, z1⟩ := pen_new W []
  have P1 := hide p1
  have S1 := hide s1
  have B1 := hide b1
  have H1 := hide ((b1.block _ (by omega)).trans H0.out)
  have T1 := hide (T0.out.below b1)
  have A1 := hide (A0.out.below b1)
  have hsep : (⟨#[]⟩ : ByteArray) = bs [] := rfl
  rw [hsep]
  clear p1 s1 b1 hsep
  generalize (W.alloc (.cells #[.string (bs [])] 9)).alloc (.cells #[.slice none 0 0] 83) = W1 at *
  obtain ⟨c0, c1, c2, c3, c4⟩ := box5 H1.out
  have hW1B : W.heap.size + 1 <= W1.heap.size := by omega
  have hsz7 : ([] : List (List UInt8)).length + [[102, 117, 110, 99, 32], nm, [40], parT ps, [41, 32], letL rt, [32, 123, 10]].length <= 1000000 := by simp
  replace hsz7 := hide hsz7
  go_wp2_with fail
  go_region_held3 (fun w' => w'.cell? ⟨w.heap.size, 0, none⟩ = some (.string (bs nm)) /\ w'.cell? ⟨w.heap.size, 1, none⟩ = some (.slice ao ps.length c) /\ w'.cell? ⟨w.heap.size, 2, none⟩ = some (.int .i64 rt) /\ w'.cell? ⟨w.heap.size, 3, none⟩ = some (.slice bo bl.length cb) /\ w'.cell? ⟨w.heap.size, 4, none⟩ = some (.int .i64 pl))
    (first
      | (go_keep; done)
      | (go_split_ands; assumption))
    ((first
      | (go_at_call 26; refine (sparams_any nm ps rt pl bl ao bo c cb _ ?_ f2).mono ?_; exact A1.out; rintro e w2 ⟨rfl, b2⟩; have B2 := hide (undrew b2); obtain ⟨e0, e1, e2, e3, e4⟩ := box5 (head_all _ _ _ _ _ _ H1.out B2.out); clear b2)
      | (go_at_call 27; refine (letter_w rt _).mono ?_; rintro e w3 ⟨rfl, rfl⟩)
      | (go_at_call 60; refine (put_any (W.heap.size + 1) (W.heap.size + 1) [] [[102, 117, 110, 99, 32], nm, [40], parT ps, [41, 32], letL rt, [32, 123, 10]] _ _ ?_ seven_lit hsz7.out ?_).mono ?_; exact P1.out.below (below_step B2.out (below_box _ _)); exact Nat.le_trans hW1B (below_step B2.out (below_box _ _)).size; rintro e w4 ⟨rfl, p4, k4⟩; have P4 := hide p4; have K4 := hide ((Kb.of_below (below_step B2.out (below_box _ _)) hW1B).trans k4); clear p4 k4; obtain ⟨g0, g1, g2, g3, g4⟩ := box5 (K4.out.2 _ _ _ _ H1.out (by decide) (by decide)))))
  all_goals
    clear c0 c1 c2 c3 c4 e0 e1 e2 e3 e4
    have P4' : Hid (Pen (W.heap.size + 1) (W.heap.size + 1) (headW (nm, ps, rt, bl, pl) ++ blksW 0 (bl.take 0)) w4) := hide (by simpa [headW, blksW] using P4.out)
    clear P4 B2
    have hcb : bl.length <= cb /\ cb <= maxLen := by
      obtain ⟨ao', c', e, h1, h2, _⟩ := HBl.out
      injection e with e1 e2 e3
      subst e3
      exact ⟨h1, h2⟩
    unfold maxLen at hcb
    have hfar : Hid (∀ wr, Kb (W.heap.size + 1) W1 wr -> Below w.heap.size w wr) := hide fun wr k => B0.out.trans ((B1.out.mono (by omega)).trans (k.1.mono (by omega)))
    go_wp2_with fail
    go_loopw [26] (fun i wr => ∃ K : Nat, K <= bl.length /\ i = .int .i64 K /\ Hid (Pen (W.heap.size + 1) (W.heap.size + 1) (headW (nm, ps, rt, bl, pl) ++ blksW 0 (bl.take K)) wr) /\ Hid (Kb (W.heap.size + 1) W1 wr)) (fun i _ => bl.length - (intOf i).toNat)
    case atStart => exact ⟨0, Nat.zero_le _, rfl, P4', K4⟩
    case round =>
      obtain ⟨K, hK, rfl, PK, KK⟩ := hrel
      have hzk := KK.out.size
      have hhd : (headW (nm, ps, rt, bl, pl)).length = 7 := rfl
      by_cases hkt : K < bl.length
      . obtain ⟨b, hbK⟩ : ∃ b, bl[K]? = some b := ⟨bl[K], List.getElem?_eq_some_iff.2 ⟨hkt, rfl⟩⟩
        obtain ⟨ao', c', eq', hh1, hh2, hh3⟩ := HBl.out
        injection eq' with e1 e2 e3
        subst e1 e3
        rcases hh3 with hh3 | ⟨gb, ob, rfl, hgb, hbl⟩
        . subst hh3; simp at hkt
        obtain ⟨vk, kd, kk⟩ := hbl K b hbK
        have kd' := ((hfar.out wr KK.out).cell (p := ⟨gb, ob + K, none⟩) hgb).trans kd
        obtain ⟨aok, capk, rfl, lk1, lk2, kins⟩ := kk
        have LEN := hide (fun i => blksW_len bl K b i hbK)
        have HTK := hide (blksW_take bl 0 K b hbK)
        have HFb := hide (F4.out b (List.mem_of_getElem? hbK))
        have KI := hide kins
        have hkI : (K : Int) < bl.length := by omega
        have TK := hide (HT0.out.below (hfar.out wr KK.out))
        have iK : I64 (K : Int) := ⟨by omega, by omega⟩
        unfold maxLen at lk2
        clear kins kd hbl hbK hh1 hh2
        go_wp2_with fail
        refine (label_w K wr iK TK.out.1).mono ?_; rintro e w5 ⟨rfl, b5⟩
        have B5 := hide (below_step b5 (below_box w5 (.cells #[.string (bs (labW (K : Int))), .string (bs [58, 10])] 9)))
        have hz5 := B5.out.size
        have h58 : (⟨#[58, 10]⟩ : ByteArray) = bs [58, 10] := rfl
        have hl0 := LEN.out 0
        have hput : (headW (nm, ps, rt, bl, pl) ++ blksW 0 (bl.take K)).length + [labW (K : Int), [58, 10]].length <= 1000000 := by rw [List.length_append, hhd]; simp; omega
        replace hput := hide hput
        clear b5
        go_wp2_with fail
        refine (put_any (W.heap.size + 1) (W.heap.size + 1) _ [labW (K : Int), [58, 10]] _ _ (PK.out.below B5.out) two_lit hput.out (by omega)).mono ?_; rintro e w6 ⟨rfl, p6, k6⟩
        have K6 := hide ((KK.out.step B5.out (by omega)).trans k6)
        have P6 : Hid (Pen (W.heap.size + 1) (W.heap.size + 1) (headW (nm, ps, rt, bl, pl) ++ blksW 0 (bl.take K) ++ [labW (K : Int), [58, 10]] ++ (b.take 0).flatMap lineW) w6) := hide (by simpa using p6)
        clear p6 k6 h58 B5 PK
        go_wp2_with fail
        go_loopw [38] (fun i wr => ∃ J : Nat, J <= b.length /\ i = .int .i64 J /\ Hid (Pen (W.heap.size + 1) (W.heap.size + 1) (headW (nm, ps, rt, bl, pl) ++ blksW 0 (bl.take K) ++ [labW (K : Int), [58, 10]] ++ (b.take J).flatMap lineW) wr) /\ Hid (Kb (W.heap.size + 1) W1 wr)) (fun i _ => b.length - (intOf i).toNat)
        case atStart => exact ⟨0, Nat.zero_le _, rfl, P6, K6⟩
        case round =>
          obtain ⟨J, hJ, rfl, PJ, KJ⟩ := hrel
          have hzj := KJ.out.size
          by_cases hjt : J < b.length
          . obtain ⟨y, hyJ⟩ : ∃ y, b[J]? = some y := ⟨b[J], List.getElem?_eq_some_iff.2 ⟨hjt, rfl⟩⟩
            rcases KI.out with hh | ⟨gi, oi, rfl, hin⟩
            . subst hh; simp at hjt
            have hfr := hide (hfar.out _ KJ.out)
            obtain ⟨aoy, toy, cay, cty, hv, m0, m1, m2, m3, m4, m5, m6, m7⟩ := ((hin J y hyJ).below hfr.out).val
            have HV := hide hv
            have HFy := hide (HFb.out y (List.mem_of_getElem? hyJ))
            have HLN := hide (line_take b J y hyJ)
            have hjI : (J : Int) < b.length := by omega
            have TJ := hide (HT0.out.below hfr.out)
            have hlJ := LEN.out (J + 1)
            rw [HLN.out, List.length_append] at hlJ
            simp only [List.length_cons, List.length_nil] at hlJ
            have hput : (headW (nm, ps, rt, bl, pl) ++ blksW 0 (bl.take K) ++ [labW (K : Int), [58, 10]] ++ (b.take J).flatMap lineW).length + [[32, 32], insT y, [10]].length <= 1000000 := by
              rw [List.length_append, List.length_append, List.length_append, hhd]; simp only [List.length_cons, List.length_nil]; omega
            replace hput := hide hput
            have hti := insT_len HFy.out
            obtain ⟨op, id, nn, ty, ar, tt, na, pp⟩ := y
            dsimp only at HV m0 m1 m2 m3 m4 m5 m6 m7
            clear hin hyJ hv hlJ
            have B7 := hide (below_box wr (.cells #[.int .i64 op, .int .i64 id, .int .i64 nn, .int .i64 ty, .slice aoy ar.length cay, .slice toy tt.length cty, .string (bs na), .int .i64 pp] 39))
            go_wp2_with fail
            refine (sinstr_any (op, id, nn, ty, ar, tt, na, pp) _ _ (HV.out.below B7.out) HFy.out (TJ.out.below B7.out)).mono ?_; rintro e w7 ⟨rfl, b7⟩
            have hti := insT_len HFy.out
            generalize insT (op, id, nn, ty, ar, tt, na, pp) = txt at *
            have B8 := hide (below_step (below_step B7.out b7) (below_box w7 (.cells #[.string (bs [32, 32]), .string (bs txt), .string (bs [10])] 9)))
            have hz8 := B8.out.size
            have h32 : (⟨#[32, 32]⟩ : ByteArray) = bs [32, 32] := rfl
            have h10 : (⟨#[10]⟩ : ByteArray) = bs [10] := rfl
            clear m0 m1 m2 m3 m4 m5 m6 m7 b7
            go_wp2_with fail
            refine (put_any (W.heap.size + 1) (W.heap.size + 1) _ [[32, 32], txt, [10]] _ _ (PJ.out.below B8.out) three_lit hput.out (by omega)).mono ?_; rintro e w9 ⟨rfl, p9, k9⟩
            have K9 := hide ((KJ.out.step B8.out (by omega)).trans k9)
            have P9 : Hid (Pen (W.heap.size + 1) (W.heap.size + 1) (headW (nm, ps, rt, bl, pl) ++ blksW 0 (bl.take K) ++ [labW (K : Int), [58, 10]] ++ (b.take (J + 1)).flatMap lineW) w9) := hide (by rw [HLN.out]; simpa using p9)
            clear p9 k9 h32 h10
            go_wp2_with fail
            go_roundw
            case rel => exact ⟨J + 1, by omega, by go_num, P9, K9⟩
            case measure => simp [intOf]; omega
          . obtain rfl : J = b.length := by omega
            have PN : Hid (Pen (W.heap.size + 1) (W.heap.size + 1) (headW (nm, ps, rt, bl, pl) ++ blksW 0 (bl.take (K + 1))) _) := hide (by
              have := PJ.out
              rw [List.take_length] at this
              rw [HTK.out, Nat.zero_add, blkW_line]
              simpa using this)
            clear PJ
            go_wp2_with fail
            go_roundw
            case rel => exact ⟨K + 1, by omega, by go_num, PN, KJ⟩
            case measure => simp [intOf]; omega
      . obtain rfl : K = bl.length := by omega
        have B5 := hide (below_box wr (.cells #[.string (bs [125, 10])] 9))
        have hz5 := B5.out.size
        have h125 : (⟨#[125, 10]⟩ : ByteArray) = bs [125, 10] := rfl
        have PF : Hid (Pen (W.heap.size + 1) (W.heap.size + 1) (headW (nm, ps, rt, bl, pl) ++ blksW 0 bl) wr) := hide (by have := PK.out; rwa [List.take_length] at this)
        have hput : (headW (nm, ps, rt, bl, pl) ++ blksW 0 bl).length + [[(125 : UInt8), 10]].length <= 1000000 := by rw [List.length_append, hhd]; simp only [List.length_cons, List.length_nil]; omega
        replace hput := hide hput
        clear PK
        go_wp2_with fail
        refine (put_any (W.heap.size + 1) (W.heap.size + 1) _ [[125, 10]] _ _ (PF.out.below B5.out) one_lit hput.out (by omega)).mono ?_; rintro e w6 ⟨rfl, p6, k6⟩
        have K6 := hide ((KK.out.step B5.out (by omega)).trans k6)
        have P6 : Hid (Pen (W.heap.size + 1) (W.heap.size + 1) (funW (nm, ps, rt, bl, pl)) w6) := hide p6
        have C6 := hide (cell9 ((K6.out.1.block W.heap.size (by omega)).trans S1.out))
        have hz6 := K6.out.size
        clear p6 k6 h125
        go_wp2_with fail
        refine (text_any' [] _ _ _ W.heap.size w6 P6.out C6.out ?_ ?_ (by simp)).mono ?_
        . show (headW (nm, ps, rt, bl, pl) ++ blksW 0 bl ++ [[125, 10]]).length <= 1048576
          rw [List.length_append]
          have := hput.out
          simp only [List.length_cons, List.length_nil] at this ⊢
          omega
        . exact HSM.out
        rintro e w7 ⟨rfl, b7⟩
        have b8 := (hfar.out w6 K6.out).trans (b7.mono (by have := (hfar.out w6 K6.out).size; exact this))
        go_wp2_with fail
        go_ret
        exact ⟨rfl, b8⟩
end Go.Proofs.YtahhbckccdigoaaGreatDoor
namespace Go.Proofs.YtahhbckccdigoaaGreatDoor
open Go Go.RowKit
open G (Tok Er Ins Fun)
theorem func_any (f : Fun) (v : Value) (w : World) (h : FunV w f v) (hF : FinF f) (ht : Tb w) : Calls Tryz.prog 10 #[v] w fun e w' => e = .returned (.string (bs (funT f))) /\ Below w.heap.size w w' := by
  obtain ⟨nm, ps, rt, bl, pl⟩ := f
  obtain ⟨vp, vb, rfl, ⟨ao, c, rfl, h1, _⟩, h2⟩ := h
  have h2' := h2
  obtain ⟨bo, cb, rfl, _⟩ := h2
  exact func_try nm ps rt pl bl ao bo c cb w h1 h2' ht hF
theorem FunR.val {w : World} {f : Fun} {g o : Nat} (h : FunR w f g o) : ∃ ao bo c cb, FunV w f (.agg #[.string (bs f.1), .slice ao f.2.1.length c, .int .i64 f.2.2.1, .slice bo f.2.2.2.1.length cb, .int .i64 f.2.2.2.2]) /\
    w.cell? ⟨g, o, none⟩ = some (.string (bs f.1)) /\ w.cell? ⟨g, o + 1, none⟩ = some (.slice ao f.2.1.length c) /\ w.cell? ⟨g, o + 2, none⟩ = some (.int .i64 f.2.2.1) /\ w.cell? ⟨g, o + 3, none⟩ = some (.slice bo f.2.2.2.1.length cb) /\ w.cell? ⟨g, o + 4, none⟩ = some (.int .i64 f.2.2.2.2) := by
  obtain ⟨hg, va, vt, h1, h2, h3⟩ := h
  have h2' := h2
  have h3' := h3
  obtain ⟨ao, c, rfl, _⟩ := h2
  obtain ⟨bo, cb, rfl, _⟩ := h3
  exact ⟨ao, bo, c, cb, ⟨_, _, rfl, h2', h3'⟩, h1 0 _ rfl, h1 1 _ rfl, h1 2 _ rfl, h1 3 _ rfl, h1 4 _ rfl⟩
def FinP (p : List Fun) : Prop := p.length <= 1000 /\ ∀ f ∈ p, FinF f /\ (funT f).length <= 67108864
theorem prog_text (p : List Fun) (ao : Option Addr) (c : Nat) (w : World) (hp : ProgR w p (.slice ao p.length c)) (ht : Tb w) (hF : FinP p) :
    Calls Tryz.prog 14 #[.agg #[.slice ao p.length c]] w fun e w' => e = .returned (.string (bs (progT p))) /\ Below w.heap.size w w' := by
  obtain ⟨f1, f2⟩ := hF
  have h3 : 3 < w.heap.size := ht.1.lt
  have b0 := below_box w (.cells #[.slice ao p.length c] 24)
  have H0 := hide (heap_alloc_new w (.cells #[.slice ao p.length c] 24))
  have hz0 : (w.alloc (.cells #[.slice ao p.length c] 24)).heap.size > w.heap.size := by simp
  have B0 := hide b0
  have HP := hide hp
  have HT0 := hide ht
  have F2 := hide f2
  clear b0 ht hp f2
  go_enter Tryz.func14, Tryz.ntmps14
  go_upto_region 1 with fail
  show Code.wp _ _ _ _ (w.alloc (.cells #[.slice ao p.length c] 24))
  generalize w.alloc (.cells #[.slice ao p.length c] 24) = W at *
  go_wp2_with fail
  refine (pen_any ⟨#[]⟩ W).mono ?_; rintro e w1 ⟨rfl, rfl⟩
  obtain ⟨p1, s1, b1, z1⟩ := pen_new W []
  have P1 := hide p1
  have S1 := hide s1
  have B1 := hide b1
  have H1 := hide ((b1.block _ (by omega)).trans H0.out)
  have hsep : (⟨#[]⟩ : ByteArray) = bs [] := rfl
  rw [hsep]
  clear p1 s1 b1 hsep
  generalize (W.alloc (.cells #[.string (bs [])] 9)).alloc (.cells #[.slice none 0 0] 83) = W1 at *
  have c0 := cell9 H1.out
  have hfar : Hid (∀ wr, Kb (W.heap.size + 1) W1 wr -> Below w.heap.size w wr) := hide fun wr k => B0.out.trans ((B1.out.mono (by omega)).trans (k.1.mono (by omega)))
  have hpc : p.length <= c /\ c <= maxLen := by
    obtain ⟨ao', c', e, h1, h2, _⟩ := HP.out
    injection e with e1 e2 e3
    subst e3
    exact ⟨h1, h2⟩
  unfold maxLen at hpc
  go_wp2_with fail
  go_loopw [14] (fun i wr => ∃ K : Nat, K <= p.length /\ i = .int .i64 K /\ Hid (Pen (W.heap.size + 1) (W.heap.size + 1) ((p.take K).map funT) wr) /\ Hid (Kb (W.heap.size + 1) W1 wr)) (fun i _ => p.length - (intOf i).toNat)
  case atStart => exact ⟨0, Nat.zero_le _, rfl, P1, hide (Kb.refl _ _)⟩
  case round =>
    obtain ⟨K, hK, rfl, PK, KK⟩ := hrel
    have hzk := KK.out.size
    by_cases hkt : K < p.length
    . obtain ⟨f, hfK⟩ : ∃ f, p[K]? = some f := ⟨p[K], List.getElem?_eq_some_iff.2 ⟨hkt, rfl⟩⟩
      obtain ⟨ao', c', eq', hh1, hh2, hh3⟩ := HP.out
      injection eq' with e1 e2 e3
      subst e1 e3
      rcases hh3 with hh3 | ⟨gb, ob, rfl, hin⟩
      . subst hh3; simp at hkt
      have hfr := hide (hfar.out _ KK.out)
      obtain ⟨aoy, boy, cy, cby, hv, m0, m1, m2, m3, m4⟩ := ((hin K f hfK).below hfr.out).val
      have HV := hide hv
      have HFf := hide (F2.out f (List.mem_of_getElem? hfK))
      have HTK : Hid ((p.take (K + 1)).map funT = (p.take K).map funT ++ [funT f]) := hide (by rw [List.take_add_one, hfK]; simp)
      have hkI : (K : Int) < p.length := by omega
      have TK := hide (HT0.out.below hfr.out)
      have hput : ((p.take K).map funT).length + [funT f].length <= 1000000 := by simp; omega
      replace hput := hide hput
      obtain ⟨nm, ps, rt, bl, pl⟩ := f
      dsimp only at HV m0 m1 m2 m3 m4
      clear hin hfK hv
      have B7 := hide (below_box wr (.cells #[.string (bs nm), .slice aoy ps.length cy, .int .i64 rt, .slice boy bl.length cby, .int .i64 pl] 34))
      go_wp2_with fail
      refine (func_any (nm, ps, rt, bl, pl) _ _ (HV.out.below B7.out) HFf.out.1 (TK.out.below B7.out)).mono ?_; rintro e w7 ⟨rfl, b7⟩
      generalize funT (nm, ps, rt, bl, pl) = txt at *
      have B8 := hide (below_step (below_step B7.out b7) (below_box w7 (.cells #[.string (bs txt)] 9)))
      have hz8 := B8.out.size
      clear m0 m1 m2 m3 m4 b7
      go_wp2_with fail
      refine (put_any (W.heap.size + 1) (W.heap.size + 1) _ [txt] _ _ (PK.out.below B8.out) one_lit hput.out (by omega)).mono ?_; rintro e w9 ⟨rfl, p9, k9⟩
      have K9 := hide ((KK.out.step B8.out (by omega)).trans k9)
      have P9 : Hid (Pen (W.heap.size + 1) (W.heap.size + 1) ((p.take (K + 1)).map funT) w9) := hide (by rw [HTK.out]; exact p9)
      clear p9 k9
      go_wp2_with fail
      go_roundw
      case rel => exact ⟨K + 1, by omega, by go_num, P9, K9⟩
      case measure => simp [intOf]; omega
    . obtain rfl : K = p.length := by omega
      have PF : Hid (Pen (W.heap.size + 1) (W.heap.size + 1) (p.map funT) wr) := hide (by have := PK.out; rwa [List.take_length] at this)
      have C6 := hide (cell9 ((KK.out.1.block W.heap.size (by omega)).trans S1.out))
      clear PK
      go_wp2_with fail
      refine (text_any' [] _ _ _ W.heap.size wr PF.out C6.out (by simp; omega) ?_ (by simp)).mono ?_
      . intro x hx
        simp only [List.mem_map] at hx
        obtain ⟨f, hf, rfl⟩ := hx
        exact (F2.out f hf).2
      rintro e w7 ⟨rfl, b7⟩
      have b8 := (hfar.out wr KK.out).trans (b7.mono (hfar.out wr KK.out).size)
      go_wp2_with fail
      go_ret
      exact ⟨rfl, b8⟩
end Go.Proofs.YtahhbckccdigoaaGreatDoor
namespace Go.Proofs.YtahhbckccdigoaaGreatDoor
open Go Go.RowKit
open G (Tok Er Ins Fun)
def byd (most n : Int) : Bool := decide (n < 0) || decide (most < n)
theorem beyond1_any (most n : Int) (g : Nat) (w : World) (h : w.cell? ⟨g, 0, none⟩ = some (.int .i64 most)) : Calls Tryz.prog 72 #[.int .i64 n, .pointer (some ⟨g, 0, none⟩)] w fun e w' => e = .returned (.bool (byd most n)) /\ w' = w := by
  by_cases h0 : n < 0
  . have HB : Hid (true = byd most n) := hide (by unfold byd; simp [h0])
    go_enter Tryz.func72, Tryz.ntmps72
    go_wp2_with fail
    go_ret
    exact ⟨L5.ret_bool HB.out, rfl⟩
  . by_cases h1 : most < n
    . have HB : Hid (true = byd most n) := hide (by unfold byd; simp [h1])
      go_enter Tryz.func72, Tryz.ntmps72
      go_wp2_with fail
      go_ret
      exact ⟨L5.ret_bool HB.out, rfl⟩
    . have HB : Hid (false = byd most n) := hide (by unfold byd; simp [h0, h1])
      go_enter Tryz.func72, Tryz.ntmps72
      go_wp2_with fail
      go_ret
      exact ⟨L5.ret_bool HB.out, rfl⟩
theorem beyond_any (most : Int) (w : World) : Calls Tryz.prog 45 #[.int .i64 most] w fun e w' => e = .returned (.func (Fn.func 72) #[] #[.pointer (some ⟨w.heap.size, 0, none⟩)]) /\ w' = w.alloc (.cells #[.int .i64 most] 3) := by
  have hmf := mkF
  go_enter Tryz.func45, Tryz.ntmps45
  go_wp2_with fail
  go_ret
  exact ⟨rfl, rfl⟩
def firstB (most : Int) : List Int -> Int -> Int
  | [], _ => -1
  | t :: r, k => if byd most t then k else firstB most r (k + 1)
theorem firstB_drop (most : Int) (xs : List Int) (k : Nat) (t : Int) (h : xs[k]? = some t) : firstB most (xs.drop k) k = if byd most t then (k : Int) else firstB most (xs.drop (k + 1)) ((k + 1 : Nat) : Int) := by
  have : xs.drop k = t :: xs.drop (k + 1) := by
    obtain ⟨h1, h2⟩ := List.getElem?_eq_some_iff.1 h
    rw [List.drop_eq_getElem_cons h1, h2]
  rw [this]; rfl
theorem firstB_any (most : Int) (l : List Int) : ∀ k : Int, 0 <= k -> (l.any (byd most) = true -> 0 <= firstB most l k) /\ (l.any (byd most) = false -> firstB most l k = -1) := by
  induction l with
  | nil => intro k _; simp [firstB]
  | cons t r ih =>
    intro k hk
    rw [firstB, List.any_cons]
    cases hb : byd most t with
    | true => simp; exact hk
    | false => simpa using ih (k + 1) (by omega)
theorem indexF_any (most : Int) (xs : List Int) (ao : Option Addr) (c g : Nat) (w : World) (hs : Sl w ao xs) (hg : g < w.heap.size) (h : w.cell? ⟨g, 0, none⟩ = some (.int .i64 most)) (hm : xs.length <= maxLen) :
    Calls Tryz.prog 71 #[.slice ao xs.length c, .func (Fn.func 72) #[] #[.pointer (some ⟨g, 0, none⟩)]] w fun e w' => e = .returned (.int .i64 (firstB most xs 0)) /\ Below w.heap.size w w' := by
  have H := hide h
  have X := hide hs
  unfold maxLen at hm
  clear h hs
  go_enter Tryz.func71, Tryz.ntmps71
  go_wp2_with fail
  go_loopw [8] (fun i wr => ∃ k : Nat, i = .int .i64 k /\ k <= xs.length /\ Below w.heap.size w wr /\ Hid (firstB most xs 0 = firstB most (xs.drop k) k)) (fun i _ => xs.length - (intOf i).toNat)
  case atStart => exact ⟨0, rfl, Nat.zero_le _, Below.refl _ _, rfl⟩
  case round =>
    obtain ⟨k, rfl, hk, HB, HF⟩ := hrel
    have HB := hide HB
    by_cases hlt : k < xs.length
    . obtain ⟨t, ht⟩ : ∃ t, xs[k]? = some t := ⟨xs[k], List.getElem?_eq_getElem hlt⟩
      have HS := hide (HF.out.trans (firstB_drop most xs k t ht))
      rcases X.out with he | ⟨b, o, rfl, hb, hc⟩
      . subst he; simp at hlt
      have hcell : wr.cell? ⟨b, o + k, none⟩ = some (.int .i64 t) := (HB.out.cell (p := ⟨b, o + k, none⟩) hb).trans (hc k t ht)
      have hlt' : (k : Int) < xs.length := by omega
      have hcg := hide ((HB.out.cell (p := ⟨g, 0, none⟩) hg).trans H.out)
      clear hc ht
      go_wp2_with fail
      refine (beyond1_any most t g _ hcg.out).mono ?_; rintro e w1 ⟨rfl, rfl⟩
      cases hbt : byd most t with
      | true =>
        have HE := hide (HS.out.trans (if_pos hbt))
        go_wp2_with fail
        go_ret
        exact ⟨by rw [HE.out]; rfl, HB.out⟩
      | false =>
        have HE := hide (HS.out.trans (if_neg (by simp [hbt])))
        go_wp2_with fail
        go_roundw
        case rel => exact ⟨k + 1, by go_num, by omega, HB.out, HE.out⟩
        case measure => simp [intOf]; omega
    . have hk2 : k = xs.length := by omega
      subst hk2
      have HE := hide (HF.out.trans (by rw [List.drop_length]; rfl : _ = (-1 : Int)))
      go_wp2_with fail
      go_ret
      exact ⟨by rw [HE.out]; rfl, HB.out⟩
theorem contains_any (most : Int) (xs : List Int) (ao : Option Addr) (c g : Nat) (w : World) (hs : Sl w ao xs) (hg : g < w.heap.size) (h : w.cell? ⟨g, 0, none⟩ = some (.int .i64 most)) (hm : xs.length <= maxLen) :
    Calls Tryz.prog 44 #[.slice ao xs.length c, .func (Fn.func 72) #[] #[.pointer (some ⟨g, 0, none⟩)]] w fun e w' => e = .returned (.bool (xs.any (byd most))) /\ Below w.heap.size w w' := by
  obtain ⟨f1, f2⟩ := firstB_any most xs 0 (Int.le_refl 0)
  have H := hide h
  have X := hide hs
  have F1 := hide f1
  have F2 := hide f2
  clear h hs f1 f2
  go_enter Tryz.func44, Tryz.ntmps44
  go_wp2_with fail
  refine (indexF_any most xs ao c g _ X.out hg H.out hm).mono ?_; rintro e w1 ⟨rfl, b1⟩
  cases hb : xs.any (byd most) with
  | true =>
    have h1 := F1.out hb
    replace hb := hide hb
    generalize firstB most xs 0 = r at *
    clear F1 F2
    go_wp2_with fail
    go_ret
    exact ⟨L5.ret_bool hb.out.symm, b1⟩
  | false =>
    have h1 := F2.out hb
    rw [h1]
    replace hb := hide hb
    clear F1 F2 h1
    go_wp2_with fail
    go_ret
    exact ⟨L5.ret_bool hb.out.symm, b1⟩
def opOk (k : Int) : Bool := decide (1 <= k) && decide (k <= 29)
theorem operation_any (k : Int) (w : World) : Calls Tryz.prog 39 #[.int .i64 k] w fun e w' => e = .returned (.bool (opOk k)) /\ w' = w := by
  by_cases h1 : 1 <= k
  . by_cases h2 : k <= 29
    . have HB : Hid (true = opOk k) := hide (by simp [opOk, h1, h2])
      go_enter Tryz.func39, Tryz.ntmps39
      go_wp2_with fail
      go_ret
      exact ⟨L5.ret_bool HB.out, rfl⟩
    . have HB : Hid (false = opOk k) := hide (by simp [opOk, h2])
      go_enter Tryz.func39, Tryz.ntmps39
      go_wp2_with fail
      go_ret
      exact ⟨L5.ret_bool HB.out, rfl⟩
  . have HB : Hid (false = opOk k) := hide (by simp [opOk, h1])
    go_enter Tryz.func39, Tryz.ntmps39
    go_wp2_with fail
    go_ret
    exact ⟨L5.ret_bool HB.out, rfl⟩
theorem below_dn1 (w : World) {o : Obj} : Below w.heap.size w (w.drew.alloc o) := by
  have := below_box w.drew o
  exact ⟨this.1, this.2, this.3, this.4, this.5⟩
def numOk (k id ty : Int) : Bool := if L5.imakes k ty = 0 then decide (id = -1) else !byd 1048576 id
theorem numbered_any (k id n ty pl : Int) (ar tt : List Int) (nm : List UInt8) (ao to : Option Addr) (ca ct : Nat) (w : World) (ht : L5.Tab w) : Calls Tryz.prog 41 #[.agg #[.int .i64 k, .int .i64 id, .int .i64 n, .int .i64 ty, .slice ao ar.length ca, .slice to tt.length ct, .string (bs nm), .int .i64 pl]] w fun e w' => e = .returned (.bool (numOk k id ty)) /\ Below w.heap.size w w' := by
  have b0 := below_box w (o8 k id n ty pl ao to ar.length tt.length ca ct nm)
  have H0 := hide (heap_alloc_new w (o8 k id n ty pl ao to ar.length tt.length ca ct nm))
  have T0 := hide (ht.below b0)
  have B0 := hide b0
  have hz0 : (w.alloc (o8 k id n ty pl ao to ar.length tt.length ca ct nm)).heap.size > w.heap.size := by simp
  clear b0 ht
  go_enter Tryz.func41, Tryz.ntmps41
  go_upto_region 1 with fail
  show Code.wp _ _ _ _ (w.alloc (o8 k id n ty pl ao to ar.length tt.length ca ct nm))
  generalize w.alloc (o8 k id n ty pl ao to ar.length tt.length ca ct nm) = W at *
  obtain ⟨c0, c1, c2, c3, c4, c5, c6, c7⟩ := box8 H0.out
  go_wp2_with fail
  refine (L5.makes_any k ty _ _ _ _ _ _ W T0.out).mono ?_; rintro e w1 ⟨rfl, b1⟩
  have B1 := hide b1
  clear c0 c1 c2 c3 c4 c5 c6 c7
  obtain ⟨c0, c1, c2, c3, c4, c5, c6, c7⟩ := box8 ((b1.block _ (by omega)).trans H0.out)
  have hcl : w.heap.size < w1.heap.size := Nat.lt_of_lt_of_le hz0 b1.size
  clear c0 c2 c3 c4 c5 c6 c7 b1
  by_cases hm : L5.imakes k ty = 0
  . have HB : Hid (numOk k id ty = decide (id = -1)) := hide (if_pos hm)
    rw [hm]
    clear hm
    by_cases hid : id = -1
    . subst hid
      go_wp2_with fail
      go_ret
      exact ⟨L5.ret_bool (by rw [HB.out]; rfl), below_step B0.out B1.out⟩
    . have h2 : (id == -1) = false := by simpa using hid
      have HB2 : Hid (false = numOk k id ty) := hide (by rw [HB.out]; simp [hid])
      go_wp2_with fail
      go_ret
      exact ⟨L5.ret_bool HB2.out, below_step B0.out B1.out⟩
  . have HB : Hid (numOk k id ty = !byd 1048576 id) := hide (if_neg hm)
    have h2 : (L5.imakes k ty == 0) = false := by simpa using hm
    generalize L5.imakes k ty = mk at *
    have B2 := hide (below_dn1 w1 (o := .cells #[.int .i64 1048576] 3))
    have G2 : Hid ((w1.alloc (.cells #[.int .i64 1048576] 3)).cell? ⟨w1.heap.size, 0, none⟩ = some (.int .i64 1048576)) := hide (by simp [go_sem])
    have d1 : (w1.alloc (.cells #[.int .i64 1048576] 3)).cell? ⟨w.heap.size, 1, none⟩ = some (.int .i64 id) := ((below_box w1 _).cell (p := ⟨w.heap.size, 1, none⟩) hcl).trans c1
    go_wp2_with fail
    go_region_held3 (fun w' => w'.cell? ⟨w.heap.size, 1, none⟩ = some (.int .i64 id))
      (first
        | (go_keep; done)
        | assumption)
      ((first
        | (go_at_call 45; refine (beyond_any 1048576 _).mono ?_; rintro e w2 ⟨rfl, rfl⟩)
        | (go_at_call 72; refine (beyond1_any 1048576 id w1.heap.size _ ?_).mono ?_; exact G2.out; rintro e w3 ⟨rfl, rfl⟩)))
    all_goals
      go_wp2_with fail
      go_ret
      exact ⟨L5.ret_bool HB.out.symm, below_step B0.out (below_step B1.out B2.out)⟩
end Go.Proofs.YtahhbckccdigoaaGreatDoor
