/- Layer 7: the operands of phis are put. -/
import Derived.Test.YtahhbckccdigoaaGreatDoorMbAW
set_option maxHeartbeats 8000000
set_option maxRecDepth 20000
namespace Go.Proofs.YtahhbckccdigoaaGreatDoor
open Go Go.RowKit
open G (Tok Er Ins Fun)
def pairW (q : Int × Int) : List (List UInt8) := [labW q.1, valW q.2]
theorem undrew {w w' : World} (h : Below w.drew.heap.size w.drew w') : Below w.heap.size w w' := ⟨h.1, h.2, h.3, h.4, h.5⟩
def PhS (c q o q2 o2 j : Nat) (va vt : Value) (x y : Int) (w : World) : Prop := (w.cell? ⟨c, 4, none⟩ = some va /\ w.cell? ⟨c, 5, none⟩ = some vt /\ w.cell? ⟨q, o + j, none⟩ = some (.int .i64 y) /\ w.cell? ⟨q2, o2 + j, none⟩ = some (.int .i64 x)) /\ c < w.heap.size /\ q < w.heap.size /\ q2 < w.heap.size
theorem PhS.below {c q o q2 o2 j : Nat} {va vt : Value} {x y : Int} {w w' : World} (h : PhS c q o q2 o2 j va vt x y w) (b : Below w.heap.size w w') : PhS c q o q2 o2 j va vt x y w' := by
  obtain ⟨⟨h1, h2, h3, h4⟩, h5, h6, h7⟩ := h
  have hs := b.size
  exact ⟨⟨(b.cell (p := ⟨c, 4, none⟩) h5).trans h1, (b.cell (p := ⟨c, 5, none⟩) h5).trans h2, (b.cell (p := ⟨q, o + j, none⟩) h6).trans h3, (b.cell (p := ⟨q2, o2 + j, none⟩) h7).trans h4⟩, by omega, by omega, by omega⟩
theorem PhS.of_kb {B c q o q2 o2 j : Nat} {a0 a1 a2 a3 a4 a5 a6 a7 : Value} {x y : Int} {W w : World} (h : W.heap[c]? = some (.cells #[a0, a1, a2, a3, a4, a5, a6, a7] 39 (0, 0))) (k : Kb B W w) (hW : B <= W.heap.size) (hq : q < B) (hq2 : q2 < B)
    (hy : W.cell? ⟨q, o + j, none⟩ = some (.int .i64 y)) (hx : W.cell? ⟨q2, o2 + j, none⟩ = some (.int .i64 x)) : PhS c q o q2 o2 j a4 a5 x y w := by
  obtain ⟨_, _, c4, c5, _⟩ := box7 (k.2 _ _ _ _ h (by decide) (by decide))
  have hs := k.size
  exact ⟨⟨c4, c5, (k.1.cell (p := ⟨q, o + j, none⟩) hq).trans hy, (k.1.cell (p := ⟨q2, o2 + j, none⟩) hq2).trans hx⟩, by have := (Array.getElem?_eq_some_iff.1 h).1; omega, by omega, by omega⟩
theorem opd_phi (id n ty pl : Int) (ar tt : List Int) (nm : List UInt8) (ao to : Option Addr) (ca ct B b : Nat) (ws : List (List UInt8)) (w : World) (he : tt.length = ar.length) (h1 : 1 <= ar.length) (hR : Rdy B b ws w n ar tt ao to ca) :
    Calls Tryz.prog 34 #[.agg #[.int .i64 20, .int .i64 id, .int .i64 n, .int .i64 ty, .slice ao ar.length ca, .slice to tt.length ct, .string (bs nm), .int .i64 pl], .func (Fn.func 60) #[] #[.pointer (some ⟨b, 0, none⟩)]] w (Puts B b (ws ++ ((tt.zip ar).flatMap pairW)) w) := by
  replace he := hide he
  obtain ⟨hp, ht, hn, ha, hu, ia, it, la, lt, ca', cm, hl, h4⟩ := hR
  have hB : B <= w.heap.size := by have := hp.kb_size; omega
  have b0 := below_box w (o8 20 id n ty pl ao to ar.length tt.length ca ct nm)
  have H0 := hide (heap_alloc_new w (o8 20 id n ty pl ao to ar.length tt.length ca ct nm))
  have P0 := hide (hp.below b0)
  have T0 := hide (ht.below b0)
  have A0 := hide (ha.below (b0.mono hB))
  have U0 := hide (hu.below (b0.mono hB))
  have K0 := hide (Kb.of_below b0 hB)
  have hs0 := b0.size
  clear hp ht ha hu b0
  go_enter Tryz.func34, Tryz.ntmps34
  go_upto_region 1 with fail
  show Code.wp _ _ _ _ (w.alloc (o8 20 id n ty pl ao to ar.length tt.length ca ct nm))
  generalize w.alloc (o8 20 id n ty pl ao to ar.length tt.length ca ct nm) = W at *
  obtain ⟨c0, c2, c4, c5, c6⟩ := box7 H0.out
  have he1 : tt.length <= ar.length := by have := he.out; omega
  have he2 : ar.length <= tt.length := by have := he.out; omega
  have hWB : B <= W.heap.size := by omega
  have hmin : min (tt.length : Int) (ar.length : Int) = ar.length := by omega
  rcases A0.out with hz | ⟨q, o, rfl, hq, hc⟩
  . subst hz; simp at h1
  rcases U0.out with hz | ⟨q2, o2, rfl, hq2, hc2⟩
  . subst hz
    have h3 : ar.length <= 0 := he2
    omega
  have HA := hide hc
  have HU := hide hc2
  have HZ : Hid (∀ j x y, tt[j]? = some x -> ar[j]? = some y -> ((tt.zip ar).take (j + 1)).flatMap pairW = ((tt.zip ar).take j).flatMap pairW ++ [labW x, valW y]) := hide fun j x y hx hy => by
    rw [List.take_add_one, (List.getElem?_zip_eq_some (z := (x, y))).2 ⟨hx, hy⟩]
    simp [pairW]
  have HP : Hid (∀ j, (((tt.zip ar).take j).flatMap pairW).length <= 2000) := hide fun j => by
    rw [List.length_flatMap]
    have : ((tt.zip ar).take j).map (fun a => (pairW a).length) = ((tt.zip ar).take j).map (fun _ => 2) := rfl
    rw [this, List.map_const', List.sum_replicate_nat]
    simp
    omega
  have IA := hide ia
  have IT := hide it
  have cc := hide H0.out
  clear hc hc2 ia it
  go_wp2_with fail
  go_loopw [75] (fun i wr => ∃ j : Nat, j <= ar.length /\ i = .int .i64 j /\ Hid (Pen B b (ws ++ ((tt.zip ar).take j).flatMap pairW) wr) /\ Hid (Kb B W wr)) (fun i _ => ar.length - (intOf i).toNat)
  case atStart => exact ⟨0, Nat.zero_le _, rfl, by simpa using P0, hide (Kb.refl _ _)⟩
  case round =>
    obtain ⟨j, hj, rfl, PJ, KJ⟩ := hrel
    have hws := KJ.out.size
    clear c0 c2 c4 c5 c6
    obtain ⟨c0, c2, c4, c5, c6⟩ := box7 (KJ.out.2 _ _ _ _ H0.out (by decide) (by decide))
    by_cases hjl : j < ar.length
    . obtain ⟨y, hy⟩ : ∃ y, ar[j]? = some y := ⟨_, List.getElem?_eq_getElem hjl⟩
      obtain ⟨x, hx⟩ : ∃ x, tt[j]? = some x := ⟨_, List.getElem?_eq_getElem (by omega)⟩
      have YY := hide (HA.out j y hy)
      have XX := hide (HU.out j x hx)
      have SJ := hide (PhS.of_kb H0.out KJ.out hWB hq hq2 YY.out XX.out)
      have ix : I64 x := IT.out x (List.mem_of_getElem? hx)
      have iy : I64 y := IA.out y (List.mem_of_getElem? hy)
      have TJ := hide (T0.out.of KJ.out.1 h4)
      have HN := hide (HZ.out j x y hx hy)
      have hpl := HP.out j
      have hjt : (j : Int) < tt.length := by omega
      have hja : (j : Int) < ar.length := by omega
      have hj0 : (0 : Int) <= j := by omega
      have hlen2 : (ws ++ ((tt.zip ar).take j).flatMap pairW).length + [labW x, valW y].length <= 1000000 := by rw [List.length_append]; simp only [List.length_cons, List.length_nil]; omega
      have hwrB : B <= wr.heap.size := by omega
      replace hlen2 := hide hlen2
      clear hx hy c0 c2 c6 c4 c5
      obtain ⟨⟨c4, c5, d1, d2⟩, _, _, _⟩ := SJ.out
      go_wp2_with fail
      go_region_held3 (fun w' => w'.cell? ⟨w.heap.size, 4, none⟩ = some (.slice (some ⟨q, o, none⟩) ar.length ca) /\ w'.cell? ⟨w.heap.size, 5, none⟩ = some (.slice (some ⟨q2, o2, none⟩) tt.length ct) /\ w'.cell? ⟨q, o + j, none⟩ = some (.int .i64 y) /\ w'.cell? ⟨q2, o2 + j, none⟩ = some (.int .i64 x))
        (first
          | (go_keep; done)
          | (go_split_ands; assumption))
        ((first
          | (go_at_call 28; refine (label_w x _ ix ?_).mono ?_; (first | exact TJ.out.1 | exact TJ.out.1.below Q3.out); rintro e w2 ⟨rfl, b2⟩; obtain ⟨S2, Q2⟩ : Hid (PhS w.heap.size q o q2 o2 j (.slice (some ⟨q, o, none⟩) ar.length ca) (.slice (some ⟨q2, o2, none⟩) tt.length ct) x y w2) /\ Hid (Below wr.heap.size wr w2) := (by first | exact ⟨hide (SJ.out.below (undrew b2)), hide (undrew b2)⟩ | exact ⟨hide (S3.out.below b2), hide (below_step Q3.out b2)⟩); obtain ⟨⟨e4, e5, ed1, ed2⟩, _, _, _⟩ := S2.out)
          | (go_at_call 32; refine (value_w y _ iy ?_).mono ?_; (first | exact TJ.out.1 | exact TJ.out.1.below Q2.out); rintro e w3 ⟨rfl, b3⟩; obtain ⟨S3, Q3⟩ : Hid (PhS w.heap.size q o q2 o2 j (.slice (some ⟨q, o, none⟩) ar.length ca) (.slice (some ⟨q2, o2, none⟩) tt.length ct) x y w3) /\ Hid (Below wr.heap.size wr w3) := (by first | exact ⟨hide (SJ.out.below (undrew b3)), hide (undrew b3)⟩ | exact ⟨hide (S2.out.below b3), hide (below_step Q2.out b3)⟩); obtain ⟨⟨f4, f5, fd1, fd2⟩, _, _, _⟩ := S3.out)
          | (go_at_call 60; refine (put_any B b _ [labW x, valW y] _ _ ?_ two_lit hlen2.out ?_).mono ?_; (first | exact PJ.out.below (below_step Q3.out (below_box _ _)) | exact PJ.out.below (below_step Q2.out (below_box _ _))); (first | exact Nat.le_trans hwrB (below_step Q3.out (below_box _ _)).size | exact Nat.le_trans hwrB (below_step Q2.out (below_box _ _)).size); rintro e w4 ⟨rfl, p4, k4⟩; have P4 := hide p4; obtain ⟨K4⟩ : Nonempty (Hid (Kb B W w4)) := (by first | exact ⟨hide ((KJ.out.step (below_step Q3.out (below_box _ _)) hwrB).trans k4)⟩ | exact ⟨hide ((KJ.out.step (below_step Q2.out (below_box _ _)) hwrB).trans k4)⟩); have S4 := hide (PhS.of_kb H0.out K4.out hWB hq hq2 YY.out XX.out); obtain ⟨⟨g4, g5, gd1, gd2⟩, _, _, _⟩ := S4.out; clear p4 k4)))
      all_goals
        go_wp2_with fail
        go_roundw
        case rel => exact ⟨j + 1, by omega, by go_num, hide (by rw [HN.out, <- List.append_assoc]; exact P4.out), K4⟩
        case measure => simp [intOf]; omega
    . obtain rfl : j = ar.length := by omega
      have hfull : (tt.zip ar).take ar.length = tt.zip ar := List.take_of_length_le (by simp; omega)
      have PF := hide PJ.out
      rw [hfull] at PF
      clear hfull PJ
      go_wp2_with fail
      exact endP rfl rfl ⟨rfl, PF.out, K0.out.trans KJ.out⟩
end Go.Proofs.YtahhbckccdigoaaGreatDoor
namespace Go.Proofs.YtahhbckccdigoaaGreatDoor
open Go Go.RowKit
open G (Tok Er Ins Fun)
def memOp (k : Int) : Prop := k = 11 \/ k = 12 \/ k = 15 \/ k = 24 \/ k = 13 \/ k = 14
def Fin7 (x : Ins) : Prop := I64 x.2.1 /\ I64 x.2.2.1 /\ (∀ i ∈ x.2.2.2.2.1, I64 i) /\ (∀ i ∈ x.2.2.2.2.2.1, I64 i) /\ x.2.2.2.2.1.length <= 1000 /\ x.2.2.2.2.2.1.length <= 1000 /\ x.2.2.2.2.2.2.1.length <= 1000 /\
  (memOp x.1 -> x.2.2.2.2.1 ≠ []) /\ (x.1 = 20 -> x.2.2.2.2.2.1.length = x.2.2.2.2.1.length /\ 1 <= x.2.2.2.2.1.length)
def InsV (w : World) (x : Ins) (v : Value) : Prop := ∃ ao to ca ct, v = .agg #[.int .i64 x.1, .int .i64 x.2.1, .int .i64 x.2.2.1, .int .i64 x.2.2.2.1, .slice ao x.2.2.2.2.1.length ca, .slice to x.2.2.2.2.2.1.length ct, .string (bs x.2.2.2.2.2.2.1), .int .i64 x.2.2.2.2.2.2.2] /\
  Sl w ao x.2.2.2.2.1 /\ Sl w to x.2.2.2.2.2.1 /\ x.2.2.2.2.1.length <= ca /\ ca <= maxLen /\ x.2.2.2.2.2.1.length <= ct /\ ct <= maxLen
theorem InsV.below {w w' : World} {x : Ins} {v : Value} (h : InsV w x v) (b : Below w.heap.size w w') : InsV w' x v := by
  obtain ⟨ao, to, ca, ct, e, h1, h2, h3⟩ := h
  exact ⟨ao, to, ca, ct, e, h1.below b, h2.below b, h3⟩
theorem zip_pair (tt ar : List Int) : (tt.zip ar).flatMap pairW = (tt.zip ar).flatMap fun q => [labW q.1, valW q.2] := rfl
theorem soperands_any (k id n ty pl : Int) (ar tt : List Int) (nm : List UInt8) (ao to : Option Addr) (ca ct B b : Nat) (ws : List (List UInt8)) (w : World) (hR : Rdy B b ws w n ar tt ao to ca) (hm : memOp k -> ar ≠ []) (hf : k = 20 -> tt.length = ar.length /\ 1 <= ar.length) :
    Calls Tryz.prog 34 #[.agg #[.int .i64 k, .int .i64 id, .int .i64 n, .int .i64 ty, .slice ao ar.length ca, .slice to tt.length ct, .string (bs nm), .int .i64 pl], .func (Fn.func 60) #[] #[.pointer (some ⟨b, 0, none⟩)]] w (Puts B b (ws ++ opdW (k, id, n, ty, ar, tt, nm, pl)) w) := by
  unfold opdW
  dsimp only
  by_cases h1 : k = 1 \/ k = 23 \/ k = 29
  . rw [if_pos h1]; exact opd_num k h1 id n ty pl ar tt nm ao to ca ct B b ws w hR
  rw [if_neg h1]
  by_cases h2 : k = 10
  . subst h2; rw [if_pos rfl]; exact opd_new id n ty pl ar tt nm ao to ca ct B b ws w hR
  rw [if_neg h2]
  by_cases h3 : k = 11 \/ k = 12 \/ k = 15 \/ k = 24 \/ k = 13 \/ k = 14
  . rw [if_pos h3]
    cases ar with
    | nil => exact absurd rfl (hm h3)
    | cons a0 a1 => exact opd_mem k h3 a0 a1 id n ty pl tt nm ao to ca ct B b ws w hR
  rw [if_neg h3]
  by_cases h4 : k = 20
  . subst h4; rw [if_pos rfl, <- zip_pair]; exact opd_phi id n ty pl ar tt nm ao to ca ct B b ws w (hf rfl).1 (hf rfl).2 hR
  rw [if_neg h4]
  by_cases h5 : k = 21
  . subst h5
    rw [if_pos rfl]
    by_cases h6 : n = 0
    . subst h6; rw [if_neg (fun h => h rfl), List.nil_append]; exact opd_call0 id ty pl ar tt nm ao to ca ct B b ws w hR
    . rw [if_pos h6]; exact opd_call1 id n ty pl (by simpa using h6) ar tt nm ao to ca ct B b ws w hR
  rw [if_neg h5]
  exact opd_else k (by omega) id n ty pl ar tt nm ao to ca ct B b ws w hR
theorem word_w (op t : Int) (a b c d e f : Value) (w : World) (ht : L5.Tab w) : Calls Tryz.prog 33 #[.agg #[.int .i64 op, a, b, .int .i64 t, c, d, e, f]] w fun e w' => e = .returned (.string (bs (L5.iword op t).data.toList)) /\ Below w.heap.size w w' := by
  rw [bs_of]; exact L5.word_any op t a b c d e f w ht
theorem iword_len (op t : Int) : (L5.iword op t).data.toList.length <= 9 := by
  have h1 := L5.word_size op
  have h2 := L5.letter_size t
  have e : ∀ s : ByteArray, s.data.toList.length = s.size := fun s => by simp
  rw [e]
  unfold L5.iword
  split
  . rw [ByteArray.size_append, ByteArray.size_append]
    have : (⟨#[46]⟩ : ByteArray).size = 1 := rfl
    omega
  . omega
theorem val_len {n : Int} (h : I64 n) : (valW n).length <= 22 := by have := dig_len h; simp [valW]; omega
theorem lab_len {n : Int} (h : I64 n) : (labW n).length <= 22 := by have := dig_len h; simp [labW]; omega
theorem opdW_small {x : Ins} (h : Fin7 x) : (opdW x).length <= 2002 /\ ∀ s ∈ opdW x, s.length <= 1000 := by
  obtain ⟨h1, h2, h3, h4, h5, h6, h7, h8, h9⟩ := h
  have d1 := dig_len h2
  have v : ∀ l : List Int, (∀ i ∈ l, I64 i) -> ∀ s ∈ l.map valW, s.length <= 1000 := fun l hl s hs => by
    simp only [List.mem_map] at hs
    obtain ⟨i, hi, rfl⟩ := hs
    have := val_len (hl i hi); omega
  have lb : ∀ l : List Int, (∀ i ∈ l, I64 i) -> ∀ s ∈ l.map labW, s.length <= 1000 := fun l hl s hs => by
    simp only [List.mem_map] at hs
    obtain ⟨i, hi, rfl⟩ := hs
    have := lab_len (hl i hi); omega
  unfold opdW
  split
  . exact ⟨by simp, fun s hs => by simp at hs; subst hs; omega⟩
  split
  . exact ⟨by simp, fun s hs => by simp at hs; subst hs; omega⟩
  split
  . refine ⟨by simp; omega, fun s hs => ?_⟩
    rw [List.mem_append, List.mem_append] at hs
    rcases hs with (hs | hs) | hs
    . exact v _ (fun i hi => h3 i (List.mem_of_mem_take hi)) s hs
    . simp at hs; subst hs; omega
    . exact v _ (fun i hi => h3 i (List.mem_of_mem_drop hi)) s hs
  split
  . refine ⟨?_, fun s hs => ?_⟩
    . rw [List.length_flatMap]
      have : ((x.2.2.2.2.2.1.zip x.2.2.2.2.1)).map (fun q => ([labW q.1, valW q.2] : List (List UInt8)).length) = ((x.2.2.2.2.2.1.zip x.2.2.2.2.1)).map (fun _ => 2) := rfl
      rw [this, List.map_const', List.sum_replicate_nat]
      simp
      omega
    . rw [List.mem_flatMap] at hs
      obtain ⟨⟨a, b⟩, hq, hs⟩ := hs
      have ha := List.of_mem_zip hq
      simp at hs
      rcases hs with rfl | rfl
      . have := lab_len (h4 a ha.1); omega
      . have := val_len (h3 b ha.2); omega
  split
  . refine ⟨?_, fun s hs => ?_⟩
    . split <;> simp <;> omega
    . rw [List.mem_append, List.mem_append] at hs
      rcases hs with (hs | hs) | hs
      . split at hs
        . simp at hs; subst hs; simp; omega
        . simp at hs
      . simp at hs; subst hs; omega
      . exact v _ h3 s hs
  . refine ⟨by simp; omega, fun s hs => ?_⟩
    rw [List.mem_append] at hs
    rcases hs with hs | hs
    . exact v _ h3 s hs
    . exact lb _ h4 s hs
theorem insW_small {x : Ins} (h : Fin7 x) : (insW x).length <= 2005 /\ ∀ s ∈ insW x, s.length <= 1000 := by
  obtain ⟨o1, o2⟩ := opdW_small h
  have hv := val_len h.1
  have hw := iword_len x.1 x.2.2.2.1
  unfold insW
  split
  . refine ⟨by simp; omega, fun s hs => ?_⟩
    simp only [List.mem_append, List.mem_cons, List.not_mem_nil, or_false] at hs
    rcases hs with ((rfl | rfl) | rfl) | hs
    . omega
    . simp
    . omega
    . exact o2 s hs
  . refine ⟨by simp; omega, fun s hs => ?_⟩
    simp only [List.nil_append, List.mem_append, List.mem_cons, List.not_mem_nil, or_false] at hs
    rcases hs with rfl | hs
    . omega
    . exact o2 s hs
end Go.Proofs.YtahhbckccdigoaaGreatDoor
namespace Go.Proofs.YtahhbckccdigoaaGreatDoor
open Go Go.RowKit
open G (Tok Er Ins Fun)
theorem box8 {w : World} {c : Nat} {a0 a1 a2 a3 a4 a5 a6 a7 : Value} (h : w.heap[c]? = some (.cells #[a0, a1, a2, a3, a4, a5, a6, a7] 39 (0, 0))) : w.cell? ⟨c, 0, none⟩ = some a0 /\ w.cell? ⟨c, 1, none⟩ = some a1 /\ w.cell? ⟨c, 2, none⟩ = some a2 /\ w.cell? ⟨c, 3, none⟩ = some a3 /\ w.cell? ⟨c, 4, none⟩ = some a4 /\ w.cell? ⟨c, 5, none⟩ = some a5 /\ w.cell? ⟨c, 6, none⟩ = some a6 /\ w.cell? ⟨c, 7, none⟩ = some a7 := by
  simp [World.cell?, h]
theorem pen_new (w : World) (sep : List UInt8) : Pen (w.heap.size + 1) (w.heap.size + 1) [] ((w.alloc (.cells #[.string (bs sep)] 9)).alloc (.cells #[.slice none 0 0] 83)) /\
    ((w.alloc (.cells #[.string (bs sep)] 9)).alloc (.cells #[.slice none 0 0] 83)).heap[w.heap.size]? = some (.cells #[.string (bs sep)] 9 (0, 0)) /\ Below w.heap.size w ((w.alloc (.cells #[.string (bs sep)] 9)).alloc (.cells #[.slice none 0 0] 83)) /\ w.heap.size + 1 < ((w.alloc (.cells #[.string (bs sep)] 9)).alloc (.cells #[.slice none 0 0] 83)).heap.size := by
  have e : (w.alloc (.cells #[.string (bs sep)] 9)).heap.size = w.heap.size + 1 := by simp
  refine ⟨⟨Nat.le_refl _, .slice none 0 0, ?_, World.ownsRow_nil _ _ _ _⟩, (heap_alloc_old _ _ (by simp)).trans (heap_alloc_new w _), below_step (below_box w _) (below_box _ _), by simp⟩
  have := heap_alloc_new (w.alloc (.cells #[.string (bs sep)] 9)) (.cells #[.slice none 0 0] 83)
  rwa [e] at this
theorem cell9 {w : World} {c : Nat} {a : Value} {t : TypeId} (h : w.heap[c]? = some (.cells #[a] t (0, 0))) : w.cell? ⟨c, 0, none⟩ = some a := by
  simp [World.cell?, h]
theorem SlB.mono {B B' : Nat} {w : World} {ao : Option Addr} {l : List Int} (h : SlB B w ao l) (hB : B <= B') : SlB B' w ao l := by
  rcases h with h | ⟨b, o, e, hl, hc⟩
  . exact .inl h
  . exact .inr ⟨b, o, e, Nat.lt_of_lt_of_le hl hB, hc⟩
theorem insW_no {x : Ins} (h : L5.imakes x.1 x.2.2.2.1 = 0) : insW x = [(L5.iword x.1 x.2.2.2.1).data.toList] ++ opdW x := by
  unfold insW; rw [if_neg (by simp [h])]; rfl
theorem insW_yes {x : Ins} (h : L5.imakes x.1 x.2.2.2.1 ≠ 0) : insW x = [valW x.2.1, [61]] ++ [(L5.iword x.1 x.2.2.2.1).data.toList] ++ opdW x := by
  unfold insW; rw [if_pos h]
theorem instr_try (k id n ty pl : Int) (ar tt : List Int) (nm : List UInt8) (ao to : Option Addr) (ca ct : Nat) (w : World) (hs1 : Sl w ao ar) (hs2 : Sl w to tt) (hca : ar.length <= ca) (hcm : ca <= maxLen) (ht : Tb w) (hF : Fin7 (k, id, n, ty, ar, tt, nm, pl)) :
    Calls Tryz.prog 12 #[.agg #[.int .i64 k, .int .i64 id, .int .i64 n, .int .i64 ty, .slice ao ar.length ca, .slice to tt.length ct, .string (bs nm), .int .i64 pl]] w fun e w' => e = .returned (.string (bs (insT (k, id, n, ty, ar, tt, nm, pl)))) /\ Below w.heap.size w w' := by
  have hsm := hide (insW_small hF)
  have h3 : 3 < w.heap.size := ht.1.lt
  have b0 := below_box w (o8 k id n ty pl ao to ar.length tt.length ca ct nm)
  have H0 := hide (heap_alloc_new w (o8 k id n ty pl ao to ar.length tt.length ca ct nm))
  have T0 := hide (ht.below b0)
  have A0 := hide (hs1.below b0)
  have U0 := hide (hs2.below b0)
  have hz0 : (w.alloc (o8 k id n ty pl ao to ar.length tt.length ca ct nm)).heap.size > w.heap.size := by simp
  have B0 := hide b0
  have HF := hide hF
  clear b0 ht hs1 hs2 hF
  have i64id : I64 id := HF.out.1
  go_enter Tryz.func12, Tryz.ntmps12
  go_upto_region 1 with fail
  show Code.wp _ _ _ _ (w.alloc (o8 k id n ty pl ao to ar.length tt.length ca ct nm))
  generalize w.alloc (o8 k id n ty pl ao to ar.length tt.length ca ct nm) = W at *
  go_wp2_with fail
  refine (pen_any ⟨#[32]⟩ W).mono ?_; rintro e w1 ⟨rfl, rfl⟩
  obtain ⟨p1, s1, b1, z1⟩ := pen_new W [32]
  have P1 := hide p1
  have S1 := hide s1
  have B1 := hide b1
  have H1 := hide ((b1.block _ (by omega)).trans H0.out)
  have T1 := hide (T0.out.below b1)
  have A1 := hide (((A0.out.slB (Nat.le_refl _)).below b1).mono (Nat.le_succ W.heap.size))
  have U1 := hide (((U0.out.slB (Nat.le_refl _)).below b1).mono (Nat.le_succ W.heap.size))
  have hsep : (⟨#[32]⟩ : ByteArray) = bs [32] := rfl
  rw [hsep]
  clear p1 s1 b1 hsep
  generalize (W.alloc (.cells #[.string (bs [32])] 9)).alloc (.cells #[.slice none 0 0] 83) = W1 at *
  obtain ⟨c0, c1, c2, c3, c4, c5, c6, c7⟩ := box8 H1.out
  go_wp2_with fail
  refine (L5.makes_any k ty _ _ _ _ _ _ W1 T1.out.2.2).mono ?_; rintro e w2 ⟨rfl, b2⟩
  have B2 := hide b2
  have K2 := hide (Kb.of_below b2 (show W.heap.size + 1 <= W1.heap.size by omega))
  have P2 := hide (P1.out.below b2)
  have H2 := hide (K2.out.2 _ _ _ _ H1.out (by decide) (by decide))
  have T2 := hide (T1.out.below b2)
  have hz2 := b2.size
  clear c0 c1 c2 c3 c4 c5 c6 c7 b2
  obtain ⟨c0, c1, c2, c3, c4, c5, c6, c7⟩ := box8 H2.out
  by_cases hmk : L5.imakes k ty = 0
  . have HW := hide (insW_no (x := (k, id, n, ty, ar, tt, nm, pl)) hmk)
    rw [hmk]
    clear hmk
    go_wp2_with fail
    refine (word_w k ty _ _ _ _ _ _ w2 T2.out.2.2).mono ?_; rintro e w5 ⟨rfl, b5⟩
    have B5 := hide (below_step b5 (below_box w5 (.cells #[.string (bs (L5.iword k ty).data.toList)] 9)))
    have hz5 := B5.out.size
    go_wp2_with fail
    refine (put_any (W.heap.size + 1) (W.heap.size + 1) _ [(L5.iword k ty).data.toList] _ _ (P2.out.below B5.out) one_lit (by simp) (by omega)).mono ?_; rintro e w6 ⟨rfl, p6, k6⟩
    have K6 := hide ((K2.out.step B5.out (by omega)).trans k6)
    have P6 := hide p6
    have H6 := hide (K6.out.2 _ _ _ _ H1.out (by decide) (by decide))
    have T6 := hide (T1.out.of K6.out.1 (by omega))
    have R6 : Hid (Rdy (W.heap.size + 1) (W.heap.size + 1) ([] ++ [(L5.iword k ty).data.toList]) w6 n ar tt ao to ca) := hide ⟨P6.out, T6.out, HF.out.2.1, A1.out.below K6.out.1, U1.out.below K6.out.1, HF.out.2.2.1, HF.out.2.2.2.1, HF.out.2.2.2.2.1, HF.out.2.2.2.2.2.1, hca, hcm, by simp, by omega⟩
    have hz6 := K6.out.size
    clear p6 k6 c0 c1 c2 c3 c4 c5 c6 c7 b5
    obtain ⟨c0, c1, c2, c3, c4, c5, c6, c7⟩ := box8 H6.out
    go_wp2_with fail
    refine (soperands_any k id n ty pl ar tt nm ao to ca ct _ _ _ w6 R6.out HF.out.2.2.2.2.2.2.2.1 HF.out.2.2.2.2.2.2.2.2).mono ?_; rintro e w7 ⟨rfl, p7, k7⟩
    have K7 := hide (K6.out.trans k7)
    have P7 : Hid (Pen (W.heap.size + 1) (W.heap.size + 1) (insW (k, id, n, ty, ar, tt, nm, pl)) w7) := hide (by rw [HW.out]; simpa using p7)
    have S7 := hide ((K7.out.1.block W.heap.size (by omega)).trans S1.out)
    have C7 := hide (cell9 S7.out)
    clear p7 k7 c0 c1 c2 c3 c4 c5 c6 c7
    go_wp2_with fail
    refine (text_any' [32] _ _ _ W.heap.size w7 P7.out C7.out (by have := hsm.out.1; omega) (fun x hx => by have := hsm.out.2 x hx; omega) (by simp)).mono ?_; rintro e w8 ⟨rfl, b8⟩
    go_wp2_with fail
    go_ret
    exact ⟨rfl, B0.out.trans ((B1.out.mono (by omega)).trans ((K7.out.1.mono (by omega)).trans (b8.mono (by have := K7.out.size; omega))))⟩
  . have HW := hide (insW_yes (x := (k, id, n, ty, ar, tt, nm, pl)) hmk)
    have hm1 : (L5.imakes k ty != 0) = true := by simpa using hmk
    generalize L5.imakes k ty = mk at *
    go_wp2_with fail
    refine (value_w id w2 i64id T2.out.1).mono ?_; rintro e w3 ⟨rfl, b3⟩
    have B3 := hide (below_step b3 (below_box w3 (.cells #[.string (bs (valW id)), .string (bs [61])] 9)))
    have hz3 := B3.out.size
    have h61 : (⟨#[61]⟩ : ByteArray) = bs [61] := rfl
    go_wp2_with fail
    refine (put_any (W.heap.size + 1) (W.heap.size + 1) _ [valW id, [61]] _ _ (P2.out.below B3.out) two_lit (by simp) (by omega)).mono ?_; rintro e w4 ⟨rfl, p4, k4⟩
    have K4 := hide ((K2.out.step B3.out (by omega)).trans k4)
    have P4 := hide p4
    have H4 := hide (K4.out.2 _ _ _ _ H1.out (by decide) (by decide))
    have T4 := hide (T1.out.of K4.out.1 (by omega))
    have hz4 := K4.out.size
    clear p4 k4 c0 c1 c2 c3 c4 c5 c6 c7 b3
    obtain ⟨c0, c1, c2, c3, c4, c5, c6, c7⟩ := box8 H4.out
    go_wp2_with fail
    refine (word_w k ty _ _ _ _ _ _ w4 T4.out.2.2).mono ?_; rintro e w5 ⟨rfl, b5⟩
    have B5 := hide (below_step b5 (below_box w5 (.cells #[.string (bs (L5.iword k ty).data.toList)] 9)))
    have hz5 := B5.out.size
    go_wp2_with fail
    refine (put_any (W.heap.size + 1) (W.heap.size + 1) _ [(L5.iword k ty).data.toList] _ _ (P4.out.below B5.out) one_lit (by simp) (by omega)).mono ?_; rintro e w6 ⟨rfl, p6, k6⟩
    have K6 := hide ((K4.out.step B5.out (by omega)).trans k6)
    have P6 := hide p6
    have H6 := hide (K6.out.2 _ _ _ _ H1.out (by decide) (by decide))
    have T6 := hide (T1.out.of K6.out.1 (by omega))
    have R6 : Hid (Rdy (W.heap.size + 1) (W.heap.size + 1) ([] ++ [valW id, [61]] ++ [(L5.iword k ty).data.toList]) w6 n ar tt ao to ca) := hide ⟨P6.out, T6.out, HF.out.2.1, A1.out.below K6.out.1, U1.out.below K6.out.1, HF.out.2.2.1, HF.out.2.2.2.1, HF.out.2.2.2.2.1, HF.out.2.2.2.2.2.1, hca, hcm, by simp, by omega⟩
    have hz6 := K6.out.size
    clear p6 k6 c0 c1 c2 c3 c4 c5 c6 c7 b5
    obtain ⟨c0, c1, c2, c3, c4, c5, c6, c7⟩ := box8 H6.out
    go_wp2_with fail
    refine (soperands_any k id n ty pl ar tt nm ao to ca ct _ _ _ w6 R6.out HF.out.2.2.2.2.2.2.2.1 HF.out.2.2.2.2.2.2.2.2).mono ?_; rintro e w7 ⟨rfl, p7, k7⟩
    have K7 := hide (K6.out.trans k7)
    have P7 : Hid (Pen (W.heap.size + 1) (W.heap.size + 1) (insW (k, id, n, ty, ar, tt, nm, pl)) w7) := hide (by rw [HW.out]; simpa using p7)
    have S7 := hide ((K7.out.1.block W.heap.size (by omega)).trans S1.out)
    have C7 := hide (cell9 S7.out)
    clear p7 k7 c0 c1 c2 c3 c4 c5 c6 c7
    go_wp2_with fail
    refine (text_any' [32] _ _ _ W.heap.size w7 P7.out C7.out (by have := hsm.out.1; omega) (fun x hx => by have := hsm.out.2 x hx; omega) (by simp)).mono ?_; rintro e w8 ⟨rfl, b8⟩
    go_wp2_with fail
    go_ret
    exact ⟨rfl, B0.out.trans ((B1.out.mono (by omega)).trans ((K7.out.1.mono (by omega)).trans (b8.mono (by have := K7.out.size; omega))))⟩
theorem sinstr_any (x : Ins) (v : Value) (w : World) (h : InsV w x v) (hF : Fin7 x) (ht : Tb w) : Calls Tryz.prog 12 #[v] w fun e w' => e = .returned (.string (bs (insT x))) /\ Below w.heap.size w w' := by
  obtain ⟨k, id, n, ty, ar, tt, nm, pl⟩ := x
  obtain ⟨ao, to, ca, ct, rfl, h1, h2, h3, h4, _⟩ := h
  exact instr_try k id n ty pl ar tt nm ao to ca ct w h1 h2 h3 h4 ht hF
end Go.Proofs.YtahhbckccdigoaaGreatDoor
namespace Go.Proofs.YtahhbckccdigoaaGreatDoor
open Go Go.RowKit
open G (Tok Er Ins Fun)
def IntsV (w : World) (l : List Int) (v : Value) : Prop := ∃ ao c, v = .slice ao l.length c /\ Sl w ao l /\ l.length <= c /\ c <= maxLen
theorem IntsV.below {w w' : World} {l : List Int} {v : Value} (h : IntsV w l v) (b : Below w.heap.size w w') : IntsV w' l v := by
  obtain ⟨ao, c, e, h1, h2⟩ := h
  exact ⟨ao, c, e, h1.below b, h2⟩
def insC (x : Ins) (va vt : Value) : List Value := [.int .i64 x.1, .int .i64 x.2.1, .int .i64 x.2.2.1, .int .i64 x.2.2.2.1, va, vt, .string (bs x.2.2.2.2.2.2.1), .int .i64 x.2.2.2.2.2.2.2]
def InsR (w : World) (x : Ins) (g o : Nat) : Prop := g < w.heap.size /\ ∃ va vt, (∀ j t, (insC x va vt)[j]? = some t -> w.cell? ⟨g, o + j, none⟩ = some t) /\ IntsV w x.2.2.2.2.1 va /\ IntsV w x.2.2.2.2.2.1 vt
theorem InsR.below {w w' : World} {x : Ins} {g o : Nat} (h : InsR w x g o) (b : Below w.heap.size w w') : InsR w' x g o := by
  obtain ⟨hg, va, vt, h1, h2, h3⟩ := h
  exact ⟨Nat.lt_of_lt_of_le hg b.size, va, vt, fun j t hj => (b.cell (p := ⟨g, o + j, none⟩) hg).trans (h1 j t hj), h2.below b, h3.below b⟩
def BlkR (w : World) (l : List Ins) (v : Value) : Prop := ∃ ao c, v = .slice ao l.length c /\ l.length <= c /\ c <= maxLen /\ (l = [] \/ ∃ g o, ao = some ⟨g, o, none⟩ /\ ∀ i x, l[i]? = some x -> InsR w x g (o + i * 8))
theorem BlkR.below {w w' : World} {l : List Ins} {v : Value} (h : BlkR w l v) (b : Below w.heap.size w w') : BlkR w' l v := by
  obtain ⟨ao, c, e, h1, h2, h3⟩ := h
  refine ⟨ao, c, e, h1, h2, ?_⟩
  rcases h3 with h3 | ⟨g, o, e2, h4⟩
  . exact .inl h3
  . exact .inr ⟨g, o, e2, fun i x hi => (h4 i x hi).below b⟩
def BlksR (w : World) (l : List (List Ins)) (v : Value) : Prop := ∃ ao c, v = .slice ao l.length c /\ l.length <= c /\ c <= maxLen /\ (l = [] \/ ∃ g o, ao = some ⟨g, o, none⟩ /\ g < w.heap.size /\ ∀ i b, l[i]? = some b -> ∃ u, w.cell? ⟨g, o + i, none⟩ = some u /\ BlkR w b u)
theorem BlksR.below {w w' : World} {l : List (List Ins)} {v : Value} (h : BlksR w l v) (b : Below w.heap.size w w') : BlksR w' l v := by
  obtain ⟨ao, c, e, h1, h2, h3⟩ := h
  refine ⟨ao, c, e, h1, h2, ?_⟩
  rcases h3 with h3 | ⟨g, o, e2, hg, h4⟩
  . exact .inl h3
  . refine .inr ⟨g, o, e2, Nat.lt_of_lt_of_le hg b.size, fun i x hi => ?_⟩
    obtain ⟨u, hu, hb⟩ := h4 i x hi
    exact ⟨u, (b.cell (p := ⟨g, o + i, none⟩) hg).trans hu, hb.below b⟩
def funC (f : Fun) (vp vb : Value) : List Value := [.string (bs f.1), vp, .int .i64 f.2.2.1, vb, .int .i64 f.2.2.2.2]
def FunV (w : World) (f : Fun) (v : Value) : Prop := ∃ vp vb, v = .agg #[.string (bs f.1), vp, .int .i64 f.2.2.1, vb, .int .i64 f.2.2.2.2] /\ IntsV w f.2.1 vp /\ BlksR w f.2.2.2.1 vb
theorem FunV.below {w w' : World} {f : Fun} {v : Value} (h : FunV w f v) (b : Below w.heap.size w w') : FunV w' f v := by
  obtain ⟨vp, vb, e, h1, h2⟩ := h
  exact ⟨vp, vb, e, h1.below b, h2.below b⟩
def FunR (w : World) (f : Fun) (g o : Nat) : Prop := g < w.heap.size /\ ∃ vp vb, (∀ j t, (funC f vp vb)[j]? = some t -> w.cell? ⟨g, o + j, none⟩ = some t) /\ IntsV w f.2.1 vp /\ BlksR w f.2.2.2.1 vb
theorem FunR.below {w w' : World} {x : Fun} {g o : Nat} (h : FunR w x g o) (b : Below w.heap.size w w') : FunR w' x g o := by
  obtain ⟨hg, va, vt, h1, h2, h3⟩ := h
  exact ⟨Nat.lt_of_lt_of_le hg b.size, va, vt, fun j t hj => (b.cell (p := ⟨g, o + j, none⟩) hg).trans (h1 j t hj), h2.below b, h3.below b⟩
def ProgR (w : World) (l : List Fun) (v : Value) : Prop := ∃ ao c, v = .slice ao l.length c /\ l.length <= c /\ c <= maxLen /\ (l = [] \/ ∃ g o, ao = some ⟨g, o, none⟩ /\ ∀ i x, l[i]? = some x -> FunR w x g (o + i * 5))
theorem ProgR.below {w w' : World} {l : List Fun} {v : Value} (h : ProgR w l v) (b : Below w.heap.size w w') : ProgR w' l v := by
  obtain ⟨ao, c, e, h1, h2, h3⟩ := h
  refine ⟨ao, c, e, h1, h2, ?_⟩
  rcases h3 with h3 | ⟨g, o, e2, h4⟩
  . exact .inl h3
  . exact .inr ⟨g, o, e2, fun i x hi => (h4 i x hi).below b⟩
def letL (t : Int) : List UInt8 := (L5.letter t).data.toList
theorem letL_bs (t : Int) : bs (letL t) = L5.letter t := bs_of _
theorem letL_len (t : Int) : (letL t).length <= 1 := by
  have h2 := L5.letter_size t
  have e : ∀ s : ByteArray, s.data.toList.length = s.size := fun s => by simp
  unfold letL; rw [e]; omega
theorem letter_w (t : Int) (w : World) : Calls Tryz.prog 27 #[.int .i64 t] w fun e w' => e = .returned (.string (bs (letL t))) /\ w' = w := by
  rw [letL_bs]; exact L5.letter_any t w
def parT (ps : List Int) : List UInt8 := jn [32] (ps.map letL)
def blkW (k : Nat) (b : List Ins) : List (List UInt8) := [labW (k : Int), [58, 10]] ++ b.flatMap fun x => [[32, 32], insT x, [10]]
def blksW : Nat -> List (List Ins) -> List (List UInt8)
  | _, [] => []
  | k, b :: r => blkW k b ++ blksW (k + 1) r
def headW (f : Fun) : List (List UInt8) := [[102, 117, 110, 99, 32], f.1, [40], parT f.2.1, [41, 32], letL f.2.2.1, [32, 123, 10]]
def funW (f : Fun) : List (List UInt8) := headW f ++ blksW 0 f.2.2.2.1 ++ [[125, 10]]
def funT (f : Fun) : List UInt8 := jn [] (funW f)
def progT (p : List Fun) : List UInt8 := jn [] (p.map funT)
theorem jn_nil (l : List (List UInt8)) : jn [] l = l.flatten := by
  cases l with
  | nil => rfl
  | cons x r =>
    show x ++ r.flatMap (fun y => [] ++ y) = x ++ r.flatten
    simp [List.flatMap_id']
theorem blksW_take (l : List (List Ins)) : ∀ (k j : Nat) (b : List Ins), l[j]? = some b -> blksW k (l.take (j + 1)) = blksW k (l.take j) ++ blkW (k + j) b := by
  induction l with
  | nil => intro k j b h; simp at h
  | cons x r ih =>
    intro k j b h
    cases j with
    | zero => simp at h; subst h; simp [blksW]
    | succ j =>
      have := ih (k + 1) j b (by simpa using h)
      simp only [List.take_succ_cons, blksW]
      rw [this, List.append_assoc, show k + 1 + j = k + (j + 1) by omega]
theorem box5 {w : World} {c : Nat} {a0 a1 a2 a3 a4 : Value} (h : w.heap[c]? = some (.cells #[a0, a1, a2, a3, a4] 34 (0, 0))) : w.cell? ⟨c, 0, none⟩ = some a0 /\ w.cell? ⟨c, 1, none⟩ = some a1 /\ w.cell? ⟨c, 2, none⟩ = some a2 /\ w.cell? ⟨c, 3, none⟩ = some a3 /\ w.cell? ⟨c, 4, none⟩ = some a4 := by
  simp [World.cell?, h]
theorem sparams_any (nm : List UInt8) (ps : List Int) (rt pl : Int) (bl : List (List Ins)) (ao bo : Option Addr) (c cb : Nat) (w : World) (hs : Sl w ao ps) (hl : ps.length <= 1000) : Calls Tryz.prog 26 #[.agg #[.string (bs nm), .slice ao ps.length c, .int .i64 rt, .slice bo bl.length cb, .int .i64 pl]] w fun e w' => e = .returned (.string (bs (parT ps))) /\ Below w.heap.size w w' := by
  have b0 := below_box w (o5 nm rt pl ao bo ps.length bl.length c cb)
  have H0 := hide (heap_alloc_new w (o5 nm rt pl ao bo ps.length bl.length c cb))
  have A0 := hide (hs.below b0)
  have B0 := hide b0
  clear b0 hs
  go_enter Tryz.func26, Tryz.ntmps26
  go_upto_region 1 with fail
  show Code.wp _ _ _ _ (w.alloc (o5 nm rt pl ao bo ps.length bl.length c cb))
  generalize w.alloc (o5 nm rt pl ao bo ps.length bl.length c cb) = W at *
  obtain ⟨c0, c1, c2, c3, c4⟩ := box5 H0.out
  go_wp2_with fail
  refine (each_any 27 letL ps ao c W enter27 (fun n _ w1 _ => (letter_w n w1).mono fun e w2 ⟨h1, h2⟩ => ⟨h1, h2 ▸ Below.refl _ _⟩) A0.out (by omega)).mono ?_; rintro e w1 ⟨v1, rfl, o1, b1⟩
  have hql : (ps.map letL).length <= 1000 := by simp; exact hl
  have hqx : ∀ x ∈ ps.map letL, x.length <= 67108864 := fun x hx => by
    simp only [List.mem_map] at hx
    obtain ⟨t, _, rfl⟩ := hx
    have := letL_len t; omega
  have HP : Hid (jn [32] (ps.map letL) = parT ps) := hide rfl
  have hqx := hide hqx
  generalize ps.map letL = qs at *
  have O1 := hide o1
  have B1 := hide b1
  obtain ⟨ao1, cap1, rfl⟩ := ownS_len o1
  clear o1 b1
  go_wp2_with fail
  refine (join_any [32] qs _ _ w1 O1.out (by omega) hqx.out (by simp)).mono ?_
  rintro e w2 ⟨rfl, b2⟩
  rw [HP.out]
  go_wp2_with fail
  go_ret
  exact ⟨rfl, below_step (below_step B0.out B1.out) b2⟩
end Go.Proofs.YtahhbckccdigoaaGreatDoor
