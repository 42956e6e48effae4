/- Layer 7: strings.Join of a list of texts that the call's own program has made; what the pen tells. -/
import Derived.Test.YtahhbckccdigoaaGreatDoorMbAA
import Derived.Test.YtahhbckccdigoaaGreatDoorMbAQ
import Derived.Test.YtahhbckccdigoaaGreatDoorMbAV
import Derived.Deep.RegionWith
set_option maxHeartbeats 8000000
set_option maxRecDepth 20000
namespace Go.Proofs.YtahhbckccdigoaaGreatDoor
abbrev o8 (k id n ty pl : Int) (ao to : Option Go.Addr) (la lt ca ct : Nat) (nm : List UInt8) : Go.Obj := .cells #[.int .i64 k, .int .i64 id, .int .i64 n, .int .i64 ty, .slice ao la ca, .slice to lt ct, .string (bs nm), .int .i64 pl] 39
abbrev o5 (nm : List UInt8) (rt pl : Int) (ao bo : Option Go.Addr) (lp lb c cb : Nat) : Go.Obj := .cells #[.string (bs nm), .slice ao lp c, .int .i64 rt, .slice bo lb cb, .int .i64 pl] 34
end Go.Proofs.YtahhbckccdigoaaGreatDoor
namespace Go.Proofs.YtahhbckccdigoaaGreatDoor
open Go Go.RowKit
def jn (sep : List UInt8) : List (List UInt8) -> List UInt8
  | [] => []
  | x :: r => x ++ r.flatMap fun y => sep ++ y
def lens (l : List (List UInt8)) : Nat := (l.map List.length).sum
theorem lens_app (a b : List (List UInt8)) : lens (a ++ b) = lens a + lens b := by simp [lens]
theorem lens_take (l : List (List UInt8)) (k : Nat) : lens (l.take k) <= lens l := by
  have := lens_app (l.take k) (l.drop k)
  rw [List.take_append_drop] at this
  omega
theorem lens_le (l : List (List UInt8)) (m : Nat) (h : ∀ x ∈ l, x.length <= m) : lens l <= l.length * m := by
  induction l with
  | nil => simp [lens]
  | cons x r ih =>
    have h1 := h x (by simp)
    have h2 := ih fun y hy => h y (by simp [hy])
    have : lens (x :: r) = x.length + lens r := by simp [lens]
    rw [this, List.length_cons, Nat.add_mul]
    omega
theorem jn_len (sep : List UInt8) (l : List (List UInt8)) : (jn sep l).length = lens l + sep.length * (l.length - 1) := by
  cases l with
  | nil => simp [jn, lens]
  | cons x r =>
    have : ∀ r : List (List UInt8), (r.flatMap fun y => sep ++ y).length = lens r + sep.length * r.length := by
      intro r
      induction r with
      | nil => simp [lens]
      | cons y r ih =>
        have e : lens (y :: r) = y.length + lens r := by simp [lens]
        rw [List.flatMap_cons, List.length_append, List.length_append, ih, e, List.length_cons, Nat.mul_add]
        omega
    have e : lens (x :: r) = x.length + lens r := by simp [lens]
    rw [jn, List.length_append, this, e]
    simp
    omega
theorem jn_take (sep : List UInt8) (x : List UInt8) (r : List (List UInt8)) (k : Nat) (y : List UInt8) (h : r[k]? = some y) : jn sep ((x :: r).take (k + 1 + 1)) = jn sep ((x :: r).take (k + 1)) ++ sep ++ y := by
  rw [List.take_succ_cons, List.take_succ_cons, List.take_add_one, h]
  simp [jn]
theorem below_dn {B : Nat} {a w : World} (h : Below B a w) (n : Nat) : Below B a (w.drewN n) := ⟨h.1, h.2, h.3, h.4, h.5⟩
theorem grow_any (b n : Nat) (w : World) (hbk : w.heap[b]? = some (.cells #[.pointer none, .slice none 0 0] 109 (0, 0))) (hB : b <= w.heap.size) (hn : n <= 140737488355328) :
    Calls Tryz.prog 95 #[.pointer (some ⟨b, 0, none⟩), .int .i64 n] w fun e w' => e = .returned (.tuple #[]) /\ Lib.BuilderAt 109 5 b b (.pointer (some ⟨b, 0, none⟩)) [] w' /\ Below b w w' := by
  have c0 : w.cell? ⟨b, 0, none⟩ = some (.pointer none) := by simp [World.cell?, hbk]
  have f0 : w.frozen? ⟨b, 0, none⟩ = false := by simp [World.frozen?, hbk]
  have hsh : w.shape? b = some (109, 2) := by simp [World.shape?, hbk]
  have hbk2 : (w.setCell ⟨b, 0, none⟩ (.pointer (some ⟨b, 0, none⟩))).heap[b]? = some (.cells #[.pointer (some ⟨b, 0, none⟩), .slice none 0 0] 109 (0, 0)) := by
    rw [heap_setCell_same w b 0 _ 109 _ hbk]; rfl
  have c1 : (w.setCell ⟨b, 0, none⟩ (.pointer (some ⟨b, 0, none⟩))).cell? ⟨b, 1, none⟩ = some (.slice none 0 0) := by simp [World.cell?, hbk2]
  have HB := hide ((Below.refl b w).setCell (p := ⟨b, 0, none⟩) (Nat.le_refl _) (.pointer (some ⟨b, 0, none⟩)))
  have H2 := hide hbk2
  clear hbk2 hbk
  go_enter Tryz.func95, Tryz.ntmps95
  go_wp2_with fail
  refine (L2.check_fresh b w c0 hsh f0).mono ?_; rintro e w1 ⟨rfl, rfl⟩
  generalize w.setCell ⟨b, 0, none⟩ (.pointer (some ⟨b, 0, none⟩)) = W at *
  go_wp2_with fail
  go_quiet (fail)
  by_cases h0 : n = 0
  . subst h0
    go_wp2_with fail
    refine endP rfl rfl ⟨rfl, ⟨Nat.le_refl _, _, H2.out, World.ownsRow_nil _ _ _ _, by simp [Value.ownBlock]⟩, below_dn HB.out _⟩
  . have hpos : (0 : Int) < n := by omega
    go_wp2_with fail
    refine (Tryz.Builder_grow_fresh b b n (W.drewN _) (Nat.le_refl _) H2.out (Nat.le_trans hB HB.out.size) (by omega)).mono ?_; rintro e w2 ⟨rfl, h2, b2⟩
    go_wp2_with fail
    exact endP rfl rfl ⟨rfl, h2, (below_dn HB.out _).trans b2⟩
theorem bcells (l s : List UInt8) : Lib.byteCells l ++ Lib.strCells (bs s) = Lib.byteCells (l ++ s) := by
  rw [Lib.byteCells_append, Lib.strCells_eq, bs_data]
theorem strs_at {xs : List (List UInt8)} {k : Nat} {x : List UInt8} (h : xs[k]? = some x) : (strs xs)[k]? = some (.string (bs x)) := by
  rw [List.getElem?_map, h]; rfl
theorem join_many (sep x0 : List UInt8) (r : List (List UInt8)) (g c : Nat) (w : World) (hg : g < w.heap.size) (hc : ∀ j u, (strs (x0 :: r))[j]? = some u -> w.cell? ⟨g, j, none⟩ = some u) (hr : 1 <= r.length)
    (hcap : (x0 :: r).length <= c) (hn : (x0 :: r).length <= 1048576) (hx : ∀ x ∈ x0 :: r, x.length <= 67108864) (hs : sep.length <= 1) :
    Calls Tryz.prog 62 #[.slice (some ⟨g, 0, none⟩) (x0 :: r).length c, .string (bs sep)] w fun e w' => e = .returned (.string (bs (jn sep (x0 :: r)))) /\ Below w.heap.size w w' := by
  have hL := lens_le _ _ hx
  have HJ := hide (jn_take sep x0 r)
  have Hlen := hide (fun k => jn_len sep ((x0 :: r).take k))
  obtain ⟨n, hnn⟩ : ∃ n, n = (x0 :: r).length := ⟨_, rfl⟩
  have hrn : r.length + 1 = n := by rw [hnn]; simp
  have HC := hide hc
  have hsz : (bs sep).size = sep.length := bs_size sep
  obtain ⟨M, hM⟩ : ∃ M, M = sep.length * (n - 1) := ⟨_, rfl⟩
  have hMle : M <= 1048576 := by
    rw [hM]
    have : sep.length * (n - 1) <= 1 * (n - 1) := Nat.mul_le_mul_right _ hs
    omega
  have hML : lens (x0 :: r) + M <= 70368745300000 := by
    have : (x0 :: r).length * 67108864 <= 1048576 * 67108864 := Nat.mul_le_mul_right _ hn
    omega
  obtain ⟨S, hS⟩ : ∃ S, S = (bs sep).size := ⟨_, rfl⟩
  have hS1 : S <= 1 := by omega
  have hprod : wrap64 (((bs sep).size : Int) * ((n : Int) - 1)) = (M : Int) := by
    rw [show ((n : Int) - 1) = ((n - 1 : Nat) : Int) by omega, hsz, show (sep.length : Int) * ((n - 1 : Nat) : Int) = ((sep.length * (n - 1) : Nat) : Int) from by simp, <- hM]
    exact IntWalk.wrap64_in _ ⟨by omega, by omega⟩
  have hdv : ¬ (9223372036854775807 / ((n : Int) - 1) <= ((bs sep).size : Int)) := by
    have h1 : 2 <= 9223372036854775807 / ((n : Int) - 1) := by
      rw [Int.le_ediv_iff_mul_le (by omega)]; omega
    omega
  have hM0 : (bs sep).size = 0 -> M = 0 := fun h => by rw [hM, <- hsz, h, Nat.zero_mul]
  have Hlx := hide hx
  have Hnn := hide hnn
  rw [<- hnn] at hn hcap ⊢
  have HML := hide hML
  have HLT := hide (fun k => lens_take (x0 :: r) k)
  have HLS : Hid (∀ k x, (x0 :: r)[k]? = some x -> lens ((x0 :: r).take (k + 1)) = lens ((x0 :: r).take k) + x.length) := hide (fun k x h => by rw [List.take_add_one, h, lens_app]; simp [lens])
  have hne0 : ((n : Int) == 0) = false := beq_eq_false_iff_ne.2 (by omega)
  have hne1 : ((n : Int) == 1) = false := beq_eq_false_iff_ne.2 (by omega)
  have HMS : Hid (sep.length * (n - 1) = M) := hide hM.symm
  clear hL hc hx hnn hML hM hS hS1 S hsz
  go_enter Tryz.func62, Tryz.ntmps62
  go_wp2_with fail
  all_goals
    go_loop [5, 41] (fun m i => ∃ k : Nat, k <= n /\ i = .int .i64 k /\ m = .int .i64 ((M + lens ((x0 :: r).take k) : Nat) : Int)) (fun _ i => n - (intOf i).toNat)
    case atStart => exact ⟨0, Nat.zero_le _, rfl, by first | (simp [lens]; done) | (have := hM0 (by omega); simp [lens, this])⟩
    case round =>
      obtain ⟨k, hk, rfl, rfl⟩ := hrel
      by_cases hkn : k < n
      . obtain ⟨x, hx⟩ : ∃ x, (x0 :: r)[k]? = some x := ⟨_, List.getElem?_eq_getElem (by rw [<- Hnn.out]; exact hkn)⟩
        have hcx := HC.out k _ (strs_at hx)
        have e1 := HLS.out k x hx
        have e2 := HLT.out (k + 1)
        have e3 := HML.out
        have e4 := bs_size x
        generalize hA1 : lens ((x0 :: r).take (k + 1)) = A1 at e1 e2
        generalize lens ((x0 :: r).take k) = A0 at e1
        have HA := hide hA1
        generalize lens (x0 :: r) = A2 at e2 e3
        clear hx hA1
        go_wp2
        exact ⟨⟨k + 1, by omega, by go_num, by rw [HA.out]; refine congrArg _ ?_; omega⟩, by simp [intOf]; omega⟩
      . obtain rfl : k = n := by omega
        have e3 := HML.out
        have e5 : (x0 :: r).take k = x0 :: r := List.take_of_length_le (by rw [<- Hnn.out]; exact Nat.le_refl _)
        rw [e5]
        generalize lens (x0 :: r) = A2 at e3
        replace e5 := hide e5
        go_wp2_with fail
        rw [show ((M : Int) + (A2 : Int)) = ((M + A2 : Nat) : Int) by omega]
        refine (grow_any w.heap.size (M + A2) _ (heap_alloc_new w _) (by simp) (by omega)).mono ?_; rintro e w1 ⟨rfl, i1, b1⟩
        have B1 := hide (((Below.refl w.heap.size w).alloc (Nat.le_refl _) _).trans b1)
        have I1 := hide (Or.inr i1 : Lib.IsBuilder 109 5 w.heap.size w.heap.size [] w1)
        have hc0 : w1.cell? ⟨g, 0, none⟩ = some (.string (bs x0)) := (B1.out.cell (p := ⟨g, 0, none⟩) hg).trans (HC.out 0 _ (strs_at (by simp)))
        have hx0 := Hlx.out x0 (by simp)
        clear i1 b1
        go_wp2_with fail
        refine (L2.string_any w.heap.size w.heap.size [] (bs x0) w1 I1.out (by simp [bs_size]; omega) B1.out.size).mono ?_; rintro e w2 ⟨rfl, i2, b2, _⟩
        have I2 : Hid (Lib.IsBuilder 109 5 w.heap.size w.heap.size (Lib.byteCells (jn sep ((x0 :: r).take (0 + 1)))) w2) := hide (by
          have := bcells [] x0
          simp only [Lib.byteCells, List.map_nil, List.nil_append] at this
          simpa [jn, Lib.byteCells, this] using i2)
        have B2 := hide (B1.out.trans b2)
        clear i2 b2 hc0 I1 B1
        go_wp2_with fail
        go_loopw [65] (fun i wr => ∃ j : Nat, j <= r.length /\ i = .int .i64 j /\ Hid (Lib.IsBuilder 109 5 w.heap.size w.heap.size (Lib.byteCells (jn sep ((x0 :: r).take (j + 1)))) wr) /\ Hid (Below w.heap.size w wr)) (fun i _ => r.length - (intOf i).toNat)
        case atStart => exact ⟨0, Nat.zero_le _, rfl, I2, B2⟩
        case round =>
          obtain ⟨j, hj, rfl, HI, HB⟩ := hrel
          have hBs := HB.out.size
          by_cases hjr : j < r.length
          . obtain ⟨y, hy⟩ : ∃ y, r[j]? = some y := ⟨_, List.getElem?_eq_getElem hjr⟩
            have hcy : wr.cell? ⟨g, 1 + j, none⟩ = some (.string (bs y)) := (HB.out.cell (p := ⟨g, 1 + j, none⟩) hg).trans (HC.out (1 + j) _ (strs_at (by rw [Nat.add_comm]; simpa using hy)))
            have HN := hide (HJ.out j y hy)
            have hy1 : y.length <= 67108864 := Hlx.out y (List.mem_cons_of_mem _ (List.mem_of_getElem? hy))
            have e6 : (jn sep ((x0 :: r).take (j + 1))).length <= 70368745300000 := by
              rw [Hlen.out]
              have h1 := HLT.out (j + 1)
              have h2 : sep.length * (((x0 :: r).take (j + 1)).length - 1) <= sep.length * (k - 1) := Nat.mul_le_mul_left _ (by simp; omega)
              have h3 := HMS.out
              have h4 := HML.out
              omega
            have e7 : (bs y).size <= 67108864 := by rw [bs_size]; exact hy1
            have e8 : (bs sep).size <= 1 := by rw [bs_size]; exact hs
            clear hy
            go_wp2_with fail
            refine (L2.string_any w.heap.size w.heap.size _ (bs sep) wr HI.out (by rw [Lib.byteCells_length]; omega) hBs).mono ?_; rintro e w3 ⟨rfl, i3, b3, _⟩
            have I3 := hide i3
            have B3 := hide (HB.out.trans b3)
            clear i3 b3
            go_wp2_with fail
            refine (L2.string_any w.heap.size w.heap.size _ (bs y) w3 I3.out (by rw [List.length_append, Lib.byteCells_length, Lib.strCells_length]; omega) B3.out.size).mono ?_; rintro e w4 ⟨rfl, i4, b4, _⟩
            have I4 : Hid (Lib.IsBuilder 109 5 w.heap.size w.heap.size (Lib.byteCells (jn sep ((x0 :: r).take (j + 1 + 1)))) w4) := hide (by rw [HN.out, <- bcells, <- bcells]; exact i4)
            have B4 := hide (B3.out.trans b4)
            clear i4 b4
            go_wp2
            exact ⟨⟨j + 1, by omega, by go_num, I4, B4⟩, by simp [intOf]; omega⟩
          . obtain rfl : j = r.length := by omega
            go_wp2_with fail
            refine (Tryz.Builder_String_any w.heap.size w.heap.size _ wr HI.out hBs).mono ?_; rintro e w5 ⟨rfl, b5⟩
            go_wp2
            go_ret
            exact ⟨by rw [e5.out]; rfl, HB.out.trans b5⟩
theorem join_any (sep : List UInt8) (xs : List (List UInt8)) (B : Nat) (v : Value) (w : World) (h : w.ownsRow B 9 1 v xs.length (strs xs)) (hn : xs.length <= 1048576) (hx : ∀ x ∈ xs, x.length <= 67108864) (hs : sep.length <= 1) :
    Calls Tryz.prog 62 #[v, .string (bs sep)] w fun e w' => e = .returned (.string (bs (jn sep xs))) /\ Below w.heap.size w w' := by
  match xs, h, hn, hx with
  | [], h, _, _ =>
    obtain ⟨ao, c, rfl⟩ := ownS_len h
    clear h
    go_enter Tryz.func62, Tryz.ntmps62
    go_wp2_with fail
    go_ret
    exact ⟨rfl, Below.refl _ _⟩
  | [x], h, _, _ =>
    rcases h.2 with ⟨_, h0⟩ | ⟨g, cap, cur, rfl, _, hg, hc1, hc2, _⟩
    . simp at h0
    have hc := h.cells (g := g) rfl 0 _ (strs_at (xs := [x]) (k := 0) rfl)
    rw [Addr.add_lit, Nat.zero_add] at hc
    have HJ : Hid (bs x = bs (jn sep [x])) := hide (by simp [jn])
    clear h hg
    go_enter Tryz.func62, Tryz.ntmps62
    go_wp2_with fail
    go_ret
    exact ⟨L5.ret_str HJ.out, Below.refl _ _⟩
  | x :: y :: r, h, hn, hx =>
    rcases h.2 with ⟨_, h0⟩ | ⟨g, cap, cur, rfl, _, hg, hc1, hc2, _⟩
    . simp at h0
    refine join_many sep x (y :: r) g cap w (Array.getElem?_eq_some_iff.1 hg).1 (fun j u hj => ?_) (by simp) hc1 hn hx hs
    have hc := h.cells (g := g) rfl j u hj
    rwa [Addr.add_lit, Nat.zero_add] at hc
theorem text_any' (sep : List UInt8) (ws : List (List UInt8)) (B b s : Nat) (w : World) (h : Pen B b ws w) (hc : w.cell? ⟨s, 0, none⟩ = some (.string (bs sep))) (hn : ws.length <= 1048576) (hx : ∀ x ∈ ws, x.length <= 67108864) (hs : sep.length <= 1) :
    Calls Tryz.prog 61 #[.pointer (some ⟨b, 0, none⟩), .pointer (some ⟨s, 0, none⟩)] w fun e w' => e = .returned (.string (bs (jn sep ws))) /\ Below w.heap.size w w' := by
  obtain ⟨hb, v0, h1, h2⟩ := h
  have c0 : w.cell? ⟨b, 0, none⟩ = some v0 := by simp [World.cell?, h1]
  have H2 := hide h2
  obtain ⟨ao0, cap0, rfl⟩ := ownS_len h2
  clear h1 h2
  go_enter Tryz.func61, Tryz.ntmps61
  go_wp2_with fail
  refine (join_any sep ws B _ _ H2.out hn hx hs).mono ?_; rintro e w1 ⟨rfl, b1⟩
  go_wp2_with fail
  go_ret
  exact ⟨rfl, b1⟩
end Go.Proofs.YtahhbckccdigoaaGreatDoor
namespace Go.Proofs.YtahhbckccdigoaaGreatDoor
open Go Go.RowKit
open G (Tok Er Ins Fun)
def opdW (x : Ins) : List (List UInt8) :=
  if x.1 = 1 \/ x.1 = 23 \/ x.1 = 29 then [dig x.2.2.1]
  else if x.1 = 10 then [x.2.2.2.2.2.2.1]
  else if x.1 = 11 \/ x.1 = 12 \/ x.1 = 15 \/ x.1 = 24 \/ x.1 = 13 \/ x.1 = 14 then (x.2.2.2.2.1.take 1).map valW ++ [dig x.2.2.1] ++ (x.2.2.2.2.1.drop 1).map valW
  else if x.1 = 20 then (x.2.2.2.2.2.1.zip x.2.2.2.2.1).flatMap fun q => [labW q.1, valW q.2]
  else if x.1 = 21 then (if x.2.2.1 ≠ 0 then [64 :: dig x.2.2.1] else []) ++ [x.2.2.2.2.2.2.1] ++ x.2.2.2.2.1.map valW
  else x.2.2.2.2.1.map valW ++ x.2.2.2.2.2.1.map labW
def insW (x : Ins) : List (List UInt8) := (if L5.imakes x.1 x.2.2.2.1 ≠ 0 then [valW x.2.1, [61]] else []) ++ [(L5.iword x.1 x.2.2.2.1).data.toList] ++ opdW x
def insT (x : Ins) : List UInt8 := jn [32] (insW x)
theorem Tb.of {B : Nat} {w w' : World} (h : Tb w) (k : Below B w w') (hB : 4 <= B) : Tb w' := by
  refine ⟨var?_below k L1.powNamed (by omega) h.1, ⟨Nat.lt_of_lt_of_le h.2.1.1 k.size, fun j hj => (k.cell (p := ⟨1, j, none⟩) (show 1 < B by omega)).trans (h.2.1.2 j hj)⟩, Nat.lt_of_lt_of_le h.2.2.1 k.size, fun j hj => ?_⟩
  have e : ∀ i, w'.cell? ⟨0, i, none⟩ = w.cell? ⟨0, i, none⟩ := fun i => k.cell (p := ⟨0, i, none⟩) (show 0 < B by omega)
  rw [e, e, e, e, e]
  exact h.2.2.2 j hj
def SlB (B : Nat) (w : World) (ao : Option Addr) (l : List Int) : Prop := l = [] \/ ∃ b o, ao = some ⟨b, o, none⟩ /\ b < B /\ ∀ i n, l[i]? = some n -> w.cell? ⟨b, o + i, none⟩ = some (.int .i64 n)
theorem SlB.below {B : Nat} {w w' : World} {ao : Option Addr} {l : List Int} (h : SlB B w ao l) (k : Below B w w') : SlB B w' ao l := by
  rcases h with h | ⟨b, o, e, hl, hc⟩
  . exact .inl h
  . exact .inr ⟨b, o, e, hl, fun i n hi => (k.cell (p := ⟨b, o + i, none⟩) hl).trans (hc i n hi)⟩
theorem SlB.sl {B : Nat} {w : World} {ao : Option Addr} {l : List Int} (h : SlB B w ao l) (hB : B <= w.heap.size) : Sl w ao l := by
  rcases h with h | ⟨b, o, e, hl, hc⟩
  . exact .inl h
  . exact .inr ⟨b, o, e, Nat.lt_of_lt_of_le hl hB, hc⟩
theorem Sl.slB {B : Nat} {w : World} {ao : Option Addr} {l : List Int} (h : Sl w ao l) (hB : w.heap.size <= B) : SlB B w ao l := by
  rcases h with h | ⟨b, o, e, hl, hc⟩
  . exact .inl h
  . exact .inr ⟨b, o, e, Nat.lt_of_lt_of_le hl hB, hc⟩
theorem one_lit {w : World} {s : List UInt8} : SlS (w.alloc (.cells #[.string (bs s)] 9)) (.slice (some ⟨w.heap.size, 0, none⟩) 1 1) [s] :=
  .inr ⟨_, _, rfl, L5.one_cell⟩
theorem two_lit {w : World} {s t : List UInt8} : SlS (w.alloc (.cells #[.string (bs s), .string (bs t)] 9)) (.slice (some ⟨w.heap.size, 0, none⟩) 2 2) [s, t] := by
  refine .inr ⟨_, _, rfl, fun j u hj => ?_⟩
  match j, hj with
  | 0, hj => simp at hj; subst hj; simp [Addr.add]
  | 1, hj => simp at hj; subst hj; simp [Addr.add]
theorem enter32 : ∀ args w, (callFunc 32 args).run Tryz.prog w = .ok (.enter 32 args) w := fun args w => by simp [go_sem]
theorem enter28 : ∀ args w, (callFunc 28 args).run Tryz.prog w = .ok (.enter 28 args) w := fun args w => by simp [go_sem]
theorem enter27 : ∀ args w, (callFunc 27 args).run Tryz.prog w = .ok (.enter 27 args) w := fun args w => by simp [go_sem]
theorem vals_any (l : List Int) (ao : Option Addr) (c : Nat) (w : World) (hs : Sl w ao l) (hi : ∀ n ∈ l, I64 n) (ht : Tb w) (hl : l.length <= 100000) :
    Calls Tryz.prog 63 #[.func (Fn.func 32) #[] #[], .slice ao l.length c] w fun e w' => ∃ v, e = .returned v /\ Gath w (l.map valW) v w' :=
  each_any 32 valW l ao c w enter32 (fun n hn w1 b => value_w n w1 (hi n hn) (ht.below b).1) hs hl
theorem labs_any (l : List Int) (ao : Option Addr) (c : Nat) (w : World) (hs : Sl w ao l) (hi : ∀ n ∈ l, I64 n) (ht : Tb w) (hl : l.length <= 100000) :
    Calls Tryz.prog 63 #[.func (Fn.func 28) #[] #[], .slice ao l.length c] w fun e w' => ∃ v, e = .returned v /\ Gath w (l.map labW) v w' :=
  each_any 28 labW l ao c w enter28 (fun n hn w1 b => label_w n w1 (hi n hn) (ht.below b).1) hs hl
theorem box7 {w : World} {c : Nat} {a0 a1 a2 a3 a4 a5 a6 a7 : Value} (h : w.heap[c]? = some (.cells #[a0, a1, a2, a3, a4, a5, a6, a7] 39 (0, 0))) : w.cell? ⟨c, 0, none⟩ = some a0 /\ w.cell? ⟨c, 2, none⟩ = some a2 /\ w.cell? ⟨c, 4, none⟩ = some a4 /\ w.cell? ⟨c, 5, none⟩ = some a5 /\ w.cell? ⟨c, 6, none⟩ = some a6 := by
  simp [World.cell?, h]
theorem Pen.kb_size {B b : Nat} {ws : List (List UInt8)} {w : World} (h : Pen B b ws w) : b < w.heap.size /\ B <= b := by
  obtain ⟨hb, v, h1, _⟩ := h
  exact ⟨(Array.getElem?_eq_some_iff.1 h1).1, hb⟩
def Rdy (B b : Nat) (ws : List (List UInt8)) (w : World) (n : Int) (ar tt : List Int) (ao to : Option Addr) (ca : Nat) : Prop :=
  Pen B b ws w /\ Tb w /\ I64 n /\ SlB B w ao ar /\ SlB B w to tt /\ (∀ i ∈ ar, I64 i) /\ (∀ i ∈ tt, I64 i) /\ ar.length <= 1000 /\ tt.length <= 1000 /\ ar.length <= ca /\ ca <= maxLen /\ ws.length <= 900000 /\ 4 <= B
def Puts (B b : Nat) (ws : List (List UInt8)) (w : World) (e : Ending) (w' : World) : Prop := e = .returned (.tuple #[]) /\ Pen B b ws w' /\ Kb B w w'
theorem opd_num (k : Int) (hk : k = 1 \/ k = 23 \/ k = 29) (id n ty pl : Int) (ar tt : List Int) (nm : List UInt8) (ao to : Option Addr) (ca ct B b : Nat) (ws : List (List UInt8)) (w : World) (hR : Rdy B b ws w n ar tt ao to ca) :
    Calls Tryz.prog 34 #[.agg #[.int .i64 k, .int .i64 id, .int .i64 n, .int .i64 ty, .slice ao ar.length ca, .slice to tt.length ct, .string (bs nm), .int .i64 pl], .func (Fn.func 60) #[] #[.pointer (some ⟨b, 0, none⟩)]] w (Puts B b (ws ++ [dig n]) w) := by
  obtain ⟨hp, ht, hn, ha, hu, ia, it, la, lt, ca', cm, hl, h4⟩ := hR
  have hB : B <= w.heap.size := by have := hp.kb_size; omega
  have b0 := below_box w (o8 k id n ty pl ao to ar.length tt.length ca ct nm)
  have H0 := hide (heap_alloc_new w (o8 k id n ty pl ao to ar.length tt.length ca ct nm))
  have P0 := hide (hp.below b0)
  have T0 := hide (ht.below b0)
  have A0 := hide (ha.below (b0.mono hB))
  have U0 := hide (hu.below (b0.mono hB))
  have K0 := hide (Kb.of_below b0 hB)
  have hs0 := b0.size
  clear hp ht ha hu b0
  go_enter Tryz.func34, Tryz.ntmps34
  go_upto_region 1 with fail
  show Code.wp _ _ _ _ (w.alloc (o8 k id n ty pl ao to ar.length tt.length ca ct nm))
  generalize w.alloc (o8 k id n ty pl ao to ar.length tt.length ca ct nm) = W at *
  obtain ⟨c0, c2, c4, c5, c6⟩ := box7 H0.out
  rcases hk with rfl | rfl | rfl
  all_goals
    go_wp2_with fail
    refine (print_w n _ hn T0.out.1).mono ?_; rintro e w1 ⟨rfl, b1⟩
    have B1 := hide (below_step b1 (below_box w1 (.cells #[.string (bs (dig n))] 9)))
    go_wp2_with fail
    refine (put_any B b ws [dig n] _ _ (P0.out.below B1.out) one_lit (by simp; omega) (by have := B1.out.size; omega)).mono ?_; rintro e w2 ⟨rfl, p2, k2⟩
    go_wp2_with fail
    exact endP rfl rfl ⟨rfl, p2, (K0.out.step B1.out (by omega)).trans k2⟩
theorem opd_new (id n ty pl : Int) (ar tt : List Int) (nm : List UInt8) (ao to : Option Addr) (ca ct B b : Nat) (ws : List (List UInt8)) (w : World) (hR : Rdy B b ws w n ar tt ao to ca) :
    Calls Tryz.prog 34 #[.agg #[.int .i64 10, .int .i64 id, .int .i64 n, .int .i64 ty, .slice ao ar.length ca, .slice to tt.length ct, .string (bs nm), .int .i64 pl], .func (Fn.func 60) #[] #[.pointer (some ⟨b, 0, none⟩)]] w (Puts B b (ws ++ [nm]) w) := by
  obtain ⟨hp, ht, hn, ha, hu, ia, it, la, lt, ca', cm, hl, h4⟩ := hR
  have hB : B <= w.heap.size := by have := hp.kb_size; omega
  have b0 := below_box w (o8 10 id n ty pl ao to ar.length tt.length ca ct nm)
  have H0 := hide (heap_alloc_new w (o8 10 id n ty pl ao to ar.length tt.length ca ct nm))
  have P0 := hide (hp.below b0)
  have T0 := hide (ht.below b0)
  have A0 := hide (ha.below (b0.mono hB))
  have U0 := hide (hu.below (b0.mono hB))
  have K0 := hide (Kb.of_below b0 hB)
  have hs0 := b0.size
  clear hp ht ha hu b0
  go_enter Tryz.func34, Tryz.ntmps34
  go_upto_region 1 with fail
  show Code.wp _ _ _ _ (w.alloc (o8 10 id n ty pl ao to ar.length tt.length ca ct nm))
  generalize w.alloc (o8 10 id n ty pl ao to ar.length tt.length ca ct nm) = W at *
  obtain ⟨c0, c2, c4, c5, c6⟩ := box7 H0.out
  go_wp2_with fail
  refine (put_any B b ws [nm] _ _ (P0.out.below (below_box W (.cells #[.string (bs nm)] 9))) one_lit (by simp; omega) (by have := (below_box W (.cells #[.string (bs nm)] 9)).size; omega)).mono ?_; rintro e w2 ⟨rfl, p2, k2⟩
  go_wp2_with fail
  exact endP rfl rfl ⟨rfl, p2, (K0.out.step (below_box W _) (by omega)).trans k2⟩
end Go.Proofs.YtahhbckccdigoaaGreatDoor
namespace Go.Proofs.YtahhbckccdigoaaGreatDoor
open Go Go.RowKit
open G (Tok Er Ins Fun)
theorem opd_mem (k : Int) (hk : k = 11 \/ k = 12 \/ k = 15 \/ k = 24 \/ k = 13 \/ k = 14) (a0 : Int) (a1 : List Int) (id n ty pl : Int) (tt : List Int) (nm : List UInt8) (ao to : Option Addr) (ca ct B b : Nat) (ws : List (List UInt8)) (w : World) (hR : Rdy B b ws w n (a0 :: a1) tt ao to ca) :
    Calls Tryz.prog 34 #[.agg #[.int .i64 k, .int .i64 id, .int .i64 n, .int .i64 ty, .slice ao (a0 :: a1).length ca, .slice to tt.length ct, .string (bs nm), .int .i64 pl], .func (Fn.func 60) #[] #[.pointer (some ⟨b, 0, none⟩)]] w (Puts B b (ws ++ ((((a0 :: a1).take 1).map valW ++ [dig n]) ++ ((a0 :: a1).drop 1).map valW)) w) := by
  obtain ⟨hp, ht, hn, ha, hu, ia, it, la, lt, ca', cm, hl, h4⟩ := hR
  have hB : B <= w.heap.size := by have := hp.kb_size; omega
  have b0 := below_box w (.cells #[.int .i64 k, .int .i64 id, .int .i64 n, .int .i64 ty, .slice ao (a0 :: a1).length ca, .slice to tt.length ct, .string (bs nm), .int .i64 pl] 39)
  have H0 := hide (heap_alloc_new w (.cells #[.int .i64 k, .int .i64 id, .int .i64 n, .int .i64 ty, .slice ao (a0 :: a1).length ca, .slice to tt.length ct, .string (bs nm), .int .i64 pl] 39))
  have P0 := hide (hp.below b0)
  have T0 := hide (ht.below b0)
  have A0 := hide (ha.below (b0.mono hB))
  have U0 := hide (hu.below (b0.mono hB))
  have K0 := hide (Kb.of_below b0 hB)
  have hs0 := b0.size
  clear hp ht ha hu b0
  go_enter Tryz.func34, Tryz.ntmps34
  go_upto_region 1 with fail
  show Code.wp _ _ _ _ (w.alloc (.cells #[.int .i64 k, .int .i64 id, .int .i64 n, .int .i64 ty, .slice ao (a0 :: a1).length ca, .slice to tt.length ct, .string (bs nm), .int .i64 pl] 39))
  generalize w.alloc (.cells #[.int .i64 k, .int .i64 id, .int .i64 n, .int .i64 ty, .slice ao (a0 :: a1).length ca, .slice to tt.length ct, .string (bs nm), .int .i64 pl] 39) = W at *
  obtain ⟨c0, c2, c4, c5, c6⟩ := box7 H0.out
  unfold maxLen at cm
  rcases A0.out with he | ⟨q, o, rfl, hq, hc⟩
  . simp at he
  have hlen : (((a0 :: a1).length : Nat) : Int) = (a1.length : Int) + 1 := by simp
  have hmin : min (1 : Int) ((a1.length : Int) + 1) = 1 := by omega
  have hca : 1 <= ca := by simp at ca'; omega
  have S1 : Hid (∀ w', Below B W w' -> B <= w'.heap.size -> Sl w' (some ⟨q, o, none⟩) [a0]) := hide fun w' k hk => .inr ⟨q, o, rfl, by omega, fun i m hi => by
    match i, hi with
    | 0, hi => simp at hi; subst hi; exact (k.cell (p := ⟨q, o + 0, none⟩) hq).trans (hc 0 _ rfl)⟩
  have S2 : Hid (∀ w', Below B W w' -> B <= w'.heap.size -> Sl w' (some ⟨q, o + 1, none⟩) a1) := hide fun w' k hk => .inr ⟨q, o + 1, rfl, by omega, fun i m hi => by
    have := (k.cell (p := ⟨q, o + (i + 1), none⟩) hq).trans (hc (i + 1) m (by simpa using hi))
    rwa [show o + (i + 1) = o + 1 + i by omega] at this⟩
  have i0 : ∀ i ∈ [a0], I64 i := fun i hi => ia i (by simp at hi; simp [hi])
  have i1 : ∀ i ∈ a1, I64 i := fun i hi => ia i (by simp [hi])
  have la1 : a1.length <= 1000 := by simp at la; omega
  have ca1 : a1.length + 1 <= ca := by simpa using ca'
  have hWB : B <= W.heap.size := by omega
  clear ia it hc ca' la lt
  generalize hL : (a0 :: a1).length = L at *
  have hLn : L = a1.length + 1 := by rw [<- hL]; simp
  rcases hk with rfl | rfl | rfl | rfl | rfl | rfl
  all_goals
    go_wp2_with fail
    refine (vals_any [a0] _ ca W (S1.out W (Below.refl _ _) hWB) i0 T0.out (by simp)).mono ?_; rintro e w1 ⟨v1, rfl, g1⟩
    have o1 := hide g1.1
    have b1 := hide g1.2
    clear g1
    go_wp2_with fail
    refine (put_any B b ws [valW a0] _ _ (P0.out.below b1.out) (SlS.of_own o1.out) (by simp; omega) (by have := b1.out.size; omega)).mono ?_; rintro e w2 ⟨rfl, p2, k2⟩
    have P2 := hide p2
    have K2 := hide ((Kb.of_below b1.out hWB).trans k2)
    have H2 := hide (K2.out.2 _ _ _ _ H0.out (by decide) (by decide))
    have T2 := hide (T0.out.of K2.out.1 h4)
    have hw2 := K2.out.size
    clear p2 k2 c0 c2 c4 c5 c6
    obtain ⟨c0, c2, c4, c5, c6⟩ := box7 H2.out
    go_wp2_with fail
    refine (print_w n _ hn T2.out.1).mono ?_; rintro e w3 ⟨rfl, b3⟩
    have B3 := hide (below_step b3 (below_box w3 (.cells #[.string (bs (dig n))] 9)))
    go_wp2_with fail
    refine (put_any B b _ [dig n] _ _ (P2.out.below B3.out) one_lit (by simp; omega) (by have := B3.out.size; omega)).mono ?_; rintro e w4 ⟨rfl, p4, k4⟩
    have P4 := hide p4
    have K4 := hide ((K2.out.step B3.out (by omega)).trans k4)
    have H4 := hide (K4.out.2 _ _ _ _ H0.out (by decide) (by decide))
    have T4 := hide (T0.out.of K4.out.1 h4)
    have hw4 := K4.out.size
    clear p4 k4 c0 c2 c4 c5 c6
    obtain ⟨c0, c2, c4, c5, c6⟩ := box7 H4.out
    go_wp2_with fail
    all_goals
      refine (vals_any a1 _ _ w4 (by first | exact S2.out _ K4.out.1 (by omega) | exact .inl (List.length_eq_zero_iff.1 (by omega))) i1 T4.out (by omega)).mono ?_; rintro e w5 ⟨v5, rfl, g5⟩
      have o5 := hide g5.1
      have b5 := hide g5.2
      clear g5
      go_wp2_with fail
      refine (put_any B b _ (a1.map valW) _ _ (P4.out.below b5.out) (SlS.of_own o5.out) (by simp; omega) (by have := b5.out.size; omega)).mono ?_; rintro e w6 ⟨rfl, p6, k6⟩
      go_wp2_with fail
      exact endP rfl rfl ⟨rfl, by simpa using p6, K0.out.trans ((K4.out.step b5.out (by omega)).trans k6)⟩
end Go.Proofs.YtahhbckccdigoaaGreatDoor
namespace Go.Proofs.YtahhbckccdigoaaGreatDoor
open Go Go.RowKit
open G (Tok Er Ins Fun)
theorem opd_call0 (id ty pl : Int) (ar tt : List Int) (nm : List UInt8) (ao to : Option Addr) (ca ct B b : Nat) (ws : List (List UInt8)) (w : World) (hR : Rdy B b ws w 0 ar tt ao to ca) :
    Calls Tryz.prog 34 #[.agg #[.int .i64 21, .int .i64 id, .int .i64 0, .int .i64 ty, .slice ao ar.length ca, .slice to tt.length ct, .string (bs nm), .int .i64 pl], .func (Fn.func 60) #[] #[.pointer (some ⟨b, 0, none⟩)]] w (Puts B b (ws ++ ([nm] ++ ar.map valW)) w) := by
  obtain ⟨hp, ht, hn, ha, hu, ia, it, la, lt, ca', cm, hl, h4⟩ := hR
  have hB : B <= w.heap.size := by have := hp.kb_size; omega
  have b0 := below_box w (o8 21 id 0 ty pl ao to ar.length tt.length ca ct nm)
  have H0 := hide (heap_alloc_new w (o8 21 id 0 ty pl ao to ar.length tt.length ca ct nm))
  have P0 := hide (hp.below b0)
  have T0 := hide (ht.below b0)
  have A0 := hide (ha.below (b0.mono hB))
  have U0 := hide (hu.below (b0.mono hB))
  have K0 := hide (Kb.of_below b0 hB)
  have hs0 := b0.size
  clear hp ht ha hu b0
  go_enter Tryz.func34, Tryz.ntmps34
  go_upto_region 1 with fail
  show Code.wp _ _ _ _ (w.alloc (o8 21 id 0 ty pl ao to ar.length tt.length ca ct nm))
  generalize w.alloc (o8 21 id 0 ty pl ao to ar.length tt.length ca ct nm) = W at *
  obtain ⟨c0, c2, c4, c5, c6⟩ := box7 H0.out
  have hWB : B <= W.heap.size := by omega
  have K1 := hide (Kb.refl B W)
  go_wp2_with fail
  refine (put_any B b _ [nm] _ _ (P0.out.below (below_box W (.cells #[.string (bs nm)] 9))) one_lit (by simp; omega) (by have := (below_box W (.cells #[.string (bs nm)] 9)).size; omega)).mono ?_; rintro e w4 ⟨rfl, p4, k4⟩
  have P4 := hide p4
  have K4 := hide ((K1.out.step (below_box W (.cells #[.string (bs nm)] 9)) (by omega)).trans k4)
  have H4 := hide (K4.out.2 _ _ _ _ H0.out (by decide) (by decide))
  have T4 := hide (T0.out.of K4.out.1 h4)
  have A4 := hide (A0.out.below K4.out.1)
  have hw4 := K4.out.size
  clear p4 k4 c0 c2 c4 c5 c6
  obtain ⟨c0, c2, c4, c5, c6⟩ := box7 H4.out
  go_wp2_with fail
  refine (vals_any ar _ ca w4 (A4.out.sl (by omega)) ia T4.out (by omega)).mono ?_; rintro e w5 ⟨v5, rfl, g5⟩
  have o5 := hide g5.1
  have b5 := hide g5.2
  clear g5
  go_wp2_with fail
  refine (put_any B b _ (ar.map valW) _ _ (P4.out.below b5.out) (SlS.of_own o5.out) (by simp; omega) (by have := b5.out.size; omega)).mono ?_; rintro e w6 ⟨rfl, p6, k6⟩
  go_wp2_with fail
  exact endP rfl rfl ⟨rfl, by simpa using p6, K0.out.trans ((K4.out.step b5.out (by omega)).trans k6)⟩
theorem opd_call1 (id n ty pl : Int) (hn0 : (n == 0) = false) (ar tt : List Int) (nm : List UInt8) (ao to : Option Addr) (ca ct B b : Nat) (ws : List (List UInt8)) (w : World) (hR : Rdy B b ws w n ar tt ao to ca) :
    Calls Tryz.prog 34 #[.agg #[.int .i64 21, .int .i64 id, .int .i64 n, .int .i64 ty, .slice ao ar.length ca, .slice to tt.length ct, .string (bs nm), .int .i64 pl], .func (Fn.func 60) #[] #[.pointer (some ⟨b, 0, none⟩)]] w (Puts B b (ws ++ ([64 :: dig n] ++ [nm] ++ ar.map valW)) w) := by
  obtain ⟨hp, ht, hn, ha, hu, ia, it, la, lt, ca', cm, hl, h4⟩ := hR
  have hB : B <= w.heap.size := by have := hp.kb_size; omega
  have b0 := below_box w (o8 21 id n ty pl ao to ar.length tt.length ca ct nm)
  have H0 := hide (heap_alloc_new w (o8 21 id n ty pl ao to ar.length tt.length ca ct nm))
  have P0 := hide (hp.below b0)
  have T0 := hide (ht.below b0)
  have A0 := hide (ha.below (b0.mono hB))
  have U0 := hide (hu.below (b0.mono hB))
  have K0 := hide (Kb.of_below b0 hB)
  have hs0 := b0.size
  clear hp ht ha hu b0
  go_enter Tryz.func34, Tryz.ntmps34
  go_upto_region 1 with fail
  show Code.wp _ _ _ _ (w.alloc (o8 21 id n ty pl ao to ar.length tt.length ca ct nm))
  generalize w.alloc (o8 21 id n ty pl ao to ar.length tt.length ca ct nm) = W at *
  obtain ⟨c0, c2, c4, c5, c6⟩ := box7 H0.out
  have hWB : B <= W.heap.size := by omega
  have hn1 : (n != 0) = true := by rw [bne, hn0]; rfl
  have hl1 := dig_len hn
  rw [<- bs_size] at hl1
  have HE : Hid ((⟨#[64]⟩ : ByteArray) ++ bs (dig n) = bs (64 :: dig n)) := hide (cat_bs [64] (dig n))
  go_wp2_with fail
  refine (print_w n _ hn T0.out.1).mono ?_; rintro e w1 ⟨rfl, b1⟩
  generalize bs (dig n) = sg at *
  have B1 := hide (below_step b1 (below_box w1 (.cells #[.string (bs (64 :: dig n))] 9)))
  go_wp2_with fail
  try rw [HE.out]
  refine (put_any B b ws [64 :: dig n] _ _ (P0.out.below B1.out) one_lit (by simp; omega) (by have := B1.out.size; omega)).mono ?_; rintro e w2 ⟨rfl, p2, k2⟩
  have P2 := hide p2
  have K2 := hide ((Kb.of_below B1.out hWB).trans k2)
  have H2 := hide (K2.out.2 _ _ _ _ H0.out (by decide) (by decide))
  have T2 := hide (T0.out.of K2.out.1 h4)
  have A2 := hide (A0.out.below K2.out.1)
  have hw2 := K2.out.size
  have K1 := hide (Kb.refl B w2)
  clear p2 k2 c0 c2 c4 c5 c6
  obtain ⟨c0, c2, c4, c5, c6⟩ := box7 H2.out
  go_wp2_with fail
  refine (put_any B b _ [nm] _ _ (P2.out.below (below_box w2 (.cells #[.string (bs nm)] 9))) one_lit (by simp; omega) (by have := (below_box w2 (.cells #[.string (bs nm)] 9)).size; omega)).mono ?_; rintro e w4 ⟨rfl, p4, k4⟩
  have P4 := hide p4
  have K4 := hide ((K1.out.step (below_box w2 (.cells #[.string (bs nm)] 9)) (by omega)).trans k4)
  have H4 := hide (K4.out.2 _ _ _ _ H2.out (by decide) (by decide))
  have T4 := hide (T2.out.of K4.out.1 h4)
  have A4 := hide (A2.out.below K4.out.1)
  have hw4 := K4.out.size
  clear p4 k4 c0 c2 c4 c5 c6
  obtain ⟨c0, c2, c4, c5, c6⟩ := box7 H4.out
  go_wp2_with fail
  refine (vals_any ar _ ca w4 (A4.out.sl (by omega)) ia T4.out (by omega)).mono ?_; rintro e w5 ⟨v5, rfl, g5⟩
  have o5 := hide g5.1
  have b5 := hide g5.2
  clear g5
  go_wp2_with fail
  refine (put_any B b _ (ar.map valW) _ _ (P4.out.below b5.out) (SlS.of_own o5.out) (by simp; omega) (by have := b5.out.size; omega)).mono ?_; rintro e w6 ⟨rfl, p6, k6⟩
  go_wp2_with fail
  exact endP rfl rfl ⟨rfl, by simpa using p6, K0.out.trans (K2.out.trans ((K4.out.step b5.out (by omega)).trans k6))⟩
theorem opd_else (k : Int) (hk : k ≠ 1 /\ k ≠ 23 /\ k ≠ 29 /\ k ≠ 10 /\ k ≠ 11 /\ k ≠ 12 /\ k ≠ 15 /\ k ≠ 24 /\ k ≠ 13 /\ k ≠ 14 /\ k ≠ 20 /\ k ≠ 21) (id n ty pl : Int) (ar tt : List Int) (nm : List UInt8) (ao to : Option Addr) (ca ct B b : Nat) (ws : List (List UInt8)) (w : World) (hR : Rdy B b ws w n ar tt ao to ca) :
    Calls Tryz.prog 34 #[.agg #[.int .i64 k, .int .i64 id, .int .i64 n, .int .i64 ty, .slice ao ar.length ca, .slice to tt.length ct, .string (bs nm), .int .i64 pl], .func (Fn.func 60) #[] #[.pointer (some ⟨b, 0, none⟩)]] w (Puts B b (ws ++ (ar.map valW ++ tt.map labW)) w) := by
  obtain ⟨hp, ht, hn, ha, hu, ia, it, la, lt, ca', cm, hl, h4⟩ := hR
  have hB : B <= w.heap.size := by have := hp.kb_size; omega
  have b0 := below_box w (o8 k id n ty pl ao to ar.length tt.length ca ct nm)
  have H0 := hide (heap_alloc_new w (o8 k id n ty pl ao to ar.length tt.length ca ct nm))
  have P0 := hide (hp.below b0)
  have T0 := hide (ht.below b0)
  have A0 := hide (ha.below (b0.mono hB))
  have U0 := hide (hu.below (b0.mono hB))
  have K0 := hide (Kb.of_below b0 hB)
  have hs0 := b0.size
  clear hp ht ha hu b0
  go_enter Tryz.func34, Tryz.ntmps34
  go_upto_region 1 with fail
  show Code.wp _ _ _ _ (w.alloc (o8 k id n ty pl ao to ar.length tt.length ca ct nm))
  generalize w.alloc (o8 k id n ty pl ao to ar.length tt.length ca ct nm) = W at *
  obtain ⟨c0, c2, c4, c5, c6⟩ := box7 H0.out
  have hWB : B <= W.heap.size := by omega
  obtain ⟨n1, n23, n29, n10, n11, n12, n15, n24, n13, n14, n20, n21⟩ := hk
  replace n1 : (k == 1) = false := by simpa using n1
  replace n23 : (k == 23) = false := by simpa using n23
  replace n29 : (k == 29) = false := by simpa using n29
  replace n10 : (k == 10) = false := by simpa using n10
  replace n11 : (k == 11) = false := by simpa using n11
  replace n12 : (k == 12) = false := by simpa using n12
  replace n15 : (k == 15) = false := by simpa using n15
  replace n24 : (k == 24) = false := by simpa using n24
  replace n13 : (k == 13) = false := by simpa using n13
  replace n14 : (k == 14) = false := by simpa using n14
  replace n20 : (k == 20) = false := by simpa using n20
  replace n21 : (k == 21) = false := by simpa using n21
  go_wp2_with fail
  refine (vals_any ar _ ca W (A0.out.sl hWB) ia T0.out (by omega)).mono ?_; rintro e w1 ⟨v1, rfl, g1⟩
  have o1 := hide g1.1
  have b1 := hide g1.2
  clear g1
  go_wp2_with fail
  refine (put_any B b ws (ar.map valW) _ _ (P0.out.below b1.out) (SlS.of_own o1.out) (by simp; omega) (by have := b1.out.size; omega)).mono ?_; rintro e w2 ⟨rfl, p2, k2⟩
  have P2 := hide p2
  have K2 := hide ((Kb.of_below b1.out hWB).trans k2)
  have H2 := hide (K2.out.2 _ _ _ _ H0.out (by decide) (by decide))
  have T2 := hide (T0.out.of K2.out.1 h4)
  have U2 := hide (U0.out.below K2.out.1)
  have hw2 := K2.out.size
  clear p2 k2 c0 c2 c4 c5 c6
  obtain ⟨c0, c2, c4, c5, c6⟩ := box7 H2.out
  go_wp2_with fail
  refine (labs_any tt _ ct w2 (U2.out.sl (by omega)) it T2.out (by omega)).mono ?_; rintro e w5 ⟨v5, rfl, g5⟩
  have o5 := hide g5.1
  have b5 := hide g5.2
  clear g5
  go_wp2_with fail
  refine (put_any B b _ (tt.map labW) _ _ (P2.out.below b5.out) (SlS.of_own o5.out) (by simp; omega) (by have := b5.out.size; omega)).mono ?_; rintro e w6 ⟨rfl, p6, k6⟩
  go_wp2_with fail
  exact endP rfl rfl ⟨rfl, by simpa using p6, K0.out.trans ((K2.out.step b5.out (by omega)).trans k6)⟩
end Go.Proofs.YtahhbckccdigoaaGreatDoor
