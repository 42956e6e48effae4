/- Layer 2, the reference's split, at texts without notes. -/
import Derived.Test.YtahhbckccdigoaaGreatDoorMbAC
import Derived.Test.YtahhbckccdigoaaGreatDoorMbAT
import Derived.Test.YtahhbckccdigoaaGreatDoorMbAU
import Derived.Laws.RangeAny
import Derived.Test.YtahhbckccdigoaaGreatDoorProg
import Derived.WalkKit
import Derived.WalkSpells
import Derived.WalkSmall
import Derived.WalkLawsBesides
import Derived.Lib.OthersKept
import Derived.Shelf.Strings.Builder1
import Derived.Shelf.Strings.Builder2
set_option maxHeartbeats 8000000
set_option maxRecDepth 20000
namespace Go.Proofs.YtahhbckccdigoaaGreatDoor
open Go Go.RowKit
open G (Tok Er Ins Fun peek0 peek1 atOf)
theorem kind_bla (c : UInt8) (h : inB [32, 9, 10, 13] c = true) : L2.togB c.toNat = false /\ L2.aloB c.toNat = false /\ ¬ (c.toNat : Int) = 35 /\ L2.blaB c.toNat = true := by
  have key : ∀ n : Fin 256, inB [32, 9, 10, 13] (UInt8.ofNat n.val) = true -> L2.togB (UInt8.ofNat n.val).toNat = false /\ L2.aloB (UInt8.ofNat n.val).toNat = false /\ ¬ ((UInt8.ofNat n.val).toNat : Int) = 35 /\ L2.blaB (UInt8.ofNat n.val).toNat = true := by decide +kernel
  have := key ⟨c.toNat, c.toNat_lt⟩
  rw [show UInt8.ofNat c.toNat = c from UInt8.ofNat_toNat] at this
  exact this h
theorem kind_alo (c : UInt8) (h : inB [40, 41, 123, 125, 61, 58] c = true) : L2.togB c.toNat = false /\ L2.aloB c.toNat = true := by
  have key : ∀ n : Fin 256, inB [40, 41, 123, 125, 61, 58] (UInt8.ofNat n.val) = true -> L2.togB (UInt8.ofNat n.val).toNat = false /\ L2.aloB (UInt8.ofNat n.val).toNat = true := by decide +kernel
  have := key ⟨c.toNat, c.toNat_lt⟩
  rw [show UInt8.ofNat c.toNat = c from UInt8.ofNat_toNat] at this
  exact this h
theorem scan_shut (l : List UInt8) (p q : Nat) (ws : List (Nat × Nat)) (h : ∀ c r, l = c :: r -> L2.togB c.toNat = false) : L2.scan l q ws (some p) false = L2.scan l q (ws ++ [(p, q)]) none false := by
  cases l with
  | nil => rfl
  | cons c r =>
    have hc := h c r rfl
    by_cases h2 : L2.aloB c.toNat = true
    . rw [L2.scan_alo r q ws (some p) hc h2, L2.scan_alo r q (ws ++ [(p, q)]) none hc h2]; rfl
    . have h2 : L2.aloB c.toNat = false := by simpa using h2
      by_cases h3 : (c.toNat : Int) = 35
      . rw [L2.scan_hash r q ws (some p) hc h2 h3, L2.scan_hash r q (ws ++ [(p, q)]) none hc h2 h3]; rfl
      . by_cases h4 : L2.blaB c.toNat = true
        . rw [L2.scan_bla r q ws (some p) hc h2 h3 h4, L2.scan_bla r q (ws ++ [(p, q)]) none hc h2 h3 h4]; rfl
        . have h4 : L2.blaB c.toNat = false := by simpa using h4
          rw [L2.scan_err r q ws (some p) hc h2 h3 h4, L2.scan_err r q (ws ++ [(p, q)]) none hc h2 h3 h4]
def SpR (w : World) (s : ByteArray) (v : Value) (ws : List (Nat × Nat)) (wr : World) : Prop :=
  wr.ownsRow (w.heap.size + 1) 96 2 v ws.length (L2.cellsT (ws.map (L2.tok s))) /\ wr.heap[w.heap.size]? = some (.cells #[.int .i64 0, .int .i64 0] 28 (0, 0)) /\ Below w.heap.size w wr /\ w.heap.size < wr.heap.size
theorem SpR.step {w wr w2 : World} {s : ByteArray} {v v' : Value} {ws : List (Nat × Nat)} {a b : Nat} {o : Obj} (h : SpR w s v ws wr)
    (own : w2.ownsRow (w.heap.size + 1) 96 2 v' (ws.length + 1) (L2.cellsT (ws.map (L2.tok s)) ++ [.string (s.extract a b), .int .i64 a])) (hg : (wr.alloc o).grownBy w2 v.ownBlock) : SpR w s v' (ws ++ [(a, b)]) w2 := by
  obtain ⟨h1, h2, h3, h4⟩ := h
  have bx := below_box wr o
  have hz := bx.size
  have hrow : ∀ q, v.ownBlock = some q -> w.heap.size + 1 <= q := fun q hq => (h1.lt q hq).1
  refine ⟨by rw [L2.cellsT_snoc, List.length_append]; exact own, (hg.block _ (by omega) (fun e => by have := hrow _ e.symm; omega)).trans ((bx.block _ h4).trans h2), ?_, by have := hg.size; omega⟩
  exact ⟨hg.os.trans (bx.os.trans h3.os), hg.tape.trans (bx.tape.trans h3.tape), hg.output.trans (bx.output.trans h3.output), by have := hg.size; have := h3.size; omega, fun k hk => (hg.block k (by omega) (fun e => by have := hrow k e.symm; omega)).trans ((bx.block k (by omega)).trans (h3.block k hk))⟩
theorem rsplit (s : ByteArray) (hs : s.size <= 65536) (hn : ∀ c ∈ s.data.toList, (c.toNat : Int) ≠ 35) {ws : List (Nat × Nat)} (hw : L2.words s = .inr ws) : Splits s (toks s ws) := by
  intro w
  obtain ⟨i0, hi, hz0, hz1, hz2⟩ := info_parts L2.Tryz.info96
  have hs1 : ¬ (65536 : Int) < (s.size : Int) := by omega
  have hs2 : decide ((65536 : Int) < (s.size : Int)) = false := by simpa using hs1
  have HN := hide hn
  have HW : Hid (L2.scan (s.data.toList.drop 0) 0 [] none false = .inr ws) := hide hw
  have S0 : Hid (SpR w s (.slice none 0 0) [] (w.alloc (.cells #[.int .i64 0, .int .i64 0] 28))) := hide ⟨World.ownsRow_nil _ _ _ _, heap_alloc_new w _, below_box w _, by simp⟩
  clear hn hw
  go_enter Tryz.func57, Tryz.ntmps57
  go_upto_region 1 with fail
  show Code.wp _ _ _ _ (w.alloc (.cells #[.int .i64 0, .int .i64 0] 28))
  generalize w.alloc (.cells #[.int .i64 0, .int .i64 0] 28) = W0 at *
  go_wp2_with fail
  go_loopw [4, 5] (fun v i wr => ∃ (p : Nat) (us : List (Nat × Nat)), p <= s.size /\ i = .int .i64 p /\ us.length <= p /\ Hid (SpR w s v us wr) /\ Hid (L2.scan (s.data.toList.drop p) p us none false = .inr ws)) (fun _ i _ => s.size - (intOf i).toNat)
  case atStart => exact ⟨0, [], Nat.zero_le _, rfl, by simp, S0, HW⟩
  case round =>
    obtain ⟨p, us, hp, rfl, hus, S, HR⟩ := hrel
    by_cases hlt : p < s.size
    . have hlt' : (p : Int) < (s.size : Int) := by omega
      obtain ⟨d, hd⟩ : ∃ d, d = s[p] := ⟨_, rfl⟩
      have hd1 : (s[p].toNat : Int) = (d.toNat : Int) := by rw [hd]
      have HD : Hid (L2.scan (d :: s.data.toList.drop (p + 1)) p us none false = .inr ws) := hide (by rw [hd, <- L2.drop_cons s p hlt]; exact HR.out)
      have hn35 : ((d.toNat : Int) == 35) = false := by
        have := HN.out d (by rw [hd]; exact List.mem_of_mem_drop (i := p) (by rw [L2.drop_cons s p hlt]; simp))
        simpa using this
      clear hd
      obtain ⟨ao, cp, rfl⟩ := own_len S.out.1
      go_wp2_with fail
      refine (rin d [32, 9, 10, 13] _ (by simp)).mono ?_; rintro e w1 ⟨rfl, hw1⟩
      rw [hw1]
      clear hw1
      cases hb : inB [32, 9, 10, 13] d with
      | true =>
        have HE : Hid (L2.scan (s.data.toList.drop (p + 1)) (p + 1) us none false = .inr ws) := hide (by
          obtain ⟨k1, k2, k3, k4⟩ := kind_bla d hb
          have := HD.out
          rwa [L2.scan_bla _ _ _ _ k1 k2 k3 k4] at this)
        clear HD HR hb
        go_wp2_with fail
        go_roundw
        case rel => exact ⟨p + 1, us, by omega, by go_num, by omega, S, HE⟩
        case measure => simp [intOf]; omega
      | false =>
        go_wp2_with fail
        refine (rin d [40, 41, 123, 125, 61, 58] _ (by simp)).mono ?_; rintro e w1 ⟨rfl, hw1⟩
        rw [hw1]
        clear hw1
        cases ha : inB [40, 41, 123, 125, 61, 58] d with
        | true =>
          have HE : Hid (L2.scan (s.data.toList.drop (p + 1)) (p + 1) (us ++ [(p, p + 1)]) none false = .inr ws) := hide (by
            obtain ⟨k1, k2⟩ := kind_alo d ha
            have := HD.out
            rwa [L2.scan_alo _ _ _ _ k1 k2] at this)
          have OS := hide S.out.1
          have hsw := S.out.2.2.2
          have t2 : us.length + 1 <= maxLen := by unfold maxLen; omega
          have t3 : (us.length + 1) * 24 <= 140737488355328 := by omega
          clear HD HR hb ha
          go_wp2_with (at_builtin; refine wpList_append_own _ rfl (.tmp 39) (.tmp 47) 71 rfl (w.heap.size + 1) 96 i0 _ 2 24 Tryz.underlying71 hi hz0 hz1 hz2 rfl (by decide) _ _ _ rfl (OS.out.alloc _) ⟨wr.heap.size, 0, none⟩ 1 1 [.string (s.extract p (p + 1)), .int .i64 p] rfl rfl L2.cells_two L2.one_two t2 t3 (by simp; omega) ?_; intro v2 w2 own2 grow2 _)
          have S2 := hide (S.out.step own2 grow2)
          clear own2 grow2
          go_wp2_with fail
          go_roundw
          case rel => exact ⟨p + 1, us ++ [(p, p + 1)], by omega, by go_num, by simp; omega, S2, HE⟩
          case measure => simp [intOf]; omega
        | false =>
          have hlet : letB d = true := by
            cases hl : letB d with
            | true => rfl
            | false =>
              have := HD.out
              rw [L2.scan_err _ _ _ _ (by rw [<- letB_tog]; exact hl) (by rw [<- inB_alo]; exact ha) (by simpa using hn35) (by rw [<- inB_bla]; exact hb)] at this
              cases this
          have HLET := hide hlet
          go_wp2_with fail
          refine (rletter d _).mono ?_; rintro e w1 ⟨rfl, hw1⟩
          rw [hw1, HLET.out]
          clear hw1 hlet
          have HR0 : Hid (L2.scan (s.data.toList.drop p) p us none false = .inr ws) := HR
          clear HD HR hb ha
          go_wp2_with fail
          go_loopw [7] (fun j wr2 => ∃ (q : Nat) (bq : Option Nat), p <= q /\ q <= s.size /\ j = .int .i64 q /\ Hid (SpR w s (.slice ao us.length cp) us wr2) /\ Hid (bq.getD q = p /\ (p < q -> bq = some p) /\ L2.scan (s.data.toList.drop q) q us bq false = .inr ws)) (fun j _ => s.size - (intOf j).toNat)
          case atStart => exact ⟨p, none, Nat.le_refl _, by omega, rfl, S, hide ⟨rfl, fun h => absurd h (Nat.lt_irrefl _), HR0.out⟩⟩
          case round =>
            obtain ⟨q, bq, hpq, hqs, rfl, SQ, HQ⟩ := hrel
            have fin : Hid ((∀ c r, s.data.toList.drop q = c :: r -> L2.togB c.toNat = false) -> p < q /\ L2.scan (s.data.toList.drop q) q (us ++ [(p, q)]) none false = .inr ws) := hide (by
              intro hx
              have hpq2 : p < q := by
                refine Classical.byContradiction fun hc => ?_
                have e : q = p := by omega
                have := hx _ _ (by rw [e]; exact L2.drop_cons s p hlt)
                have h2 := HLET.out
                rw [letB_tog] at h2
                have h3 : (s[p].toNat : Int) = (d.toNat : Int) := hd1
                rw [h3] at this
                rw [this] at h2
                cases h2
              obtain ⟨_, k2, k3⟩ := HQ.out
              rw [k2 hpq2, scan_shut _ _ _ _ hx] at k3
              exact ⟨hpq2, k3⟩)
            by_cases hq : q < s.size
            . have hq' : (q : Int) < (s.size : Int) := by omega
              obtain ⟨d2, hd2⟩ : ∃ d2, d2 = s[q] := ⟨_, rfl⟩
              have hd3 : (s[q].toNat : Int) = (d2.toNat : Int) := by rw [hd2]
              have HDQ := hide (show s.data.toList.drop q = d2 :: s.data.toList.drop (q + 1) by rw [hd2]; exact L2.drop_cons s q hq)
              clear hd2
              go_wp2_with fail
              refine (rletter d2 _).mono ?_; rintro e w1 ⟨rfl, hw1⟩
              rw [hw1]
              clear hw1
              cases hl2 : letB d2 with
              | true =>
                have HQ2 : Hid ((some p).getD (q + 1) = p /\ (p < q + 1 -> some p = some p) /\ L2.scan (s.data.toList.drop (q + 1)) (q + 1) us (some p) false = .inr ws) := hide ⟨rfl, fun _ => rfl, by
                  obtain ⟨k1, _, k3⟩ := HQ.out
                  rw [HDQ.out, L2.scan_tog _ _ _ _ (by rw [<- letB_tog]; exact hl2), k1] at k3
                  exact k3⟩
                clear HQ fin HDQ hl2
                go_wp2_with fail
                go_roundw
                case rel => exact ⟨q + 1, some p, by omega, by omega, by go_num, SQ, hide ⟨rfl, fun _ => rfl, HQ2.out.2.2⟩⟩
                case measure => simp [intOf]; omega
              | false =>
                have HF := hide (fin.out fun c r hcr => by
                  rw [HDQ.out] at hcr
                  cases hcr
                  rw [<- letB_tog]; exact hl2)
                clear HQ fin HDQ hl2
                have OS := hide SQ.out.1
                have hsw := SQ.out.2.2.2
                have t2 : us.length + 1 <= maxLen := by unfold maxLen; omega
                have t3 : (us.length + 1) * 24 <= 140737488355328 := by omega
                go_wp2_with (at_builtin; refine wpList_append_own _ rfl (.tmp 66) (.tmp 73) 71 rfl (w.heap.size + 1) 96 i0 _ 2 24 Tryz.underlying71 hi hz0 hz1 hz2 rfl (by decide) _ _ _ rfl (OS.out.alloc _) ⟨wr.heap.size, 0, none⟩ 1 1 [.string (s.extract p q), .int .i64 p] rfl rfl L2.cells_two L2.one_two t2 t3 (by simp; omega) ?_; intro v2 w2 own2 grow2 _)
                have S2 := hide (SQ.out.step own2 grow2)
                have hpq2 := HF.out.1
                clear own2 grow2
                go_wp2_with fail
                go_roundw
                case rel => exact ⟨q, us ++ [(p, q)], hqs, rfl, by simp; omega, S2, hide HF.out.2⟩
                case measure => simp [intOf]; omega
            . have hq' : ¬ (q : Int) < (s.size : Int) := by omega
              have hq2 : decide ((q : Int) < (s.size : Int)) = false := by simpa using hq'
              have HF := hide (fin.out fun c r hcr => by
                rw [List.drop_eq_nil_of_le (by have e9 : s.data.toList.length = s.size := (by simp); omega)] at hcr
                cases hcr)
              clear HQ fin
              have OS := hide SQ.out.1
              have hsw := SQ.out.2.2.2
              have t2 : us.length + 1 <= maxLen := by unfold maxLen; omega
              have t3 : (us.length + 1) * 24 <= 140737488355328 := by omega
              go_wp2_with (at_builtin; refine wpList_append_own _ rfl (.tmp 66) (.tmp 73) 71 rfl (w.heap.size + 1) 96 i0 _ 2 24 Tryz.underlying71 hi hz0 hz1 hz2 rfl (by decide) _ _ _ rfl (OS.out.alloc _) ⟨wr.heap.size, 0, none⟩ 1 1 [.string (s.extract p q), .int .i64 p] rfl rfl L2.cells_two L2.one_two t2 t3 (by simp; omega) ?_; intro v2 w2 own2 grow2 _)
              have S2 := hide (SQ.out.step own2 grow2)
              have hpq2 := HF.out.1
              clear own2 grow2
              go_wp2_with fail
              go_roundw
              case rel => exact ⟨q, us ++ [(p, q)], hqs, rfl, by simp; omega, S2, hide HF.out.2⟩
              case measure => simp [intOf]; omega
    . have hlt' : ¬ (p : Int) < (s.size : Int) := by omega
      have hlt2 : decide ((p : Int) < (s.size : Int)) = false := by simpa using hlt'
      obtain rfl : us = ws := by
        have := HR.out
        rw [List.drop_eq_nil_of_le (by have e9 : s.data.toList.length = s.size := (by simp); omega)] at this
        injection this
      obtain ⟨ao, cp, rfl⟩ := own_len S.out.1
      obtain ⟨o1, s3, bb, hwz⟩ := S.out
      have u1 : wr.cell? ⟨w.heap.size, 0, none⟩ = some (.int .i64 0) := by simp [World.cell?, s3]
      have u2 : wr.cell? ⟨w.heap.size, 1, none⟩ = some (.int .i64 0) := by simp [World.cell?, s3]
      have v1 : wr.frozen? ⟨w.heap.size, 0, none⟩ = false := by simp [World.frozen?, s3]
      have v2 : wr.frozen? ⟨w.heap.size, 1, none⟩ = false := by simp [World.frozen?, s3]
      have FF := ((Far.refl w.heap.size wr).set 0 (.int .i64 0)).set 1 (.int .i64 0)
      have OO := hide (own_base (FF.own o1 (own_ne o1 s3 (by decide))) (Nat.le_succ w.heap.size))
      have BB := hide ((bb.setCell (p := ⟨w.heap.size, 0, none⟩) (Nat.le_refl _) (.int .i64 0)).setCell (p := ⟨w.heap.size, 1, none⟩) (Nat.le_refl _) (.int .i64 0))
      have HL := hide (show us.length = (toks s us).length by simp [toks])
      have HC := hide (toks_cells s us)
      clear o1 s3 bb FF S HR
      go_wp2_with fail
      exact bodyPost_ret (v := .tuple #[.slice ao us.length cp, .agg #[.int .i64 0, .int .i64 0]]) (by simp [results, Tryz.results57, go_sem, u1, u2]) rfl ⟨_, rfl, by rw [<- HC.out, <- HL.out]; exact OO.out, BB.out⟩
end Go.Proofs.YtahhbckccdigoaaGreatDoor
namespace Go.Proofs.YtahhbckccdigoaaGreatDoor
open Go Go.RowKit
open G (Tok Er Ins Fun)
def sSmall : ByteArray := { data := #[102, 117, 110, 99, 32, 109, 97, 105, 110, 40, 105, 32, 112, 41, 32, 105, 32, 123, 32, 98, 48, 58, 32, 37, 50, 32, 61, 32, 99, 111, 110, 115, 116, 32, 45, 53, 32, 37, 51, 32, 61, 32, 110, 101, 119, 32, 105, 112, 32, 115, 116, 111, 114, 101, 46, 112, 32, 37, 51, 32, 49, 32, 37, 49, 32, 98, 114, 32, 98, 49, 32, 98, 49, 58, 32, 37, 52, 32, 61, 32, 112, 104, 105, 46, 105, 32, 98, 48, 32, 37, 50, 32, 98, 49, 32, 37, 53, 32, 37, 53, 32, 61, 32, 97, 100, 100, 32, 37, 52, 32, 37, 48, 32, 37, 54, 32, 61, 32, 99, 97, 108, 108, 46, 105, 32, 64, 55, 32, 102, 32, 37, 51, 32, 105, 102, 32, 37, 54, 32, 98, 49, 32, 98, 50, 32, 98, 50, 58, 32, 111, 117, 116, 32, 37, 53, 32, 114, 101, 116, 32, 37, 53, 32, 125, 32, 102, 117, 110, 99, 32, 102, 40, 112, 41, 32, 105, 32, 123, 32, 98, 48, 58, 32, 37, 49, 32, 61, 32, 108, 111, 97, 100, 46, 105, 32, 37, 48, 32, 48, 32, 114, 101, 116, 32, 37, 49, 32, 125] }
def x21 : Ins := (21, 6, 7, 1, [3], [], [102], 113)
def bOne : List Ins := [(20, 4, 0, 1, [2, 5], [0, 1], [], 75), (2, 5, 0, 0, [4, 0], [], [], 98), x21, (27, -1, 0, 0, [6], [1, 2], [], 133)]
def bNought : List Ins := [(1, 2, -5, 0, [], [], [], 23), (10, 3, 0, 0, [], [], [105, 112], 37), (14, -1, 1, 0, [3, 1], [], [], 49), (26, -1, 0, 0, [], [1], [], 65)]
def bTwo : List Ins := [(22, -1, 0, 0, [5], [], [], 149), (28, -1, 0, 0, [5], [], [], 156)]
def fMain : Fun := ([109, 97, 105, 110], [1, 2], 1, [bNought, bOne, bTwo], 0)
def fF : Fun := ([102], [2], 1, [[(11, 1, 0, 0, [0], [], [], 183), (28, -1, 0, 0, [1], [], [], 200)]], 165)
def dec0 : DecidableEq (List UInt8 × Int) := instDecidableEqProd
def dec1 : DecidableEq (List Int × List UInt8 × Int) := @instDecidableEqProd _ _ _ dec0
def dec2 : DecidableEq (List Int × List Int × List UInt8 × Int) := @instDecidableEqProd _ _ _ dec1
def dec3 : DecidableEq (Int × List Int × List Int × List UInt8 × Int) := @instDecidableEqProd _ _ _ dec2
def dec4 : DecidableEq (Int × Int × List Int × List Int × List UInt8 × Int) := @instDecidableEqProd _ _ _ dec3
def dec5 : DecidableEq (Int × Int × Int × List Int × List Int × List UInt8 × Int) := @instDecidableEqProd _ _ _ dec4
def dec6 : DecidableEq Ins := @instDecidableEqProd _ _ _ dec5
def dec7 : DecidableEq (List Ins) := @instDecidableEqList _ dec6
def dec8 : DecidableEq (List (List Ins)) := @instDecidableEqList _ dec7
def dec9 : DecidableEq (List (List Ins) × Int) := @instDecidableEqProd _ _ dec8 _
def decA : DecidableEq (Int × List (List Ins) × Int) := @instDecidableEqProd _ _ _ dec9
def decB : DecidableEq (List Int × Int × List (List Ins) × Int) := @instDecidableEqProd _ _ _ decA
def decC : DecidableEq Fun := @instDecidableEqProd _ _ _ decB
def decD : DecidableEq (List Fun) := @instDecidableEqList _ decC
def same (r : Except Er (List Fun)) (q : Except Er (List Fun)) : Bool := match r, q with
  | .ok xs, .ok ys => @decide (xs = ys) (decD xs ys)
  | .error x, .error y => decide (x = y)
  | _, _ => false
theorem same_eq {r q : Except Er (List Fun)} (h : same r q = true) : r = q := by
  unfold same at h
  split at h
  . rename_i xs ys
    rw [@of_decide_eq_true _ (decD xs ys) h]
  . rw [of_decide_eq_true h]
  . exact absurd h (by simp)
theorem small_is : textG sSmall = .ok [fMain, fF] := same_eq (by decide +kernel)
end Go.Proofs.YtahhbckccdigoaaGreatDoor
namespace Go.Proofs.YtahhbckccdigoaaGreatDoor
open Go Go.RowKit
open G (Tok Er Ins Fun peek0 peek1 atOf)
theorem fw_end {E : Int} : ∀ (f n : Nat) (acc : List Fun) (l : List Tok) (xs : List Fun) (n' : Nat) (r : List Tok), l.length < f -> fwG E f n acc l = .ok ((xs, n'), r) -> r = [] := by
  intro f
  induction f with
  | zero => intro n acc l xs n' r h; omega
  | succ f ih =>
    intro n acc l xs n' r h hr
    by_cases hl : l = []
    . subst hl; rw [fw_stop] at hr; cases hr; rfl
    . by_cases h32 : acc.length < 32
      . cases hq : funG E n l with
        | error er => rw [fw_bad hl h32 hq] at hr; cases hr
        | ok p =>
          have hless := fun_less (x := p.1.1) (n' := p.1.2) (l' := p.2) hq
          rw [fw_go (x := p.1.1) (n' := p.1.2) (l' := p.2) hl h32 hq] at hr
          exact ih _ _ _ _ _ _ (by omega) hr
      . rw [fw_many hl (by omega)] at hr; cases hr
theorem rtext_any (s : ByteArray) (hs : s.size <= 65536) (hn : ∀ c ∈ s.data.toList, (c.toNat : Int) ≠ 35) {xs : List Fun} (h : textG s = .ok xs) (w : World) :
    Calls Tryz.prog 23 #[.string s] w fun e w' => ∃ v, e = .returned (.tuple #[.agg #[v], .agg #[.int .i64 0, .int .i64 0]]) /\ ProgVal w.heap.size xs v w' /\ Below w.heap.size w w' := by
  unfold textG at h
  cases hw : L2.words s with
  | inl x => rw [hw] at h; cases h
  | inr ws =>
    rw [hw] at h
    replace h : (match progG (s.size : Int) (toks s ws) with | .ok ((xs, _), _) => Except.ok xs | .error er => .error er) = .ok xs := h
    cases hp : progG (s.size : Int) (toks s ws) with
    | error er => rw [hp] at h; cases h
    | ok p =>
      obtain ⟨⟨ys, n'⟩, r⟩ := p
      rw [hp] at h
      cases h
      have hr : r = [] := fw_end _ _ _ _ _ _ _ (Nat.lt_succ_self _) hp
      subst hr
      exact rtext s (toks_short hw hs) (rsplit s hs hn hw) hp w
end Go.Proofs.YtahhbckccdigoaaGreatDoor
namespace Go.Proofs.YtahhbckccdigoaaGreatDoor
open Go Go.RowKit
open G (Tok Er Ins Fun)
theorem own_view {w : World} {B e s n : Nat} {v : Value} {xs : List Value} (h : w.ownsRow B e s v n xs) : (v = .slice none 0 0 /\ n = 0) \/ ∃ g cap, v = .slice (some ⟨g, 0, none⟩) n cap /\ n <= cap /\ cap <= maxLen /\ B <= g /\ g < w.heap.size /\ (∀ j u, xs[j]? = some u -> w.cell? ⟨g, j, none⟩ = some u) /\ ∀ j, w.frozen? ⟨g, j, none⟩ = false := by
  rcases h.2 with ⟨hv, hn⟩ | ⟨g, cap, cur, hv2, hbb, hg, hc1, hc2, hc3, hc4⟩
  . exact .inl ⟨hv, hn⟩
  . refine .inr ⟨g, cap, hv2, hc1, hc2, hbb, (Array.getElem?_eq_some_iff.1 hg).1, fun j u hj => ?_, fun j => by simp [World.frozen?, hg]⟩
    have := h.cells (g := g) (by rw [hv2]; rfl) j u hj
    rwa [Addr.add_lit, Nat.zero_add] at this
theorem FRow.at {B : Nat} {w : World} : ∀ (l : List Fun) (cs : List Value) (i : Nat) (x : Fun), FRow B w l cs -> l[i]? = some x -> ∃ vp vb, (∀ j u, (funCells x vp vb)[j]? = some u -> cs[i * 5 + j]? = some u) /\ w.ownsRow B 3 1 vp x.2.1.length (ints x.2.1) /\ BlksVal B x.2.2.2.1 vb w := by
  intro l
  induction l with
  | nil => intro cs i x _ h; simp at h
  | cons y r ih =>
    rintro cs i x ⟨vp, vb, rest, rfl, h1, h2, h3⟩ hi
    cases i with
    | zero =>
      simp at hi; subst hi
      refine ⟨vp, vb, fun j u hj => ?_, h1, h2⟩
      have hl : j < (funCells y vp vb).length := (List.getElem?_eq_some_iff.1 hj).1
      rw [show 0 * 5 + j = j by omega, List.getElem?_append_left hl]; exact hj
    | succ i =>
      obtain ⟨up, ub, k1, k2, k3⟩ := ih rest i x h3 (by simpa using hi)
      refine ⟨up, ub, fun j u hj => ?_, k2, k3⟩
      have hl : (funCells y vp vb).length = 5 := rfl
      rw [List.getElem?_append_right (by rw [hl]; omega), hl, show (i + 1) * 5 + j - 5 = i * 5 + j by omega]
      exact k1 j u hj
theorem InsRow.at {B : Nat} {w : World} : ∀ (l : List Ins) (cs : List Value) (i : Nat) (x : Ins), InsRow B w l cs -> l[i]? = some x -> ∃ va vt, (∀ j u, (insCells x va vt)[j]? = some u -> cs[i * 8 + j]? = some u) /\ w.ownsRow B 3 1 va x.2.2.2.2.1.length (ints x.2.2.2.2.1) /\ w.ownsRow B 3 1 vt x.2.2.2.2.2.1.length (ints x.2.2.2.2.2.1) := by
  intro l
  induction l with
  | nil => intro cs i x _ h; simp at h
  | cons y r ih =>
    rintro cs i x ⟨vp, vb, rest, rfl, h1, h2, h3⟩ hi
    cases i with
    | zero =>
      simp at hi; subst hi
      refine ⟨vp, vb, fun j u hj => ?_, h1, h2⟩
      have hl : j < (insCells y vp vb).length := (List.getElem?_eq_some_iff.1 hj).1
      rw [show 0 * 8 + j = j by omega, List.getElem?_append_left hl]; exact hj
    | succ i =>
      obtain ⟨up, ub, k1, k2, k3⟩ := ih rest i x h3 (by simpa using hi)
      refine ⟨up, ub, fun j u hj => ?_, k2, k3⟩
      have hl : (insCells y vp vb).length = 8 := rfl
      rw [List.getElem?_append_right (by rw [hl]; omega), hl, show (i + 1) * 8 + j - 8 = i * 8 + j by omega]
      exact k1 j u hj
theorem BRow.at {B : Nat} {w : World} : ∀ (l : List (List Ins)) (vs : List Value) (i : Nat) (b : List Ins), BRow B w l vs -> l[i]? = some b -> ∃ v, vs[i]? = some v /\ BlkVal B b v w := by
  intro l
  induction l with
  | nil => intro cs i x _ h; simp at h
  | cons y r ih =>
    rintro cs i x ⟨v, rest, rfl, h1, h2⟩ hi
    cases i with
    | zero => simp at hi; subst hi; exact ⟨v, by simp, h1⟩
    | succ i =>
      obtain ⟨u, k1, k2⟩ := ih rest i x h2 (by simpa using hi)
      exact ⟨u, by simpa using k1, k2⟩
theorem BlksVal.len {B : Nat} {xs : List (List Ins)} {v : Value} {w : World} (h : BlksVal B xs v w) : ∃ ao cap, v = .slice ao xs.length cap := by
  obtain ⟨cs, h1, h2⟩ := h; exact own_len h1
theorem BlkVal.len {B : Nat} {xs : List Ins} {v : Value} {w : World} (h : BlkVal B xs v w) : ∃ ao cap, v = .slice ao xs.length cap := by
  obtain ⟨cs, h1, h2⟩ := h; exact own_len h1
theorem ProgVal.len {B : Nat} {xs : List Fun} {v : Value} {w : World} (h : ProgVal B xs v w) : ∃ ao cap, v = .slice ao xs.length cap := by
  obtain ⟨cs, h1, h2⟩ := h; exact own_len h1
def boxes (w : World) (v a b : Value) : World := (w.alloc (.cells #[v] 24)).alloc (.cells #[a, b] 28)
theorem boxes_ok (w : World) (v a b : Value) : Below w.heap.size w (boxes w v a b) /\ (boxes w v a b).heap[w.heap.size]? = some (.cells #[v] 24 (0, 0)) /\ (boxes w v a b).heap[w.heap.size + 1]? = some (.cells #[a, b] 28 (0, 0)) := by
  refine ⟨below_step (below_box w _) (below_box _ _), (heap_alloc_old _ _ (by simp)).trans (heap_alloc_new w _), ?_⟩
  have := heap_alloc_new (w.alloc (.cells #[v] 24)) (.cells #[a, b] 28)
  rwa [show (w.alloc (.cells #[v] 24)).heap.size = w.heap.size + 1 from by simp] at this
theorem small_any (w : World) : Calls Tryz.prog 24 #[] w fun e w' => e = .returned (.string sSmall) /\ w' = w := by
  go_enter Tryz.func24, Tryz.ntmps24
  go_wp2_with fail
  go_ret
  exact ⟨rfl, rfl⟩
end Go.Proofs.YtahhbckccdigoaaGreatDoor
namespace Go.Proofs.YtahhbckccdigoaaGreatDoor.L2
open Go.RowKit
theorem size42 : (Tryz.prog.info? 109).map (fun i => i.size) = some 2 := by kernel_rfl
theorem lies42 : liesAt Tryz.prog Tryz.prog.depth 109 (2 / Tryz.prog.cellsOf 109) 0 109 1 = true := by kernel_rfl
theorem Tryz.info5 : (Tryz.prog.info? 5).map (fun i => (i.zero, i.size, i.bytes)) = some (some (.int .u8 0), 1, 1) := by kernel_rfl
theorem check_used (b : Nat) (w : World) (h0 : w.cell? ⟨b, 0, none⟩ = some (.pointer (some ⟨b, 0, none⟩))) :
    Calls Tryz.prog 105 #[.pointer (some ⟨b, 0, none⟩)] w fun e w' => e = .returned (.tuple #[]) /\ w' = w := by
  obtain ⟨j, hj, _⟩ := Option.map_eq_some_iff.1 size42
  have hne := fun w => Lib.run_neq_ptr_same (P := Tryz.prog) w ⟨b, 0, none⟩ Tryz.underlying107 hj
  go_enter Tryz.func105, Tryz.ntmps105
  go_wp2
  go_end0
  exact ⟨rfl, rfl⟩
theorem check_fresh (b : Nat) (w : World) (h0 : w.cell? ⟨b, 0, none⟩ = some (.pointer none)) (hsh : w.shape? b = some (109, 2)) (hfz : w.frozen? ⟨b, 0, none⟩ = false) :
    Calls Tryz.prog 105 #[.pointer (some ⟨b, 0, none⟩)] w fun e w' => e = .returned (.tuple #[]) /\ w' = w.setCell ⟨b, 0, none⟩ (.pointer (some ⟨b, 0, none⟩)) := by
  obtain ⟨j, hj, hjs⟩ := Option.map_eq_some_iff.1 size42
  have hto := Lib.run_to_unsafe (P := Tryz.prog) w ⟨b, 0, none⟩ Tryz.underlying107 Tryz.underlying129 hj (by rw [hjs]; decide) hsh (Nat.zero_lt_succ 1)
  have hfrom := Lib.run_from_unsafe (P := Tryz.prog) w ⟨b, 0, none⟩ Tryz.underlying129 Tryz.underlying107 hj hsh lies42
  go_enter Tryz.func105, Tryz.ntmps105
  go_wp2
  rw [run_callFunc_extern Tryz.func117 (by kernel_rfl) (by kernel_rfl) (by kernel_rfl) (e := Extern.AbiNoEscape.same) (by kernel_rfl), Lib.run_noEscape]
  simp only [Result.andThen]
  rw [Oper.upon_value]
  go_wp2
  go_end0
  exact ⟨rfl, rfl⟩
theorem check_any (B b : Nat) (bs : List Value) (w : World) (h : Lib.IsBuilder 109 5 B b bs w) :
    Calls Tryz.prog 105 #[.pointer (some ⟨b, 0, none⟩)] w fun e w' => e = .returned (.tuple #[]) /\ Lib.BuilderAt 109 5 B b (.pointer (some ⟨b, 0, none⟩)) bs w' /\ Below B w w' /\ Lib.OthersKept 5 (some b) w w' := by
  rcases h with h | h
  . refine (check_fresh b w h.cell0 h.shape h.frozen0).mono ?_
    rintro e w' ⟨rfl, rfl⟩
    exact ⟨rfl, h.used _, (Below.refl B w).setCell (p := ⟨b, 0, none⟩) h.1 _, (Lib.OthersKept.refl _ _ w).setCell ⟨b, 0, none⟩ rfl _⟩
  . refine (check_used b w h.cell0).mono ?_
    rintro e w' ⟨rfl, rfl⟩
    exact ⟨rfl, h, Below.refl B _, Lib.OthersKept.refl _ _ _⟩
theorem built_cells {B b : Nat} {p : Value} {bs : List Value} {w : World} (h : Lib.BuilderAt 109 5 B b p bs w) : ∃ v, w.heap[b]? = some (.cells #[p, v] 109 (0, 0)) /\ w.cell? ⟨b, 0, none⟩ = some p /\ w.cell? ⟨b, 1, none⟩ = some v /\ w.frozen? ⟨b, 1, none⟩ = false /\ w.ownsRow B 5 1 v bs.length bs /\ v.ownBlock ≠ some b /\ b < w.heap.size /\ B <= b := by
  have hl := h.lt
  obtain ⟨hB, v, hb, hown, hne⟩ := h
  exact ⟨v, hb, by rw [Lib.cell_of_heap hb]; rfl, by rw [Lib.cell_of_heap hb]; rfl, Lib.frozen_of_heap hb 1, hown, hne, hl, hB⟩
theorem row_kind {w : World} {B : Nat} {v : Value} {n : Nat} {xs : List Value} (h : w.ownsRow B 5 1 v n xs) : ∀ g, v.ownBlock = some g -> ∃ c fz, w.heap[g]? = some (.cells c 5 fz) := Lib.ownsRowF_kind (World.ownsRowF_of h)
theorem own_shape {w : World} {B : Nat} {v : Value} {n : Nat} {xs : List Value} (h : w.ownsRow B 5 1 v n xs) : ∃ ao nn cc, v = .slice ao nn cc := by
  rcases h.2 with ⟨rfl, _⟩ | ⟨g, cap, cur, rfl, _⟩
  . exact ⟨_, _, _, rfl⟩
  . exact ⟨_, _, _, rfl⟩
theorem built_put {B b : Nat} {p v v' : Value} {bs bs' : List Value} {w1 wa w2 : World} (hb : wa.heap[b]? = some (.cells #[p, v] 109 (0, 0))) (hne : v.ownBlock ≠ some b) (hB : B <= b) (hown : wa.ownsRow B 5 1 v bs.length bs) (hbw : Below B w1 wa) (hk : Lib.OthersKept 5 (some b) w1 wa) (hBw : B <= wa.heap.size)
    (hown' : w2.ownsRow B 5 1 v' bs'.length bs') (hg : wa.grownBy w2 v.ownBlock) : w2.cell? ⟨b, 0, none⟩ = some p /\ w2.cell? ⟨b, 1, none⟩ = some v /\ w2.frozen? ⟨b, 1, none⟩ = false /\
      Hid (Lib.BuilderAt 109 5 B b p bs' (w2.setCell ⟨b, 1, none⟩ v') /\ Below B w1 (w2.setCell ⟨b, 1, none⟩ v') /\ Lib.OthersKept 5 (some b) w1 (w2.setCell ⟨b, 1, none⟩ v')) := by
  have hl := (Array.getElem?_eq_some_iff.1 hb).1
  have hb2 : w2.heap[b]? = some (.cells #[p, v] 109 (0, 0)) := (hg.block b hl (fun e => hne e.symm)).trans hb
  exact ⟨by rw [Lib.cell_of_heap hb2]; rfl, by rw [Lib.cell_of_heap hb2]; rfl, Lib.frozen_of_heap hb2 1, hideS ⟨Lib.BuilderAt.put hB hb2 hown' (by decide), (hbw.grown hg hBw (fun k hk => (hown.lt k hk).1)).setCell (p := ⟨b, 1, none⟩) hB _, (hk.grown hg (row_kind hown)).setCell ⟨b, 1, none⟩ rfl _⟩⟩
theorem string_any (B b : Nat) (bs : List Value) (s : ByteArray) (w : World) (h : Lib.IsBuilder 109 5 B b bs w) (hlen : bs.length + s.size <= 140737488355328) (hBw : B <= w.heap.size) :
    Calls Tryz.prog 96 #[.pointer (some ⟨b, 0, none⟩), .string s] w fun e w' => e = .returned (.tuple #[.int .i64 s.size, .nilIface]) /\ Lib.IsBuilder 109 5 B b (bs ++ Lib.strCells s) w' /\ Below B w w' /\ Lib.OthersKept 5 (some b) w w' := by
  obtain ⟨i0, hi, hz0, hz1, hz2⟩ := info_parts Tryz.info5
  go_enter Tryz.func96, Tryz.ntmps96
  go_wp2_with fail
  refine (check_any B b bs _ h).mono ?_
  rintro e w1 ⟨rfl, h1, b1, k1⟩
  obtain ⟨v, hb, c0, c1, f1, hown, hne, hl, hB⟩ := built_cells h1
  have hs1 := b1.size
  have HO := hideS hown
  clear hown h1
  go_wp2_with (at_builtin; refine Lib.wpList_append_own_string _ rfl (.tmp 12) (.tmp 13) 90 9 rfl B 5 i0 Tryz.underlying90 Tryz.underlying9 hi hz0 hz1 hz2 _ _ _ rfl (unhideS HO) s rfl (by unfold maxLen; omega) (by omega) (by omega) ?_; intro v2 w2 own2 grow2 _; obtain ⟨ao, nn, cc, rfl⟩ := own_shape own2; obtain ⟨d0, d1, d2, HD⟩ := built_put (bs' := bs ++ Lib.strCells s) hb hne hB (unhideS HO) b1 k1 (by omega) (by simpa [Lib.strCells_length] using own2) grow2; clear own2 grow2)
  go_ret2
  exact ⟨rfl, .inr (unhideS HD).1, (unhideS HD).2⟩
end Go.Proofs.YtahhbckccdigoaaGreatDoor.L2
namespace Go.Proofs
open Go.Shelf
def Tryz.lays169_ren : Go.Shelf.Ren := ⟨fun | 169 => 97 | n => n, fun | 70 => 107 | 9 => 9 | 0 => 0 | 72 => 109 | 37 => 90 | 127 => 121 | 3 => 3 | 5 => 5 | n => n, fun | n => n⟩
theorem Tryz.lays169 : Go.Proofs.Lays.n169 Tryz.prog Tryz.lays169_ren := {
  mixed := by kernel_rfl
  f169 := Tryz.func97.trans (congrArg some (by kernel_rfl))
  t0 := Tryz.underlying0
  a0 := Tryz.isAgg0
  z0 := Tryz.sizeOf0
  v0 := Tryz.zeroValue0
  t3 := Tryz.underlying3
  a3 := Tryz.isAgg3
  z3 := Tryz.sizeOf3
  v3 := Tryz.zeroValue3
  t9 := Tryz.underlying9
  a9 := Tryz.isAgg9
  z9 := Tryz.sizeOf9
  v9 := Tryz.zeroValue9
  t37 := Tryz.underlying90
  a37 := Tryz.isAgg90
  z37 := Tryz.sizeOf90
  v37 := Tryz.zeroValue90
  t70 := Tryz.underlying107
  a70 := Tryz.isAgg107
  z70 := Tryz.sizeOf107
  v70 := Tryz.zeroValue107
  t72 := Tryz.underlying109
  a72 := Tryz.isAgg109
  z72 := Tryz.sizeOf109
  v72 := Tryz.zeroValue109
  t127 := Tryz.underlying121
  a127 := Tryz.isAgg121
  z127 := Tryz.sizeOf121
  v127 := Tryz.zeroValue121 }
theorem Tryz.Builder_Extra_169 : Builder.Extra Tryz.prog Tryz.lays169_ren := {
  sizeBuilder := by kernel_rfl
  liesBuilder := by kernel_rfl
  t5 := Tryz.underlying5
  a5 := Tryz.isAgg5
  z5 := Tryz.sizeOf5
  v5 := Tryz.zeroValue5
  infoByte := by kernel_rfl
  cellsByte := by kernel_rfl
  sizeByte := by kernel_rfl
  neB5 := by decide }
open Go.RowKit in
theorem Tryz.Builder_String_any (B b : Nat) (l : List UInt8) (w : World) (h : Lib.IsBuilder 109 5 B b (Lib.byteCells l) w) (hBw : B <= w.heap.size) :
    Calls Tryz.prog 97 #[.pointer (some ⟨b, 0, none⟩)] w fun e w' => e = .returned (.string ⟨l.toArray⟩) /\ Below B w w' := Any.Builder_String_any Tryz.lays169 Tryz.Builder_Extra_169 B b l w h hBw
def Tryz.lays241_ren : Go.Shelf.Ren := ⟨fun | 241 => 106 | 277 => 118 | n => n, fun | 70 => 107 | 0 => 0 | 72 => 109 | 37 => 90 | 3 => 3 | 5 => 5 | 9 => 9 | 127 => 121 | n => n, fun | n => n⟩
theorem Tryz.lays241 : Go.Proofs.Lays.n241 Tryz.prog Tryz.lays241_ren := {
  mixed := by kernel_rfl
  f241 := Tryz.func106.trans (congrArg some (by kernel_rfl))
  f277 := Tryz.func118.trans (congrArg some (by kernel_rfl))
  t0 := Tryz.underlying0
  a0 := Tryz.isAgg0
  z0 := Tryz.sizeOf0
  v0 := Tryz.zeroValue0
  t3 := Tryz.underlying3
  a3 := Tryz.isAgg3
  z3 := Tryz.sizeOf3
  v3 := Tryz.zeroValue3
  t37 := Tryz.underlying90
  a37 := Tryz.isAgg90
  z37 := Tryz.sizeOf90
  v37 := Tryz.zeroValue90
  t70 := Tryz.underlying107
  a70 := Tryz.isAgg107
  z70 := Tryz.sizeOf107
  v70 := Tryz.zeroValue107
  t72 := Tryz.underlying109
  a72 := Tryz.isAgg109
  z72 := Tryz.sizeOf109
  v72 := Tryz.zeroValue109 }
theorem Tryz.Builder_Extra_241 : Builder.Extra Tryz.prog Tryz.lays241_ren := {
  sizeBuilder := by kernel_rfl
  liesBuilder := by kernel_rfl
  t5 := Tryz.underlying5
  a5 := Tryz.isAgg5
  z5 := Tryz.sizeOf5
  v5 := Tryz.zeroValue5
  infoByte := by kernel_rfl
  cellsByte := by kernel_rfl
  sizeByte := by kernel_rfl
  neB5 := by decide }
open Go.RowKit in
theorem Tryz.Builder_grow_fresh (B b n : Nat) (w : World) (hB : B <= b) (hbk : w.heap[b]? = some (.cells #[.pointer (some ⟨b, 0, none⟩), .slice none 0 0] 109 (0, 0))) (hBw : B <= w.heap.size) (hn : n <= 281474976710656) :
    Calls Tryz.prog 106 #[.pointer (some ⟨b, 0, none⟩), .int .i64 n] w fun e w' => e = .returned (.tuple #[]) /\ (Lib.BuilderAt 109 5 B b (.pointer (some ⟨b, 0, none⟩)) [] w' /\ Below B w w') := Any.Builder_grow_fresh Tryz.lays241 Tryz.Builder_Extra_241 B b n w hB hbk hBw hn
end Go.Proofs
