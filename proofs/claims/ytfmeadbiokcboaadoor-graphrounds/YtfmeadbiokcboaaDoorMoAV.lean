/- Layer 2, the reference's split: which bytes are of which kind. Layer 2, the reference's split, at texts without notes. Layer 6, the reference's Text at texts without notes that are programs; the small text. Layer 8: the function that forks, meets again, and goes back. Layer 8: whether a function is well shaped, and no more than is waited for. -/
import Derived.Test.YtfmeadbiokcboaaDoorMoAE
import Derived.Test.YtfmeadbiokcboaaDoorMoAG
import Derived.Test.YtfmeadbiokcboaaDoorMoAI
import Derived.Test.YtfmeadbiokcboaaDoorMoAK
import Derived.Test.YtfmeadbiokcboaaDoorMoAU
namespace Go.Proofs.YtfmeadbiokcboaaDoor
open Go Go.RowKit
open G (Tok Er Ins Fun peek0 peek1 atOf)
/-- A byte is one of these. -/
def inB : List UInt8 → UInt8 → Bool
  | [], _ => false
  | d :: r, c => if d = c then true else inB r c
theorem inB_drop {t : List UInt8} {k : Nat} {c d : UInt8} (h : t[k]? = some d) : inB (t.drop k) c = if d = c then true else inB (t.drop (k + 1)) c := by
  obtain ⟨h1, h2⟩ := List.getElem?_eq_some_iff.1 h
  rw [List.drop_eq_getElem_cons h1, h2]; rfl
set_option maxHeartbeats 1000000 in
theorem rin (c : UInt8) (t : List UInt8) (w : World) (ht : t.length ≤ 100) : Calls Tryd.prog 48 #[.int .u8 (c.toNat : Int), .string (bs t)] w fun e w' => e = .returned (.bool (inB t c)) ∧ w' = w := by
  have hz : (bs t).size ≤ 100 := by rw [bs_size]; exact ht
  have HZ := hide (bs_size t)
  go_enter Tryd.func48, Tryd.ntmps48
  go_wp2_with fail
  go_loopw [5] (fun i wr => ∃ k : Nat, k ≤ t.length ∧ i = .int .i64 k ∧ Hid (wr = w) ∧ Hid (inB t c = inB (t.drop k) c)) (fun i _ => t.length - (intOf i).toNat)
  case atStart => exact ⟨0, Nat.zero_le _, rfl, hide rfl, rfl⟩
  case round =>
    obtain ⟨k, hk, rfl, hw, HC⟩ := hrel
    obtain rfl := hw.out
    by_cases hlt : k < t.length
    · obtain ⟨d, hd, _⟩ := drop_at hlt
      obtain ⟨hkz, hb⟩ := bs_at hd
      have hkz' : (k : Int) < ((bs t).size : Int) := by omega
      have HD := hide (inB_drop (c := c) hd)
      by_cases hdc : d = c
      · have hb1 : ((bs t)[k].toNat : Int) = (c.toNat : Int) := by rw [hb, hdc]
        have HE : Hid (inB t c = true) := hide (by rw [HC.out, HD.out, if_pos hdc])
        clear hb hd hdc HD HC
        go_wp2_with fail
        go_ret
        exact ⟨ret_bool HE.out.symm, rfl⟩
      · have hb1 : (((bs t)[k].toNat : Int) == (c.toNat : Int)) = false := by
          rw [hb]
          have h2 : d.toNat ≠ c.toNat := fun e => hdc (UInt8.toNat_inj.1 e)
          simpa using fun e : (d.toNat : Int) = c.toNat => h2 (by omega)
        have HE : Hid (inB t c = inB (t.drop (k + 1)) c) := hide (by rw [HC.out, HD.out, if_neg hdc])
        clear hb hd hdc HD HC
        go_wp2_with fail
        go_roundw
        case rel => exact ⟨k + 1, by omega, by go_num, hide trivial, HE⟩
        case measure => simp [intOf]; omega
    · have HE : Hid (inB t c = false) := hide (by rw [HC.out, List.drop_eq_nil_of_le (by omega)]; rfl)
      have hkz' : ¬ (k : Int) < ((bs t).size : Int) := by have := HZ.out; omega
      have hkz2 : decide ((k : Int) < ((bs t).size : Int)) = false := by simpa using hkz'
      go_wp2_with fail
      go_ret
      exact ⟨ret_bool HE.out.symm, rfl⟩
/-- A byte that words are made of. -/
def letB (c : UInt8) : Bool := (decide (97 ≤ c.toNat) && decide (c.toNat ≤ 122)) || (decide (65 ≤ c.toNat) && decide (c.toNat ≤ 90)) || (decide (48 ≤ c.toNat) && decide (c.toNat ≤ 57)) || inB [46, 37, 64, 45, 95] c
theorem letB_tog (c : UInt8) : letB c = L2.togB c.toNat := by
  have key : ∀ n : Fin 256, letB (UInt8.ofNat n.val) = L2.togB (UInt8.ofNat n.val).toNat := by decide +kernel
  have := key ⟨c.toNat, c.toNat_lt⟩
  rwa [show UInt8.ofNat c.toNat = c from UInt8.ofNat_toNat] at this
theorem inB_alo (c : UInt8) : inB [40, 41, 123, 125, 61, 58] c = L2.aloB c.toNat := by
  have key : ∀ n : Fin 256, inB [40, 41, 123, 125, 61, 58] (UInt8.ofNat n.val) = L2.aloB (UInt8.ofNat n.val).toNat := by decide +kernel
  have := key ⟨c.toNat, c.toNat_lt⟩
  rwa [show UInt8.ofNat c.toNat = c from UInt8.ofNat_toNat] at this
theorem inB_bla (c : UInt8) : inB [32, 9, 10, 13] c = L2.blaB c.toNat := by
  have key : ∀ n : Fin 256, inB [32, 9, 10, 13] (UInt8.ofNat n.val) = L2.blaB (UInt8.ofNat n.val).toNat := by decide +kernel
  have := key ⟨c.toNat, c.toNat_lt⟩
  rwa [show UInt8.ofNat c.toNat = c from UInt8.ofNat_toNat] at this
set_option maxHeartbeats 1000000 in
theorem rletter (c : UInt8) (w : World) : Calls Tryd.prog 49 #[.int .u8 (c.toNat : Int)] w fun e w' => e = .returned (.bool (letB c)) ∧ w' = w := by
  have HB : Hid (letB c = ((decide (97 ≤ c.toNat) && decide (c.toNat ≤ 122)) || (decide (65 ≤ c.toNat) && decide (c.toNat ≤ 90)) || (decide (48 ≤ c.toNat) && decide (c.toNat ≤ 57)) || inB [46, 37, 64, 45, 95] c)) := hide rfl
  have key : ∀ n : Nat, (c.toNat : Int) = n → Calls Tryd.prog 49 #[.int .u8 (n : Int)] w fun e w' => e = .returned (.bool ((decide (97 ≤ n) && decide (n ≤ 122)) || (decide (65 ≤ n) && decide (n ≤ 90)) || (decide (48 ≤ n) && decide (n ≤ 57)) || inB [46, 37, 64, 45, 95] c)) ∧ w' = w := by
    intro n hn
    have HI := hide (rin c [46, 37, 64, 45, 95] w (by simp))
    rw [hn] at HI
    clear hn HB
    have hyes : (97 ≤ n ∧ n ≤ 122) ∨ (65 ≤ n ∧ n ≤ 90) ∨ (48 ≤ n ∧ n ≤ 57) → true = ((decide (97 ≤ n) && decide (n ≤ 122)) || (decide (65 ≤ n) && decide (n ≤ 90)) || (decide (48 ≤ n) && decide (n ≤ 57)) || inB [46, 37, 64, 45, 95] c) := by
      rintro (h | h | h) <;> simp [h]
    have hno : ¬ ((97 ≤ n ∧ n ≤ 122) ∨ (65 ≤ n ∧ n ≤ 90) ∨ (48 ≤ n ∧ n ≤ 57)) → inB [46, 37, 64, 45, 95] c = ((decide (97 ≤ n) && decide (n ≤ 122)) || (decide (65 ≤ n) && decide (n ≤ 90)) || (decide (48 ≤ n) && decide (n ≤ 57)) || inB [46, 37, 64, 45, 95] c) := by
      intro h
      have e1 : (decide (97 ≤ n) && decide (n ≤ 122)) = false := by simp; omega
      have e2 : (decide (65 ≤ n) && decide (n ≤ 90)) = false := by simp; omega
      have e3 : (decide (48 ≤ n) && decide (n ≤ 57)) = false := by simp; omega
      rw [e1, e2, e3]; rfl
    have hyes := hide hyes
    have hno := hide hno
    by_cases h1 : (97 : Int) ≤ n <;> by_cases h2 : (n : Int) ≤ 122 <;> by_cases h3 : (65 : Int) ≤ n <;> by_cases h4 : (n : Int) ≤ 90 <;> by_cases h5 : (48 : Int) ≤ n <;> by_cases h6 : (n : Int) ≤ 57
    all_goals first
      | (exfalso; omega)
      | (go_enter Tryd.func49, Tryd.ntmps49
         go_wp2_with fail
         go_ret
         exact ⟨ret_bool (hyes.out (by omega)), rfl⟩)
      | (go_enter Tryd.func49, Tryd.ntmps49
         go_wp2_with fail
         refine HI.out.mono ?_; rintro e w1 ⟨rfl, hw1⟩
         rw [hw1]
         go_wp2_with fail
         go_ret
         exact ⟨ret_bool (hno.out (by omega)), rfl⟩)
  rw [HB.out]
  exact key c.toNat rfl
end Go.Proofs.YtfmeadbiokcboaaDoor
namespace Go.Proofs.YtfmeadbiokcboaaDoor
open Go Go.RowKit
open G (Tok Er Ins Fun peek0 peek1 atOf)
theorem kind_bla (c : UInt8) (h : inB [32, 9, 10, 13] c = true) : L2.togB c.toNat = false ∧ L2.aloB c.toNat = false ∧ ¬ (c.toNat : Int) = 35 ∧ L2.blaB c.toNat = true := by
  have key : ∀ n : Fin 256, inB [32, 9, 10, 13] (UInt8.ofNat n.val) = true → L2.togB (UInt8.ofNat n.val).toNat = false ∧ L2.aloB (UInt8.ofNat n.val).toNat = false ∧ ¬ ((UInt8.ofNat n.val).toNat : Int) = 35 ∧ L2.blaB (UInt8.ofNat n.val).toNat = true := by decide +kernel
  have := key ⟨c.toNat, c.toNat_lt⟩
  rw [show UInt8.ofNat c.toNat = c from UInt8.ofNat_toNat] at this
  exact this h
theorem kind_alo (c : UInt8) (h : inB [40, 41, 123, 125, 61, 58] c = true) : L2.togB c.toNat = false ∧ L2.aloB c.toNat = true := by
  have key : ∀ n : Fin 256, inB [40, 41, 123, 125, 61, 58] (UInt8.ofNat n.val) = true → L2.togB (UInt8.ofNat n.val).toNat = false ∧ L2.aloB (UInt8.ofNat n.val).toNat = true := by decide +kernel
  have := key ⟨c.toNat, c.toNat_lt⟩
  rw [show UInt8.ofNat c.toNat = c from UInt8.ofNat_toNat] at this
  exact this h
/-- A word that is shut. -/
theorem scan_shut (l : List UInt8) (p q : Nat) (ws : List (Nat × Nat)) (h : ∀ c r, l = c :: r → L2.togB c.toNat = false) : L2.scan l q ws (some p) false = L2.scan l q (ws ++ [(p, q)]) none false := by
  cases l with
  | nil => rfl
  | cons c r =>
    have hc := h c r rfl
    by_cases h2 : L2.aloB c.toNat = true
    · rw [L2.scan_alo r q ws (some p) hc h2, L2.scan_alo r q (ws ++ [(p, q)]) none hc h2]; rfl
    · have h2 : L2.aloB c.toNat = false := by simpa using h2
      by_cases h3 : (c.toNat : Int) = 35
      · rw [L2.scan_hash r q ws (some p) hc h2 h3, L2.scan_hash r q (ws ++ [(p, q)]) none hc h2 h3]; rfl
      · by_cases h4 : L2.blaB c.toNat = true
        · rw [L2.scan_bla r q ws (some p) hc h2 h3 h4, L2.scan_bla r q (ws ++ [(p, q)]) none hc h2 h3 h4]; rfl
        · have h4 : L2.blaB c.toNat = false := by simpa using h4
          rw [L2.scan_err r q ws (some p) hc h2 h3 h4, L2.scan_err r q (ws ++ [(p, q)]) none hc h2 h3 h4]
/-- The words so far stand in memory, and the place of what is wrong. -/
def SpR (w : World) (s : ByteArray) (v : Value) (ws : List (Nat × Nat)) (wr : World) : Prop :=
  wr.ownsRow (w.heap.size + 1) 77 2 v ws.length (L2.cellsT (ws.map (L2.tok s))) ∧ wr.heap[w.heap.size]? = some (.cells #[.int .i64 0, .int .i64 0] 33 (0, 0)) ∧ Below w.heap.size w wr ∧ w.heap.size < wr.heap.size
theorem SpR.step {w wr w2 : World} {s : ByteArray} {v v' : Value} {ws : List (Nat × Nat)} {a b : Nat} {o : Obj} (h : SpR w s v ws wr)
    (own : w2.ownsRow (w.heap.size + 1) 77 2 v' (ws.length + 1) (L2.cellsT (ws.map (L2.tok s)) ++ [.string (s.extract a b), .int .i64 a])) (hg : (wr.alloc o).grownBy w2 v.ownBlock) : SpR w s v' (ws ++ [(a, b)]) w2 := by
  obtain ⟨h1, h2, h3, h4⟩ := h
  have bx := below_box wr o
  have hz := bx.size
  have hrow : ∀ q, v.ownBlock = some q → w.heap.size + 1 ≤ q := fun q hq => (h1.lt q hq).1
  refine ⟨by rw [L2.cellsT_snoc, List.length_append]; exact own, (hg.block _ (by omega) (fun e => by have := hrow _ e.symm; omega)).trans ((bx.block _ h4).trans h2), ?_, by have := hg.size; omega⟩
  exact ⟨hg.os.trans (bx.os.trans h3.os), hg.tape.trans (bx.tape.trans h3.tape), hg.output.trans (bx.output.trans h3.output), by have := hg.size; have := h3.size; omega, fun k hk => (hg.block k (by omega) (fun e => by have := hrow k e.symm; omega)).trans ((bx.block k (by omega)).trans (h3.block k hk))⟩
set_option maxHeartbeats 8000000 in
set_option maxRecDepth 20000 in
theorem rsplit (s : ByteArray) (hs : s.size ≤ 65536) (hn : ∀ c ∈ s.data.toList, (c.toNat : Int) ≠ 35) {ws : List (Nat × Nat)} (hw : L2.words s = .inr ws) : Splits s (toks s ws) := by
  intro w
  obtain ⟨i0, hi, hz0, hz1, hz2⟩ := info_parts L2.Tryd.info77
  have hs1 : ¬ (65536 : Int) < (s.size : Int) := by omega
  have hs2 : decide ((65536 : Int) < (s.size : Int)) = false := by simpa using hs1
  have HN := hide hn
  have HW : Hid (L2.scan (s.data.toList.drop 0) 0 [] none false = .inr ws) := hide hw
  have S0 : Hid (SpR w s (.slice none 0 0) [] (w.alloc (.cells #[.int .i64 0, .int .i64 0] 33))) := hide ⟨World.ownsRow_nil _ _ _ _, heap_alloc_new w _, below_box w _, by simp⟩
  clear hn hw
  go_enter Tryd.func43, Tryd.ntmps43
  go_upto_region 1 with fail
  show Code.wp _ _ _ _ (w.alloc (.cells #[.int .i64 0, .int .i64 0] 33))
  generalize w.alloc (.cells #[.int .i64 0, .int .i64 0] 33) = W0 at *
  go_wp2_with fail
  go_loopw [4, 5] (fun v i wr => ∃ (p : Nat) (us : List (Nat × Nat)), p ≤ s.size ∧ i = .int .i64 p ∧ us.length ≤ p ∧ Hid (SpR w s v us wr) ∧ Hid (L2.scan (s.data.toList.drop p) p us none false = .inr ws)) (fun _ i _ => s.size - (intOf i).toNat)
  case atStart => exact ⟨0, [], Nat.zero_le _, rfl, by simp, S0, HW⟩
  case round =>
    obtain ⟨p, us, hp, rfl, hus, S, HR⟩ := hrel
    by_cases hlt : p < s.size
    · have hlt' : (p : Int) < (s.size : Int) := by omega
      obtain ⟨d, hd⟩ : ∃ d, d = s[p] := ⟨_, rfl⟩
      have hd1 : (s[p].toNat : Int) = (d.toNat : Int) := by rw [hd]
      have HD : Hid (L2.scan (d :: s.data.toList.drop (p + 1)) p us none false = .inr ws) := hide (by rw [hd, ← L2.drop_cons s p hlt]; exact HR.out)
      have hn35 : ((d.toNat : Int) == 35) = false := by
        have := HN.out d (by rw [hd]; exact List.mem_of_mem_drop (i := p) (by rw [L2.drop_cons s p hlt]; simp))
        simpa using this
      clear hd
      obtain ⟨ao, cp, rfl⟩ := own_len S.out.1
      go_wp2_with fail
      refine (rin d [32, 9, 10, 13] _ (by simp)).mono ?_; rintro e w1 ⟨rfl, hw1⟩
      rw [hw1]
      clear hw1
      cases hb : inB [32, 9, 10, 13] d with
      | true =>
        have HE : Hid (L2.scan (s.data.toList.drop (p + 1)) (p + 1) us none false = .inr ws) := hide (by
          obtain ⟨k1, k2, k3, k4⟩ := kind_bla d hb
          have := HD.out
          rwa [L2.scan_bla _ _ _ _ k1 k2 k3 k4] at this)
        clear HD HR hb
        go_wp2_with fail
        go_roundw
        case rel => exact ⟨p + 1, us, by omega, by go_num, by omega, S, HE⟩
        case measure => simp [intOf]; omega
      | false =>
        go_wp2_with fail
        refine (rin d [40, 41, 123, 125, 61, 58] _ (by simp)).mono ?_; rintro e w1 ⟨rfl, hw1⟩
        rw [hw1]
        clear hw1
        cases ha : inB [40, 41, 123, 125, 61, 58] d with
        | true =>
          have HE : Hid (L2.scan (s.data.toList.drop (p + 1)) (p + 1) (us ++ [(p, p + 1)]) none false = .inr ws) := hide (by
            obtain ⟨k1, k2⟩ := kind_alo d ha
            have := HD.out
            rwa [L2.scan_alo _ _ _ _ k1 k2] at this)
          have OS := hide S.out.1
          have hsw := S.out.2.2.2
          have t2 : us.length + 1 ≤ maxLen := by unfold maxLen; omega
          have t3 : (us.length + 1) * 24 ≤ 140737488355328 := by omega
          clear HD HR hb ha
          go_wp2_with (at_builtin; refine wpList_append_own _ rfl (.tmp 39) (.tmp 47) 67 rfl (w.heap.size + 1) 77 i0 _ 2 24 Tryd.underlying67 hi hz0 hz1 hz2 rfl (by decide) _ _ _ rfl (OS.out.alloc _) ⟨wr.heap.size, 0, none⟩ 1 1 [.string (s.extract p (p + 1)), .int .i64 p] rfl rfl L2.cells_two L2.one_two t2 t3 (by simp; omega) ?_; intro v2 w2 own2 grow2 _)
          have S2 := hide (S.out.step own2 grow2)
          clear own2 grow2
          go_wp2_with fail
          go_roundw
          case rel => exact ⟨p + 1, us ++ [(p, p + 1)], by omega, by go_num, by simp; omega, S2, HE⟩
          case measure => simp [intOf]; omega
        | false =>
          have hlet : letB d = true := by
            cases hl : letB d with
            | true => rfl
            | false =>
              have := HD.out
              rw [L2.scan_err _ _ _ _ (by rw [← letB_tog]; exact hl) (by rw [← inB_alo]; exact ha) (by simpa using hn35) (by rw [← inB_bla]; exact hb)] at this
              cases this
          have HLET := hide hlet
          go_wp2_with fail
          refine (rletter d _).mono ?_; rintro e w1 ⟨rfl, hw1⟩
          rw [hw1, HLET.out]
          clear hw1 hlet
          have HR0 : Hid (L2.scan (s.data.toList.drop p) p us none false = .inr ws) := HR
          clear HD HR hb ha
          go_wp2_with fail
          go_loopw [7] (fun j wr2 => ∃ (q : Nat) (bq : Option Nat), p ≤ q ∧ q ≤ s.size ∧ j = .int .i64 q ∧ Hid (SpR w s (.slice ao us.length cp) us wr2) ∧ Hid (bq.getD q = p ∧ (p < q → bq = some p) ∧ L2.scan (s.data.toList.drop q) q us bq false = .inr ws)) (fun j _ => s.size - (intOf j).toNat)
          case atStart => exact ⟨p, none, Nat.le_refl _, by omega, rfl, S, hide ⟨rfl, fun h => absurd h (Nat.lt_irrefl _), HR0.out⟩⟩
          case round =>
            obtain ⟨q, bq, hpq, hqs, rfl, SQ, HQ⟩ := hrel
            have fin : Hid ((∀ c r, s.data.toList.drop q = c :: r → L2.togB c.toNat = false) → p < q ∧ L2.scan (s.data.toList.drop q) q (us ++ [(p, q)]) none false = .inr ws) := hide (by
              intro hx
              have hpq2 : p < q := by
                refine Classical.byContradiction fun hc => ?_
                have e : q = p := by omega
                have := hx _ _ (by rw [e]; exact L2.drop_cons s p hlt)
                have h2 := HLET.out
                rw [letB_tog] at h2
                have h3 : (s[p].toNat : Int) = (d.toNat : Int) := hd1
                rw [h3] at this
                rw [this] at h2
                cases h2
              obtain ⟨_, k2, k3⟩ := HQ.out
              rw [k2 hpq2, scan_shut _ _ _ _ hx] at k3
              exact ⟨hpq2, k3⟩)
            by_cases hq : q < s.size
            · have hq' : (q : Int) < (s.size : Int) := by omega
              obtain ⟨d2, hd2⟩ : ∃ d2, d2 = s[q] := ⟨_, rfl⟩
              have hd3 : (s[q].toNat : Int) = (d2.toNat : Int) := by rw [hd2]
              have HDQ := hide (show s.data.toList.drop q = d2 :: s.data.toList.drop (q + 1) by rw [hd2]; exact L2.drop_cons s q hq)
              clear hd2
              go_wp2_with fail
              refine (rletter d2 _).mono ?_; rintro e w1 ⟨rfl, hw1⟩
              rw [hw1]
              clear hw1
              cases hl2 : letB d2 with
              | true =>
                have HQ2 : Hid ((some p).getD (q + 1) = p ∧ (p < q + 1 → some p = some p) ∧ L2.scan (s.data.toList.drop (q + 1)) (q + 1) us (some p) false = .inr ws) := hide ⟨rfl, fun _ => rfl, by
                  obtain ⟨k1, _, k3⟩ := HQ.out
                  rw [HDQ.out, L2.scan_tog _ _ _ _ (by rw [← letB_tog]; exact hl2), k1] at k3
                  exact k3⟩
                clear HQ fin HDQ hl2
                go_wp2_with fail
                go_roundw
                case rel => exact ⟨q + 1, some p, by omega, by omega, by go_num, SQ, hide ⟨rfl, fun _ => rfl, HQ2.out.2.2⟩⟩
                case measure => simp [intOf]; omega
              | false =>
                have HF := hide (fin.out fun c r hcr => by
                  rw [HDQ.out] at hcr
                  cases hcr
                  rw [← letB_tog]; exact hl2)
                clear HQ fin HDQ hl2
                have OS := hide SQ.out.1
                have hsw := SQ.out.2.2.2
                have t2 : us.length + 1 ≤ maxLen := by unfold maxLen; omega
                have t3 : (us.length + 1) * 24 ≤ 140737488355328 := by omega
                go_wp2_with (at_builtin; refine wpList_append_own _ rfl (.tmp 66) (.tmp 73) 67 rfl (w.heap.size + 1) 77 i0 _ 2 24 Tryd.underlying67 hi hz0 hz1 hz2 rfl (by decide) _ _ _ rfl (OS.out.alloc _) ⟨wr.heap.size, 0, none⟩ 1 1 [.string (s.extract p q), .int .i64 p] rfl rfl L2.cells_two L2.one_two t2 t3 (by simp; omega) ?_; intro v2 w2 own2 grow2 _)
                have S2 := hide (SQ.out.step own2 grow2)
                have hpq2 := HF.out.1
                clear own2 grow2
                go_wp2_with fail
                go_roundw
                case rel => exact ⟨q, us ++ [(p, q)], hqs, rfl, by simp; omega, S2, hide HF.out.2⟩
                case measure => simp [intOf]; omega
            · have hq' : ¬ (q : Int) < (s.size : Int) := by omega
              have hq2 : decide ((q : Int) < (s.size : Int)) = false := by simpa using hq'
              have HF := hide (fin.out fun c r hcr => by
                rw [List.drop_eq_nil_of_le (by have e9 : s.data.toList.length = s.size := (by simp); omega)] at hcr
                cases hcr)
              clear HQ fin
              have OS := hide SQ.out.1
              have hsw := SQ.out.2.2.2
              have t2 : us.length + 1 ≤ maxLen := by unfold maxLen; omega
              have t3 : (us.length + 1) * 24 ≤ 140737488355328 := by omega
              go_wp2_with (at_builtin; refine wpList_append_own _ rfl (.tmp 66) (.tmp 73) 67 rfl (w.heap.size + 1) 77 i0 _ 2 24 Tryd.underlying67 hi hz0 hz1 hz2 rfl (by decide) _ _ _ rfl (OS.out.alloc _) ⟨wr.heap.size, 0, none⟩ 1 1 [.string (s.extract p q), .int .i64 p] rfl rfl L2.cells_two L2.one_two t2 t3 (by simp; omega) ?_; intro v2 w2 own2 grow2 _)
              have S2 := hide (SQ.out.step own2 grow2)
              have hpq2 := HF.out.1
              clear own2 grow2
              go_wp2_with fail
              go_roundw
              case rel => exact ⟨q, us ++ [(p, q)], hqs, rfl, by simp; omega, S2, hide HF.out.2⟩
              case measure => simp [intOf]; omega
    · have hlt' : ¬ (p : Int) < (s.size : Int) := by omega
      have hlt2 : decide ((p : Int) < (s.size : Int)) = false := by simpa using hlt'
      obtain rfl : us = ws := by
        have := HR.out
        rw [List.drop_eq_nil_of_le (by have e9 : s.data.toList.length = s.size := (by simp); omega)] at this
        injection this
      obtain ⟨ao, cp, rfl⟩ := own_len S.out.1
      obtain ⟨o1, s3, bb, hwz⟩ := S.out
      have u1 : wr.cell? ⟨w.heap.size, 0, none⟩ = some (.int .i64 0) := by simp [World.cell?, s3]
      have u2 : wr.cell? ⟨w.heap.size, 1, none⟩ = some (.int .i64 0) := by simp [World.cell?, s3]
      have v1 : wr.frozen? ⟨w.heap.size, 0, none⟩ = false := by simp [World.frozen?, s3]
      have v2 : wr.frozen? ⟨w.heap.size, 1, none⟩ = false := by simp [World.frozen?, s3]
      have FF := ((Far.refl w.heap.size wr).set 0 (.int .i64 0)).set 1 (.int .i64 0)
      have OO := hide (own_base (FF.own o1 (own_ne o1 s3 (by decide))) (Nat.le_succ w.heap.size))
      have BB := hide ((bb.setCell (p := ⟨w.heap.size, 0, none⟩) (Nat.le_refl _) (.int .i64 0)).setCell (p := ⟨w.heap.size, 1, none⟩) (Nat.le_refl _) (.int .i64 0))
      have HL := hide (show us.length = (toks s us).length by simp [toks])
      have HC := hide (toks_cells s us)
      clear o1 s3 bb FF S HR
      go_wp2_with fail
      exact bodyPost_ret (v := .tuple #[.slice ao us.length cp, .agg #[.int .i64 0, .int .i64 0]]) (by simp [results, Tryd.results43, go_sem, u1, u2]) rfl ⟨_, rfl, by rw [← HC.out, ← HL.out]; exact OO.out, BB.out⟩
end Go.Proofs.YtfmeadbiokcboaaDoor
namespace Go.Proofs.YtfmeadbiokcboaaDoor
open Go Go.RowKit
open G (Tok Er Ins Fun peek0 peek1 atOf)
theorem fw_end {E : Int} : ∀ (f n : Nat) (acc : List Fun) (l : List Tok) (xs : List Fun) (n' : Nat) (r : List Tok), l.length < f → fwG E f n acc l = .ok ((xs, n'), r) → r = [] := by
  intro f
  induction f with
  | zero => intro n acc l xs n' r h; omega
  | succ f ih =>
    intro n acc l xs n' r h hr
    by_cases hl : l = []
    · subst hl; rw [fw_stop] at hr; cases hr; rfl
    · by_cases h32 : acc.length < 32
      · cases hq : funG E n l with
        | error er => rw [fw_bad hl h32 hq] at hr; cases hr
        | ok p =>
          have hless := fun_less (x := p.1.1) (n' := p.1.2) (l' := p.2) hq
          rw [fw_go (x := p.1.1) (n' := p.1.2) (l' := p.2) hl h32 hq] at hr
          exact ih _ _ _ _ _ _ (by omega) hr
      · rw [fw_many hl (by omega)] at hr; cases hr
/-- The reference reads a text without notes that is a program. -/
theorem rtext_any (s : ByteArray) (hs : s.size ≤ 65536) (hn : ∀ c ∈ s.data.toList, (c.toNat : Int) ≠ 35) {xs : List Fun} (h : textG s = .ok xs) (w : World) :
    Calls Tryd.prog 38 #[.string s] w fun e w' => ∃ v, e = .returned (.tuple #[.agg #[v], .agg #[.int .i64 0, .int .i64 0]]) ∧ ProgVal w.heap.size xs v w' ∧ Below w.heap.size w w' := by
  unfold textG at h
  cases hw : L2.words s with
  | inl x => rw [hw] at h; cases h
  | inr ws =>
    rw [hw] at h
    replace h : (match progG (s.size : Int) (toks s ws) with | .ok ((xs, _), _) => Except.ok xs | .error er => .error er) = .ok xs := h
    cases hp : progG (s.size : Int) (toks s ws) with
    | error er => rw [hp] at h; cases h
    | ok p =>
      obtain ⟨⟨ys, n'⟩, r⟩ := p
      rw [hp] at h
      cases h
      have hr : r = [] := fw_end _ _ _ _ _ _ _ (Nat.lt_succ_self _) hp
      subst hr
      exact rtext s (toks_short hw hs) (rsplit s hs hn hw) hp w
end Go.Proofs.YtfmeadbiokcboaaDoor
namespace Go.Proofs.YtfmeadbiokcboaaDoor
open Go Go.RowKit
open G (Tok Er Ins Fun)
theorem same_eq {r q : Except Er (List Fun)} (h : same r q = true) : r = q := by
  unfold same at h
  split at h
  · rename_i xs ys
    rw [@of_decide_eq_true _ (decD xs ys) h]
  · rw [of_decide_eq_true h]
  · exact absurd h (by simp)
def sFork : ByteArray := { data := #[102, 117, 110, 99, 32, 102, 40, 105, 41, 32, 110, 32, 123, 32, 98, 48, 58, 32, 98, 114, 32, 98, 49, 32, 98, 49, 58, 32, 105, 102, 32, 37, 48, 32, 98, 50, 32, 98, 51, 32, 98, 50, 58, 32, 98, 114, 32, 98, 52, 32, 98, 51, 58, 32, 98, 114, 32, 98, 52, 32, 98, 52, 58, 32, 105, 102, 32, 37, 48, 32, 98, 49, 32, 98, 53, 32, 98, 53, 58, 32, 114, 101, 116, 32, 98, 54, 58, 32, 114, 101, 116, 32, 125] }
def bFork : List (List Ins) := [[(26, -1, 0, 0, [], [1], [], 18)], [(27, -1, 0, 0, [0], [2, 3], [], 28)], [(26, -1, 0, 0, [], [4], [], 44)], [(26, -1, 0, 0, [], [4], [], 54)], [(27, -1, 0, 0, [0], [1, 5], [], 64)], [(28, -1, 0, 0, [], [], [], 80)], [(28, -1, 0, 0, [], [], [], 88)]]
def fFork : Fun := ([102], [1], 0, bFork, 0)
theorem fork_is : textG sFork = .ok [fFork] := same_eq (by decide +kernel)
theorem fork_no : ∀ c ∈ sFork.data.toList, (c.toNat : Int) ≠ 35 := by decide +kernel
theorem fork_read (w : World) : Calls Tryd.prog 38 #[.string sFork] w fun e w' => ∃ v, e = .returned (.tuple #[.agg #[v], .agg #[.int .i64 0, .int .i64 0]]) ∧ ProgVal w.heap.size [fFork] v w' ∧ Below w.heap.size w w' :=
  rtext_any sFork (by decide +kernel) fork_no fork_is w
set_option maxHeartbeats 4000000 in
set_option maxRecDepth 20000 in
theorem fork_any (w : World) : Calls Tryd.prog 27 #[] w fun e w' => ∃ v, e = .returned v ∧ FunV w' fFork v ∧ Below w.heap.size w w' := by
  have HR := hide (fun w => fork_read w)
  go_enter Tryd.func27, Tryd.ntmps27
  go_wp2_with fail
  have H0 := hide (heap_alloc_new w (.cells #[.string ⟨#[]⟩, .slice none 0 0, .int .i64 0, .slice none 0 0, .int .i64 0] 25))
  have B0 := hide (below_box w (.cells #[.string ⟨#[]⟩, .slice none 0 0, .int .i64 0, .slice none 0 0, .int .i64 0] 25))
  have hz0 : w.heap.size < (w.alloc (.cells #[.string ⟨#[]⟩, .slice none 0 0, .int .i64 0, .slice none 0 0, .int .i64 0] 25)).heap.size := by simp
  show Calls Tryd.prog 38 #[.string sFork] (w.alloc (.cells #[.string ⟨#[]⟩, .slice none 0 0, .int .i64 0, .slice none 0 0, .int .i64 0] 25)) _
  generalize w.alloc (.cells #[.string ⟨#[]⟩, .slice none 0 0, .int .i64 0, .slice none 0 0, .int .i64 0] 25) = W at *
  refine (HR.out _).mono ?_
  rintro e w1 ⟨v, rfl, hp, b1⟩
  obtain ⟨cs, h0, hR⟩ := hp
  rcases own_view h0 with ⟨_, hn⟩ | ⟨g, pc, rfl, h1, h2, h3, h4, h5, h6⟩
  · cases hn
  obtain ⟨vp, vb, k1, k2, k3⟩ := FRow.at _ _ 0 fFork hR rfl
  obtain ⟨aoy, cy, rfl⟩ := own_len k2
  obtain ⟨vs, kb, kr⟩ := k3
  obtain ⟨boy, cby, rfl⟩ := own_len kb
  have bA := below_box w1 (.cells #[.slice (some ⟨g, 0, none⟩) 1 pc] 29)
  have bB := below_step bA (below_box (w1.alloc (.cells #[.slice (some ⟨g, 0, none⟩) 1 pc] 29)) (.cells #[.int .i64 0, .int .i64 0] 33))
  have bC := below_step b1 bB
  have q := fun j u hj => (bB.cell (p := ⟨g, j, none⟩) h4).trans (h5 j u (by have := k1 j u hj; rwa [Nat.zero_mul, Nat.zero_add] at this))
  obtain ⟨q0, q1, q2, q3, q4⟩ : _ ∧ _ ∧ _ ∧ _ ∧ _ := ⟨q 0 _ rfl, q 1 _ rfl, q 2 _ rfl, q 3 _ rfl, q 4 _ rfl⟩
  have hb := (bC.block _ hz0).trans H0.out
  have HBx := hide hb
  have HP := hide (own_below bB _ _ _ _ _ _ k2)
  have HK := hide (BlksVal.stay ⟨vs, kb, kr⟩ (stay_below bB))
  obtain ⟨d0, d1, d2, d3, d4⟩ := box5 hb
  have z : ∀ i, (((w1.alloc (.cells #[.slice (some ⟨g, 0, none⟩) 1 pc] 29)).alloc (.cells #[.int .i64 0, .int .i64 0] 33))).frozen? ⟨w.heap.size, i, none⟩ = false := fun i => by simp only [World.frozen?, hb]; simp
  obtain ⟨z0, z1, z2, z3, z4⟩ : _ ∧ _ ∧ _ ∧ _ ∧ _ := ⟨z 0, z 1, z 2, z 3, z 4⟩
  have BC := hide bC
  clear hb z bA bB bC b1 q k1 k2 kb kr h5 h6 hR h0
  go_wp2_with fail
  refine bodyPost_ret (v := .agg #[.string (bs [102]), .slice aoy 1 cy, .int .i64 0, .slice boy 7 cby, .int .i64 0]) (by simp [results, Tryd.results27, go_sem, d0, d1, d2, d3, d4]; exact ⟨rfl, rfl, rfl, rfl, rfl⟩) rfl ⟨_, rfl, ?_, ?_⟩
  · have st := far_kind (B := W.heap.size) ((((((Far.refl w.heap.size ((w1.alloc (.cells #[.slice (some ⟨g, 0, none⟩) 1 pc] 29)).alloc (.cells #[.int .i64 0, .int .i64 0] 33))).set 0 (.string (bs fFork.1))).set 1 (.slice aoy fFork.2.1.length cy)).set 2 (.int .i64 fFork.2.2.1)).set 3 (.slice boy fFork.2.2.2.1.length cby)).set 4 (.int .i64 fFork.2.2.2.2)) HBx.out (by decide)
    exact ⟨.slice aoy 1 cy, .slice boy 7 cby, rfl, ints_of (l := fFork.2.1) (st _ _ _ _ _ (.inl rfl) HP.out), blks_of (HK.out.stay st)⟩
  · have b5 := below_step B0.out BC.out
    exact ((((b5.setCell (p := ⟨w.heap.size, 0, none⟩) (Nat.le_refl _) _).setCell (p := ⟨w.heap.size, 1, none⟩) (Nat.le_refl _) _).setCell (p := ⟨w.heap.size, 2, none⟩) (Nat.le_refl _) _).setCell (p := ⟨w.heap.size, 3, none⟩) (Nat.le_refl _) _).setCell (p := ⟨w.heap.size, 4, none⟩) (Nat.le_refl _) _
end Go.Proofs.YtfmeadbiokcboaaDoor
namespace Go.Proofs.YtfmeadbiokcboaaDoor
open Go Go.RowKit
open G (Tok Er Ins Fun)
theorem rshaped_any (f : Fun) (v : Value) (w : World) (hv : FunV w f v) :
    Calls Tryd.prog 10 #[v] w fun e w' => e = .returned (.agg #[.int .i64 (shapedF f).1, .int .i64 (shapedF f).2]) ∧ Below w.heap.size w w' := by
  obtain ⟨nm, ps, rt, bl, pl⟩ := f
  have hv2 := hv
  obtain ⟨vp, vb, rfl, ⟨ao, c, rfl, h1, _⟩, h2⟩ := hv
  obtain ⟨bo, cb, rfl, _⟩ := h2
  exact rshaped_try nm ps rt pl bl ao bo c cb w hv2
/-- An instruction that is no longer than is waited for. -/
def LgtI (x : Ins) : Prop := x.2.2.2.2.2.1.length ≤ 30 ∧ x.2.2.2.2.1.length ≤ 30 ∧ x.2.2.2.2.2.2.1.length ≤ 100
def Lgt (f : Fun) : Prop := f.2.2.2.1.length ≤ 24 ∧ (∀ b ∈ f.2.2.2.1, b.length ≤ 150 ∧ ∀ x ∈ b, LgtI x) ∧ (shapedF f).1 = 0
set_option maxHeartbeats 4000000 in
set_option maxRecDepth 20000 in
theorem light_try (nm : List UInt8) (ps : List Int) (rt pl : Int) (bl : List (List Ins)) (ao bo : Option Addr) (c cb : Nat) (w : World)
    (hv : FunV w (nm, ps, rt, bl, pl) (.agg #[.string (bs nm), .slice ao ps.length c, .int .i64 rt, .slice bo bl.length cb, .int .i64 pl])) (hNA : ∀ b ∈ bl, b.length ≤ 281474976710656 ∧ ∀ x ∈ b, x.2.2.2.2.2.2.1.length ≤ maxLen) :
    Calls Tryd.prog 11 #[.agg #[.string (bs nm), .slice ao ps.length c, .int .i64 rt, .slice bo bl.length cb, .int .i64 pl]] w fun e w' => (e = .returned (.int .i64 1) ∨ (e = .returned (.int .i64 0) ∧ Lgt (nm, ps, rt, bl, pl))) ∧ Below w.heap.size w w' := by
  have b0 := below_box w (.cells #[.string (bs nm), .slice ao ps.length c, .int .i64 rt, .slice bo bl.length cb, .int .i64 pl] 25)
  have X0 := hide (L5.Box.new w [.string (bs nm), .slice ao ps.length c, .int .i64 rt, .slice bo bl.length cb, .int .i64 pl] 25)
  have HV := hide (hv.below b0)
  have HNA := hide hNA
  have B0 := hide b0
  have HB : Hid (BlksR _ bl (.slice bo bl.length cb)) := hide (by
    obtain ⟨vp, vb, e, _, hB⟩ := HV.out
    injection e with e
    have e3 := congrArg (fun a => a[3]?) e
    simp at e3
    rw [e3]; exact hB)
  have hbc : bl.length ≤ maxLen := by
    obtain ⟨_, _, e', l1, l2, _⟩ := HB.out
    exact Nat.le_trans l1 l2
  unfold maxLen at hbc
  clear hv b0 hNA
  have hfl : ∀ (a b : Value) (w : World), (Instr.field 33 (.agg #[a, b]) 0).run Tryd.prog w = .ok a w := fun _ _ _ => rfl
  go_enter Tryd.func11, Tryd.ntmps11
  go_upto_region 1 with fail
  show Code.wp _ _ _ _ (w.alloc (.cells #[.string (bs nm), .slice ao ps.length c, .int .i64 rt, .slice bo bl.length cb, .int .i64 pl] 25))
  replace X0 : Hid (L5.Box (w.alloc (.cells #[.string (bs nm), .slice ao ps.length c, .int .i64 rt, .slice bo bl.length cb, .int .i64 pl] 25)) w.heap.size [.string (bs nm), .slice ao ps.length c, .int .i64 rt, .slice bo bl.length cb, .int .i64 pl]) := X0
  generalize w.alloc (.cells #[.string (bs nm), .slice ao ps.length c, .int .i64 rt, .slice bo bl.length cb, .int .i64 pl] 25) = W at *
  obtain ⟨x0, x1, x2, x3, x4⟩ : _ ∧ _ ∧ _ ∧ _ ∧ _ := ⟨X0.out.2 0 _ rfl, X0.out.2 1 _ rfl, X0.out.2 2 _ rfl, X0.out.2 3 _ rfl, X0.out.2 4 _ rfl⟩
  by_cases h24 : (bl.length : Int) ≤ 24
  · have h24' : ¬ (24 : Int) < bl.length := by omega
    go_wp2_with fail
    clear x0 x1 x2 x3 x4
    go_loopw [3, 4] (fun nn i wr => ∃ (m K : Nat), m ≤ 150 ∧ nn = .int .i64 m ∧ K ≤ bl.length ∧ i = .int .i64 K ∧ Hid (∀ j b, j < K → bl[j]? = some b → b.length ≤ 150 ∧ ∀ x ∈ b, LgtI x) ∧ Hid (Below W.heap.size W wr)) (fun _ i _ => bl.length - (intOf i).toNat)
    case atStart => exact ⟨0, 0, by omega, rfl, Nat.zero_le _, rfl, hide (fun j b hj => by omega), hide (Below.refl _ _)⟩
    case round =>
      obtain ⟨m, K, hm, rfl, hK, rfl, HQ, HW⟩ := hrel
      obtain ⟨x0, x1, x2, x3, x4⟩ : _ ∧ _ ∧ _ ∧ _ ∧ _ := ⟨(X0.out.below HW.out).2 0 _ rfl, (X0.out.below HW.out).2 1 _ rfl, (X0.out.below HW.out).2 2 _ rfl, (X0.out.below HW.out).2 3 _ rfl, (X0.out.below HW.out).2 4 _ rfl⟩
      by_cases hkt : K < bl.length
      · obtain ⟨b, hbK⟩ : ∃ b, bl[K]? = some b := ⟨bl[K], List.getElem?_eq_getElem hkt⟩
        have hkI : (K : Int) < bl.length := by omega
        obtain ⟨_, _, e', l1, l2, l3⟩ := HB.out
        injection e' with e1 e2 e4
        subst e1 e4
        rcases l3 with l3 | ⟨gc, oc, rfl, gk, h2⟩
        · subst l3; simp at hkt
        obtain ⟨vk, kd, aok, capk, rfl, m1, m2, kk⟩ := h2 K b hbK
        have c1 := (HW.out.cell (p := ⟨gc, oc + K, none⟩) gk).trans kd
        have HKK := hide kk
        have KD := hide kd
        have HBK := hide hbK
        have hb48 := (HNA.out b (List.mem_of_getElem? hbK)).1
        unfold maxLen at m2 l2
        clear kd kk h2 hbK e2
        by_cases h150 : m + b.length ≤ 150
        · have h150' : ¬ (150 : Int) < (m : Int) + b.length := by omega
          go_wp2_with fail
          clear x0 x1 x2 x3 x4 c1
          have HW0 := HW
          clear HW
          go_loopw [5] (fun i wq => ∃ I : Nat, I ≤ b.length ∧ i = .int .i64 I ∧ Hid (∀ j x, j < I → b[j]? = some x → LgtI x) ∧ Hid (Below W.heap.size W wq)) (fun i _ => b.length - (intOf i).toNat)
          case atStart => exact ⟨0, Nat.zero_le _, rfl, hide (fun j b hj => by omega), HW0⟩
          case round =>
            clear HW0
            obtain ⟨I, hI, rfl, HI, HW⟩ := hrel
            obtain ⟨x0, x1, x2, x3, x4⟩ : _ ∧ _ ∧ _ ∧ _ ∧ _ := ⟨(X0.out.below HW.out).2 0 _ rfl, (X0.out.below HW.out).2 1 _ rfl, (X0.out.below HW.out).2 2 _ rfl, (X0.out.below HW.out).2 3 _ rfl, (X0.out.below HW.out).2 4 _ rfl⟩
            have c1 := (HW.out.cell (p := ⟨gc, oc + K, none⟩) gk).trans KD.out
            by_cases hit : I < b.length
            · have hiI : (I : Int) < b.length := by omega
              obtain ⟨x, hx⟩ : ∃ x, b[I]? = some x := ⟨b[I], List.getElem?_eq_getElem hit⟩
              rcases HKK.out with e0 | ⟨gi, oi, rfl, kk⟩
              · subst e0; simp at hit
              obtain ⟨ai, ti, ca, ct, hv, r0, r1, r2, r3, r4, r5, r6, r7⟩ := ((kk I _ hx).below HW.out).val
              have hna := (HNA.out b (List.mem_of_getElem? HBK.out)).2 x (List.mem_of_getElem? hx)
              have HNx : Hid (LgtI x → ∀ j y, j < I + 1 → b[j]? = some y → LgtI y) := hide (fun h j y hj hy => by
                by_cases e : j = I
                · subst e; rw [hx] at hy; injection hy with hy; rw [← hy]; exact h
                · exact HI.out j y (by omega) hy)
              obtain ⟨op, id, nn, ty, ar, tt, na, pp⟩ := x
              dsimp only at hv r0 r1 r2 r3 r4 r5 r6 r7 hna
              have hle : tt.length ≤ maxLen ∧ ar.length ≤ maxLen := by
                obtain ⟨a1, t1, c1, c2, e, s1, s2, s3, s4, s5, s6⟩ := hv
                exact ⟨Nat.le_trans s5 s6, Nat.le_trans s3 s4⟩
              obtain ⟨hle1, hle2⟩ := hle
              have hnl : (bs na).size = na.length := by simp [bs, ByteArray.size]
              unfold maxLen at hle1 hle2 hna
              have B7 := hide (below_step HW.out (below_box wr (.cells #[.int .i64 op, .int .i64 id, .int .i64 nn, .int .i64 ty, .slice ai ar.length ca, .slice ti tt.length ct, .string (bs na), .int .i64 pp] 53)))
              obtain ⟨s0, s1, s2, s3, s4, s5, s6, s7⟩ := box8 (heap_alloc_new wr (.cells #[.int .i64 op, .int .i64 id, .int .i64 nn, .int .i64 ty, .slice ai ar.length ca, .slice ti tt.length ct, .string (bs na), .int .i64 pp] 53))
              clear kk hx hv
              by_cases hL : LgtI (op, id, nn, ty, ar, tt, na, pp)
              · have HLx := hide (HNx.out hL)
                obtain ⟨q1, q2, q3⟩ := hL
                dsimp only at q1 q2 q3
                have q1' : ¬ (30 : Int) < tt.length := by omega
                have q2' : ¬ (30 : Int) < ar.length := by omega
                have q3' : ¬ (100 : Int) < na.length := by omega
                go_wp2_with fail
                go_roundw
                case rel => exact ⟨I + 1, by omega, by go_num, HLx, B7⟩
                case measure => simp [intOf]; omega
              · have HLn := hide hL
                clear hL
                go_wp2_with fail
                all_goals first
                  | (go_ret; exact ⟨.inl rfl, below_step B0.out B7.out⟩)
                  | (exfalso; exact HLn.out ⟨by show tt.length ≤ 30; omega, by show ar.length ≤ 30; omega, by show na.length ≤ 100; omega⟩)
            · obtain rfl : I = b.length := by omega
              have HE : Hid (∀ j y, j < K + 1 → bl[j]? = some y → y.length ≤ 150 ∧ ∀ x ∈ y, LgtI x) := hide (fun j y hj hy => by
                by_cases e : j = K
                · subst e; rw [HBK.out] at hy; injection hy with hy; rw [← hy]
                  refine ⟨by omega, fun x hx => ?_⟩
                  obtain ⟨i, hi, rfl⟩ := List.mem_iff_getElem.1 hx
                  exact HI.out i _ hi (List.getElem?_eq_getElem hi)
                · exact HQ.out j y (by omega) hy)
              go_wp2_with fail
              go_roundw
              case rel => exact ⟨m + b.length, K + 1, h150, by go_num, by omega, by go_num, HE, HW⟩
              case measure => simp [intOf]; omega
        · have h150' : (150 : Int) < (m : Int) + b.length := by omega
          go_wp2_with fail
          go_ret
          exact ⟨.inl rfl, below_step B0.out HW.out⟩
      · obtain rfl : K = bl.length := by omega
        have HSh := hide (rshaped_any (nm, ps, rt, bl, pl) _ wr (HV.out.below HW.out))
        go_wp2_with fail
        refine HSh.out.mono ?_; rintro e w8 ⟨rfl, b8⟩
        have HB8 := hide (below_step B0.out (below_step HW.out b8))
        by_cases hz : (shapedF (nm, ps, rt, bl, pl)).1 = 0
        · have HL : Hid (Lgt (nm, ps, rt, bl, pl)) := hide ⟨by show bl.length ≤ 24; omega, fun b hb => by
            obtain ⟨i, hi, rfl⟩ := List.mem_iff_getElem.1 hb
            exact HQ.out i _ hi (List.getElem?_eq_getElem hi), hz⟩
          rw [hz]
          clear hz b8
          go_wp2_with fail
          go_ret
          exact ⟨.inr ⟨rfl, HL.out⟩, HB8.out⟩
        · have hz' : ((shapedF (nm, ps, rt, bl, pl)).1 != 0) = true := by simpa using hz
          generalize (shapedF (nm, ps, rt, bl, pl)).1 = z at *
          generalize (shapedF (nm, ps, rt, bl, pl)).2 = z2 at *
          clear b8
          go_wp2_with fail
          go_ret
          exact ⟨.inl rfl, HB8.out⟩
  · have h24' : (24 : Int) < bl.length := by omega
    go_wp2_with fail
    go_ret
    exact ⟨.inl rfl, B0.out⟩
end Go.Proofs.YtfmeadbiokcboaaDoor
