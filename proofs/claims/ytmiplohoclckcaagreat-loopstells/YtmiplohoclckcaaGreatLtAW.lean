/- Layer 2, the reference's split: which bytes are of which kind. Layer 2, the reference's split, at texts without notes. Layer 6, the reference's Text at texts without notes that are programs; the small text. Layer 8: the function that forks, meets again, and goes back. -/
import Derived.Test.YtmiplohoclckcaaGreatLtAE
import Derived.Test.YtmiplohoclckcaaGreatLtAG
import Derived.Test.YtmiplohoclckcaaGreatLtAV
namespace Go.Proofs.YtmiplohoclckcaaGreat
open Go Go.RowKit
open G (Tok Er Ins Fun peek0 peek1 atOf)
/-- A byte is one of these. -/
def inB : List UInt8 → UInt8 → Bool
  | [], _ => false
  | d :: r, c => if d = c then true else inB r c
theorem inB_drop {t : List UInt8} {k : Nat} {c d : UInt8} (h : t[k]? = some d) : inB (t.drop k) c = if d = c then true else inB (t.drop (k + 1)) c := by
  obtain ⟨h1, h2⟩ := List.getElem?_eq_some_iff.1 h
  rw [List.drop_eq_getElem_cons h1, h2]; rfl
set_option maxHeartbeats 1000000 in
theorem rin (c : UInt8) (t : List UInt8) (w : World) (ht : t.length ≤ 100) : Calls Tryz.prog 73 #[.int .u8 (c.toNat : Int), .string (bs t)] w fun e w' => e = .returned (.bool (inB t c)) ∧ w' = w := by
  have hz : (bs t).size ≤ 100 := by rw [bs_size]; exact ht
  have HZ := hide (bs_size t)
  go_enter Tryz.func73, Tryz.ntmps73
  go_wp2_with fail
  go_loopw [5] (fun i wr => ∃ k : Nat, k ≤ t.length ∧ i = .int .i64 k ∧ Hid (wr = w) ∧ Hid (inB t c = inB (t.drop k) c)) (fun i _ => t.length - (intOf i).toNat)
  case atStart => exact ⟨0, Nat.zero_le _, rfl, hide rfl, rfl⟩
  case round =>
    obtain ⟨k, hk, rfl, hw, HC⟩ := hrel
    obtain rfl := hw.out
    by_cases hlt : k < t.length
    · obtain ⟨d, hd, _⟩ := drop_at hlt
      obtain ⟨hkz, hb⟩ := bs_at hd
      have hkz' : (k : Int) < ((bs t).size : Int) := by omega
      have HD := hide (inB_drop (c := c) hd)
      by_cases hdc : d = c
      · have hb1 : ((bs t)[k].toNat : Int) = (c.toNat : Int) := by rw [hb, hdc]
        have HE : Hid (inB t c = true) := hide (by rw [HC.out, HD.out, if_pos hdc])
        clear hb hd hdc HD HC
        go_wp2_with fail
        go_ret
        exact ⟨ret_bool HE.out.symm, rfl⟩
      · have hb1 : (((bs t)[k].toNat : Int) == (c.toNat : Int)) = false := by
          rw [hb]
          have h2 : d.toNat ≠ c.toNat := fun e => hdc (UInt8.toNat_inj.1 e)
          simpa using fun e : (d.toNat : Int) = c.toNat => h2 (by omega)
        have HE : Hid (inB t c = inB (t.drop (k + 1)) c) := hide (by rw [HC.out, HD.out, if_neg hdc])
        clear hb hd hdc HD HC
        go_wp2_with fail
        go_roundw
        case rel => exact ⟨k + 1, by omega, by go_num, hide trivial, HE⟩
        case measure => simp [intOf]; omega
    · have HE : Hid (inB t c = false) := hide (by rw [HC.out, List.drop_eq_nil_of_le (by omega)]; rfl)
      have hkz' : ¬ (k : Int) < ((bs t).size : Int) := by have := HZ.out; omega
      have hkz2 : decide ((k : Int) < ((bs t).size : Int)) = false := by simpa using hkz'
      go_wp2_with fail
      go_ret
      exact ⟨ret_bool HE.out.symm, rfl⟩
/-- A byte that words are made of. -/
def letB (c : UInt8) : Bool := (decide (97 ≤ c.toNat) && decide (c.toNat ≤ 122)) || (decide (65 ≤ c.toNat) && decide (c.toNat ≤ 90)) || (decide (48 ≤ c.toNat) && decide (c.toNat ≤ 57)) || inB [46, 37, 64, 45, 95] c
theorem letB_tog (c : UInt8) : letB c = L2.togB c.toNat := by
  have key : ∀ n : Fin 256, letB (UInt8.ofNat n.val) = L2.togB (UInt8.ofNat n.val).toNat := by decide +kernel
  have := key ⟨c.toNat, c.toNat_lt⟩
  rwa [show UInt8.ofNat c.toNat = c from UInt8.ofNat_toNat] at this
theorem inB_alo (c : UInt8) : inB [40, 41, 123, 125, 61, 58] c = L2.aloB c.toNat := by
  have key : ∀ n : Fin 256, inB [40, 41, 123, 125, 61, 58] (UInt8.ofNat n.val) = L2.aloB (UInt8.ofNat n.val).toNat := by decide +kernel
  have := key ⟨c.toNat, c.toNat_lt⟩
  rwa [show UInt8.ofNat c.toNat = c from UInt8.ofNat_toNat] at this
theorem inB_bla (c : UInt8) : inB [32, 9, 10, 13] c = L2.blaB c.toNat := by
  have key : ∀ n : Fin 256, inB [32, 9, 10, 13] (UInt8.ofNat n.val) = L2.blaB (UInt8.ofNat n.val).toNat := by decide +kernel
  have := key ⟨c.toNat, c.toNat_lt⟩
  rwa [show UInt8.ofNat c.toNat = c from UInt8.ofNat_toNat] at this
set_option maxHeartbeats 1000000 in
theorem rletter (c : UInt8) (w : World) : Calls Tryz.prog 74 #[.int .u8 (c.toNat : Int)] w fun e w' => e = .returned (.bool (letB c)) ∧ w' = w := by
  have HB : Hid (letB c = ((decide (97 ≤ c.toNat) && decide (c.toNat ≤ 122)) || (decide (65 ≤ c.toNat) && decide (c.toNat ≤ 90)) || (decide (48 ≤ c.toNat) && decide (c.toNat ≤ 57)) || inB [46, 37, 64, 45, 95] c)) := hide rfl
  have key : ∀ n : Nat, (c.toNat : Int) = n → Calls Tryz.prog 74 #[.int .u8 (n : Int)] w fun e w' => e = .returned (.bool ((decide (97 ≤ n) && decide (n ≤ 122)) || (decide (65 ≤ n) && decide (n ≤ 90)) || (decide (48 ≤ n) && decide (n ≤ 57)) || inB [46, 37, 64, 45, 95] c)) ∧ w' = w := by
    intro n hn
    have HI := hide (rin c [46, 37, 64, 45, 95] w (by simp))
    rw [hn] at HI
    clear hn HB
    have hyes : (97 ≤ n ∧ n ≤ 122) ∨ (65 ≤ n ∧ n ≤ 90) ∨ (48 ≤ n ∧ n ≤ 57) → true = ((decide (97 ≤ n) && decide (n ≤ 122)) || (decide (65 ≤ n) && decide (n ≤ 90)) || (decide (48 ≤ n) && decide (n ≤ 57)) || inB [46, 37, 64, 45, 95] c) := by
      rintro (h | h | h) <;> simp [h]
    have hno : ¬ ((97 ≤ n ∧ n ≤ 122) ∨ (65 ≤ n ∧ n ≤ 90) ∨ (48 ≤ n ∧ n ≤ 57)) → inB [46, 37, 64, 45, 95] c = ((decide (97 ≤ n) && decide (n ≤ 122)) || (decide (65 ≤ n) && decide (n ≤ 90)) || (decide (48 ≤ n) && decide (n ≤ 57)) || inB [46, 37, 64, 45, 95] c) := by
      intro h
      have e1 : (decide (97 ≤ n) && decide (n ≤ 122)) = false := by simp; omega
      have e2 : (decide (65 ≤ n) && decide (n ≤ 90)) = false := by simp; omega
      have e3 : (decide (48 ≤ n) && decide (n ≤ 57)) = false := by simp; omega
      rw [e1, e2, e3]; rfl
    have hyes := hide hyes
    have hno := hide hno
    by_cases h1 : (97 : Int) ≤ n <;> by_cases h2 : (n : Int) ≤ 122 <;> by_cases h3 : (65 : Int) ≤ n <;> by_cases h4 : (n : Int) ≤ 90 <;> by_cases h5 : (48 : Int) ≤ n <;> by_cases h6 : (n : Int) ≤ 57
    all_goals first
      | (exfalso; omega)
      | (go_enter Tryz.func74, Tryz.ntmps74
         go_wp2_with fail
         go_ret
         exact ⟨ret_bool (hyes.out (by omega)), rfl⟩)
      | (go_enter Tryz.func74, Tryz.ntmps74
         go_wp2_with fail
         refine HI.out.mono ?_; rintro e w1 ⟨rfl, hw1⟩
         rw [hw1]
         go_wp2_with fail
         go_ret
         exact ⟨ret_bool (hno.out (by omega)), rfl⟩)
  rw [HB.out]
  exact key c.toNat rfl
end Go.Proofs.YtmiplohoclckcaaGreat
namespace Go.Proofs.YtmiplohoclckcaaGreat
open Go Go.RowKit
open G (Tok Er Ins Fun peek0 peek1 atOf)
theorem kind_bla (c : UInt8) (h : inB [32, 9, 10, 13] c = true) : L2.togB c.toNat = false ∧ L2.aloB c.toNat = false ∧ ¬ (c.toNat : Int) = 35 ∧ L2.blaB c.toNat = true := by
  have key : ∀ n : Fin 256, inB [32, 9, 10, 13] (UInt8.ofNat n.val) = true → L2.togB (UInt8.ofNat n.val).toNat = false ∧ L2.aloB (UInt8.ofNat n.val).toNat = false ∧ ¬ ((UInt8.ofNat n.val).toNat : Int) = 35 ∧ L2.blaB (UInt8.ofNat n.val).toNat = true := by decide +kernel
  have := key ⟨c.toNat, c.toNat_lt⟩
  rw [show UInt8.ofNat c.toNat = c from UInt8.ofNat_toNat] at this
  exact this h
theorem kind_alo (c : UInt8) (h : inB [40, 41, 123, 125, 61, 58] c = true) : L2.togB c.toNat = false ∧ L2.aloB c.toNat = true := by
  have key : ∀ n : Fin 256, inB [40, 41, 123, 125, 61, 58] (UInt8.ofNat n.val) = true → L2.togB (UInt8.ofNat n.val).toNat = false ∧ L2.aloB (UInt8.ofNat n.val).toNat = true := by decide +kernel
  have := key ⟨c.toNat, c.toNat_lt⟩
  rw [show UInt8.ofNat c.toNat = c from UInt8.ofNat_toNat] at this
  exact this h
/-- A word that is shut. -/
theorem scan_shut (l : List UInt8) (p q : Nat) (ws : List (Nat × Nat)) (h : ∀ c r, l = c :: r → L2.togB c.toNat = false) : L2.scan l q ws (some p) false = L2.scan l q (ws ++ [(p, q)]) none false := by
  cases l with
  | nil => rfl
  | cons c r =>
    have hc := h c r rfl
    by_cases h2 : L2.aloB c.toNat = true
    · rw [L2.scan_alo r q ws (some p) hc h2, L2.scan_alo r q (ws ++ [(p, q)]) none hc h2]; rfl
    · have h2 : L2.aloB c.toNat = false := by simpa using h2
      by_cases h3 : (c.toNat : Int) = 35
      · rw [L2.scan_hash r q ws (some p) hc h2 h3, L2.scan_hash r q (ws ++ [(p, q)]) none hc h2 h3]; rfl
      · by_cases h4 : L2.blaB c.toNat = true
        · rw [L2.scan_bla r q ws (some p) hc h2 h3 h4, L2.scan_bla r q (ws ++ [(p, q)]) none hc h2 h3 h4]; rfl
        · have h4 : L2.blaB c.toNat = false := by simpa using h4
          rw [L2.scan_err r q ws (some p) hc h2 h3 h4, L2.scan_err r q (ws ++ [(p, q)]) none hc h2 h3 h4]
/-- The words so far stand in memory, and the place of what is wrong. -/
def SpR (w : World) (s : ByteArray) (v : Value) (ws : List (Nat × Nat)) (wr : World) : Prop :=
  wr.ownsRow (w.heap.size + 1) 109 2 v ws.length (L2.cellsT (ws.map (L2.tok s))) ∧ wr.heap[w.heap.size]? = some (.cells #[.int .i64 0, .int .i64 0] 71 (0, 0)) ∧ Below w.heap.size w wr ∧ w.heap.size < wr.heap.size
theorem SpR.step {w wr w2 : World} {s : ByteArray} {v v' : Value} {ws : List (Nat × Nat)} {a b : Nat} {o : Obj} (h : SpR w s v ws wr)
    (own : w2.ownsRow (w.heap.size + 1) 109 2 v' (ws.length + 1) (L2.cellsT (ws.map (L2.tok s)) ++ [.string (s.extract a b), .int .i64 a])) (hg : (wr.alloc o).grownBy w2 v.ownBlock) : SpR w s v' (ws ++ [(a, b)]) w2 := by
  obtain ⟨h1, h2, h3, h4⟩ := h
  have bx := below_box wr o
  have hz := bx.size
  have hrow : ∀ q, v.ownBlock = some q → w.heap.size + 1 ≤ q := fun q hq => (h1.lt q hq).1
  refine ⟨by rw [L2.cellsT_snoc, List.length_append]; exact own, (hg.block _ (by omega) (fun e => by have := hrow _ e.symm; omega)).trans ((bx.block _ h4).trans h2), ?_, by have := hg.size; omega⟩
  exact ⟨hg.os.trans (bx.os.trans h3.os), hg.tape.trans (bx.tape.trans h3.tape), hg.output.trans (bx.output.trans h3.output), by have := hg.size; have := h3.size; omega, fun k hk => (hg.block k (by omega) (fun e => by have := hrow k e.symm; omega)).trans ((bx.block k (by omega)).trans (h3.block k hk))⟩
set_option maxHeartbeats 8000000 in
set_option maxRecDepth 20000 in
theorem rsplit (s : ByteArray) (hs : s.size ≤ 65536) (hn : ∀ c ∈ s.data.toList, (c.toNat : Int) ≠ 35) {ws : List (Nat × Nat)} (hw : L2.words s = .inr ws) : Splits s (toks s ws) := by
  intro w
  obtain ⟨i0, hi, hz0, hz1, hz2⟩ := info_parts L2.Tryz.info109
  have hs1 : ¬ (65536 : Int) < (s.size : Int) := by omega
  have hs2 : decide ((65536 : Int) < (s.size : Int)) = false := by simpa using hs1
  have HN := hide hn
  have HW : Hid (L2.scan (s.data.toList.drop 0) 0 [] none false = .inr ws) := hide hw
  have S0 : Hid (SpR w s (.slice none 0 0) [] (w.alloc (.cells #[.int .i64 0, .int .i64 0] 71))) := hide ⟨World.ownsRow_nil _ _ _ _, heap_alloc_new w _, below_box w _, by simp⟩
  clear hn hw
  go_enter Tryz.func56, Tryz.ntmps56
  go_upto_region 1 with fail
  show Code.wp _ _ _ _ (w.alloc (.cells #[.int .i64 0, .int .i64 0] 71))
  generalize w.alloc (.cells #[.int .i64 0, .int .i64 0] 71) = W0 at *
  go_wp2_with fail
  go_loopw [4, 5] (fun v i wr => ∃ (p : Nat) (us : List (Nat × Nat)), p ≤ s.size ∧ i = .int .i64 p ∧ us.length ≤ p ∧ Hid (SpR w s v us wr) ∧ Hid (L2.scan (s.data.toList.drop p) p us none false = .inr ws)) (fun _ i _ => s.size - (intOf i).toNat)
  case atStart => exact ⟨0, [], Nat.zero_le _, rfl, by simp, S0, HW⟩
  case round =>
    obtain ⟨p, us, hp, rfl, hus, S, HR⟩ := hrel
    by_cases hlt : p < s.size
    · have hlt' : (p : Int) < (s.size : Int) := by omega
      obtain ⟨d, hd⟩ : ∃ d, d = s[p] := ⟨_, rfl⟩
      have hd1 : (s[p].toNat : Int) = (d.toNat : Int) := by rw [hd]
      have HD : Hid (L2.scan (d :: s.data.toList.drop (p + 1)) p us none false = .inr ws) := hide (by rw [hd, ← L2.drop_cons s p hlt]; exact HR.out)
      have hn35 : ((d.toNat : Int) == 35) = false := by
        have := HN.out d (by rw [hd]; exact List.mem_of_mem_drop (i := p) (by rw [L2.drop_cons s p hlt]; simp))
        simpa using this
      clear hd
      obtain ⟨ao, cp, rfl⟩ := own_len S.out.1
      go_wp2_with fail
      refine (rin d [32, 9, 10, 13] _ (by simp)).mono ?_; rintro e w1 ⟨rfl, hw1⟩
      rw [hw1]
      clear hw1
      cases hb : inB [32, 9, 10, 13] d with
      | true =>
        have HE : Hid (L2.scan (s.data.toList.drop (p + 1)) (p + 1) us none false = .inr ws) := hide (by
          obtain ⟨k1, k2, k3, k4⟩ := kind_bla d hb
          have := HD.out
          rwa [L2.scan_bla _ _ _ _ k1 k2 k3 k4] at this)
        clear HD HR hb
        go_wp2_with fail
        go_roundw
        case rel => exact ⟨p + 1, us, by omega, by go_num, by omega, S, HE⟩
        case measure => simp [intOf]; omega
      | false =>
        go_wp2_with fail
        refine (rin d [40, 41, 123, 125, 61, 58] _ (by simp)).mono ?_; rintro e w1 ⟨rfl, hw1⟩
        rw [hw1]
        clear hw1
        cases ha : inB [40, 41, 123, 125, 61, 58] d with
        | true =>
          have HE : Hid (L2.scan (s.data.toList.drop (p + 1)) (p + 1) (us ++ [(p, p + 1)]) none false = .inr ws) := hide (by
            obtain ⟨k1, k2⟩ := kind_alo d ha
            have := HD.out
            rwa [L2.scan_alo _ _ _ _ k1 k2] at this)
          have OS := hide S.out.1
          have hsw := S.out.2.2.2
          have t2 : us.length + 1 ≤ maxLen := by unfold maxLen; omega
          have t3 : (us.length + 1) * 24 ≤ 140737488355328 := by omega
          clear HD HR hb ha
          go_wp2_with (at_builtin; refine wpList_append_own _ rfl (.tmp 39) (.tmp 47) 91 rfl (w.heap.size + 1) 109 i0 _ 2 24 Tryz.underlying91 hi hz0 hz1 hz2 rfl (by decide) _ _ _ rfl (OS.out.alloc _) ⟨wr.heap.size, 0, none⟩ 1 1 [.string (s.extract p (p + 1)), .int .i64 p] rfl rfl L2.cells_two L2.one_two t2 t3 (by simp; omega) ?_; intro v2 w2 own2 grow2 _)
          have S2 := hide (S.out.step own2 grow2)
          clear own2 grow2
          go_wp2_with fail
          go_roundw
          case rel => exact ⟨p + 1, us ++ [(p, p + 1)], by omega, by go_num, by simp; omega, S2, HE⟩
          case measure => simp [intOf]; omega
        | false =>
          have hlet : letB d = true := by
            cases hl : letB d with
            | true => rfl
            | false =>
              have := HD.out
              rw [L2.scan_err _ _ _ _ (by rw [← letB_tog]; exact hl) (by rw [← inB_alo]; exact ha) (by simpa using hn35) (by rw [← inB_bla]; exact hb)] at this
              cases this
          have HLET := hide hlet
          go_wp2_with fail
          refine (rletter d _).mono ?_; rintro e w1 ⟨rfl, hw1⟩
          rw [hw1, HLET.out]
          clear hw1 hlet
          have HR0 : Hid (L2.scan (s.data.toList.drop p) p us none false = .inr ws) := HR
          clear HD HR hb ha
          go_wp2_with fail
          go_loopw [7] (fun j wr2 => ∃ (q : Nat) (bq : Option Nat), p ≤ q ∧ q ≤ s.size ∧ j = .int .i64 q ∧ Hid (SpR w s (.slice ao us.length cp) us wr2) ∧ Hid (bq.getD q = p ∧ (p < q → bq = some p) ∧ L2.scan (s.data.toList.drop q) q us bq false = .inr ws)) (fun j _ => s.size - (intOf j).toNat)
          case atStart => exact ⟨p, none, Nat.le_refl _, by omega, rfl, S, hide ⟨rfl, fun h => absurd h (Nat.lt_irrefl _), HR0.out⟩⟩
          case round =>
            obtain ⟨q, bq, hpq, hqs, rfl, SQ, HQ⟩ := hrel
            have fin : Hid ((∀ c r, s.data.toList.drop q = c :: r → L2.togB c.toNat = false) → p < q ∧ L2.scan (s.data.toList.drop q) q (us ++ [(p, q)]) none false = .inr ws) := hide (by
              intro hx
              have hpq2 : p < q := by
                refine Classical.byContradiction fun hc => ?_
                have e : q = p := by omega
                have := hx _ _ (by rw [e]; exact L2.drop_cons s p hlt)
                have h2 := HLET.out
                rw [letB_tog] at h2
                have h3 : (s[p].toNat : Int) = (d.toNat : Int) := hd1
                rw [h3] at this
                rw [this] at h2
                cases h2
              obtain ⟨_, k2, k3⟩ := HQ.out
              rw [k2 hpq2, scan_shut _ _ _ _ hx] at k3
              exact ⟨hpq2, k3⟩)
            by_cases hq : q < s.size
            · have hq' : (q : Int) < (s.size : Int) := by omega
              obtain ⟨d2, hd2⟩ : ∃ d2, d2 = s[q] := ⟨_, rfl⟩
              have hd3 : (s[q].toNat : Int) = (d2.toNat : Int) := by rw [hd2]
              have HDQ := hide (show s.data.toList.drop q = d2 :: s.data.toList.drop (q + 1) by rw [hd2]; exact L2.drop_cons s q hq)
              clear hd2
              go_wp2_with fail
              refine (rletter d2 _).mono ?_; rintro e w1 ⟨rfl, hw1⟩
              rw [hw1]
              clear hw1
              cases hl2 : letB d2 with
              | true =>
                have HQ2 : Hid ((some p).getD (q + 1) = p ∧ (p < q + 1 → some p = some p) ∧ L2.scan (s.data.toList.drop (q + 1)) (q + 1) us (some p) false = .inr ws) := hide ⟨rfl, fun _ => rfl, by
                  obtain ⟨k1, _, k3⟩ := HQ.out
                  rw [HDQ.out, L2.scan_tog _ _ _ _ (by rw [← letB_tog]; exact hl2), k1] at k3
                  exact k3⟩
                clear HQ fin HDQ hl2
                go_wp2_with fail
                go_roundw
                case rel => exact ⟨q + 1, some p, by omega, by omega, by go_num, SQ, hide ⟨rfl, fun _ => rfl, HQ2.out.2.2⟩⟩
                case measure => simp [intOf]; omega
              | false =>
                have HF := hide (fin.out fun c r hcr => by
                  rw [HDQ.out] at hcr
                  cases hcr
                  rw [← letB_tog]; exact hl2)
                clear HQ fin HDQ hl2
                have OS := hide SQ.out.1
                have hsw := SQ.out.2.2.2
                have t2 : us.length + 1 ≤ maxLen := by unfold maxLen; omega
                have t3 : (us.length + 1) * 24 ≤ 140737488355328 := by omega
                go_wp2_with (at_builtin; refine wpList_append_own _ rfl (.tmp 66) (.tmp 73) 91 rfl (w.heap.size + 1) 109 i0 _ 2 24 Tryz.underlying91 hi hz0 hz1 hz2 rfl (by decide) _ _ _ rfl (OS.out.alloc _) ⟨wr.heap.size, 0, none⟩ 1 1 [.string (s.extract p q), .int .i64 p] rfl rfl L2.cells_two L2.one_two t2 t3 (by simp; omega) ?_; intro v2 w2 own2 grow2 _)
                have S2 := hide (SQ.out.step own2 grow2)
                have hpq2 := HF.out.1
                clear own2 grow2
                go_wp2_with fail
                go_roundw
                case rel => exact ⟨q, us ++ [(p, q)], hqs, rfl, by simp; omega, S2, hide HF.out.2⟩
                case measure => simp [intOf]; omega
            · have hq' : ¬ (q : Int) < (s.size : Int) := by omega
              have hq2 : decide ((q : Int) < (s.size : Int)) = false := by simpa using hq'
              have HF := hide (fin.out fun c r hcr => by
                rw [List.drop_eq_nil_of_le (by have e9 : s.data.toList.length = s.size := (by simp); omega)] at hcr
                cases hcr)
              clear HQ fin
              have OS := hide SQ.out.1
              have hsw := SQ.out.2.2.2
              have t2 : us.length + 1 ≤ maxLen := by unfold maxLen; omega
              have t3 : (us.length + 1) * 24 ≤ 140737488355328 := by omega
              go_wp2_with (at_builtin; refine wpList_append_own _ rfl (.tmp 66) (.tmp 73) 91 rfl (w.heap.size + 1) 109 i0 _ 2 24 Tryz.underlying91 hi hz0 hz1 hz2 rfl (by decide) _ _ _ rfl (OS.out.alloc _) ⟨wr.heap.size, 0, none⟩ 1 1 [.string (s.extract p q), .int .i64 p] rfl rfl L2.cells_two L2.one_two t2 t3 (by simp; omega) ?_; intro v2 w2 own2 grow2 _)
              have S2 := hide (SQ.out.step own2 grow2)
              have hpq2 := HF.out.1
              clear own2 grow2
              go_wp2_with fail
              go_roundw
              case rel => exact ⟨q, us ++ [(p, q)], hqs, rfl, by simp; omega, S2, hide HF.out.2⟩
              case measure => simp [intOf]; omega
    · have hlt' : ¬ (p : Int) < (s.size : Int) := by omega
      have hlt2 : decide ((p : Int) < (s.size : Int)) = false := by simpa using hlt'
      obtain rfl : us = ws := by
        have := HR.out
        rw [List.drop_eq_nil_of_le (by have e9 : s.data.toList.length = s.size := (by simp); omega)] at this
        injection this
      obtain ⟨ao, cp, rfl⟩ := own_len S.out.1
      obtain ⟨o1, s3, bb, hwz⟩ := S.out
      have u1 : wr.cell? ⟨w.heap.size, 0, none⟩ = some (.int .i64 0) := by simp [World.cell?, s3]
      have u2 : wr.cell? ⟨w.heap.size, 1, none⟩ = some (.int .i64 0) := by simp [World.cell?, s3]
      have v1 : wr.frozen? ⟨w.heap.size, 0, none⟩ = false := by simp [World.frozen?, s3]
      have v2 : wr.frozen? ⟨w.heap.size, 1, none⟩ = false := by simp [World.frozen?, s3]
      have FF := ((Far.refl w.heap.size wr).set 0 (.int .i64 0)).set 1 (.int .i64 0)
      have OO := hide (own_base (FF.own o1 (own_ne o1 s3 (by decide))) (Nat.le_succ w.heap.size))
      have BB := hide ((bb.setCell (p := ⟨w.heap.size, 0, none⟩) (Nat.le_refl _) (.int .i64 0)).setCell (p := ⟨w.heap.size, 1, none⟩) (Nat.le_refl _) (.int .i64 0))
      have HL := hide (show us.length = (toks s us).length by simp [toks])
      have HC := hide (toks_cells s us)
      clear o1 s3 bb FF S HR
      go_wp2_with fail
      exact bodyPost_ret (v := .tuple #[.slice ao us.length cp, .agg #[.int .i64 0, .int .i64 0]]) (by simp [results, Tryz.results56, go_sem, u1, u2]) rfl ⟨_, rfl, by rw [← HC.out, ← HL.out]; exact OO.out, BB.out⟩
end Go.Proofs.YtmiplohoclckcaaGreat
namespace Go.Proofs.YtmiplohoclckcaaGreat
open Go Go.RowKit
open G (Tok Er Ins Fun peek0 peek1 atOf)
theorem fw_end {E : Int} : ∀ (f n : Nat) (acc : List Fun) (l : List Tok) (xs : List Fun) (n' : Nat) (r : List Tok), l.length < f → fwG E f n acc l = .ok ((xs, n'), r) → r = [] := by
  intro f
  induction f with
  | zero => intro n acc l xs n' r h; omega
  | succ f ih =>
    intro n acc l xs n' r h hr
    by_cases hl : l = []
    · subst hl; rw [fw_stop] at hr; cases hr; rfl
    · by_cases h32 : acc.length < 32
      · cases hq : funG E n l with
        | error er => rw [fw_bad hl h32 hq] at hr; cases hr
        | ok p =>
          have hless := fun_less (x := p.1.1) (n' := p.1.2) (l' := p.2) hq
          rw [fw_go (x := p.1.1) (n' := p.1.2) (l' := p.2) hl h32 hq] at hr
          exact ih _ _ _ _ _ _ (by omega) hr
      · rw [fw_many hl (by omega)] at hr; cases hr
/-- The reference reads a text without notes that is a program. -/
theorem rtext_any (s : ByteArray) (hs : s.size ≤ 65536) (hn : ∀ c ∈ s.data.toList, (c.toNat : Int) ≠ 35) {xs : List Fun} (h : textG s = .ok xs) (w : World) :
    Calls Tryz.prog 42 #[.string s] w fun e w' => ∃ v, e = .returned (.tuple #[.agg #[v], .agg #[.int .i64 0, .int .i64 0]]) ∧ ProgVal w.heap.size xs v w' ∧ Below w.heap.size w w' := by
  unfold textG at h
  cases hw : L2.words s with
  | inl x => rw [hw] at h; cases h
  | inr ws =>
    rw [hw] at h
    replace h : (match progG (s.size : Int) (toks s ws) with | .ok ((xs, _), _) => Except.ok xs | .error er => .error er) = .ok xs := h
    cases hp : progG (s.size : Int) (toks s ws) with
    | error er => rw [hp] at h; cases h
    | ok p =>
      obtain ⟨⟨ys, n'⟩, r⟩ := p
      rw [hp] at h
      cases h
      have hr : r = [] := fw_end _ _ _ _ _ _ _ (Nat.lt_succ_self _) hp
      subst hr
      exact rtext s (toks_short hw hs) (rsplit s hs hn hw) hp w
end Go.Proofs.YtmiplohoclckcaaGreat
namespace Go.Proofs.YtmiplohoclckcaaGreat
open Go Go.RowKit
open G (Tok Er Ins Fun)
theorem same_eq {r q : Except Er (List Fun)} (h : same r q = true) : r = q := by
  unfold same at h
  split at h
  · rename_i xs ys
    rw [@of_decide_eq_true _ (decD xs ys) h]
  · rw [of_decide_eq_true h]
  · exact absurd h (by simp)
def sFork : ByteArray := { data := #[102, 117, 110, 99, 32, 102, 40, 105, 41, 32, 110, 32, 123, 32, 98, 48, 58, 32, 98, 114, 32, 98, 49, 32, 98, 49, 58, 32, 105, 102, 32, 37, 48, 32, 98, 50, 32, 98, 51, 32, 98, 50, 58, 32, 98, 114, 32, 98, 52, 32, 98, 51, 58, 32, 98, 114, 32, 98, 52, 32, 98, 52, 58, 32, 105, 102, 32, 37, 48, 32, 98, 49, 32, 98, 53, 32, 98, 53, 58, 32, 114, 101, 116, 32, 98, 54, 58, 32, 114, 101, 116, 32, 125] }
def bFork : List (List Ins) := [[(26, -1, 0, 0, [], [1], [], 18)], [(27, -1, 0, 0, [0], [2, 3], [], 28)], [(26, -1, 0, 0, [], [4], [], 44)], [(26, -1, 0, 0, [], [4], [], 54)], [(27, -1, 0, 0, [0], [1, 5], [], 64)], [(28, -1, 0, 0, [], [], [], 80)], [(28, -1, 0, 0, [], [], [], 88)]]
def fFork : Fun := ([102], [1], 0, bFork, 0)
theorem fork_is : textG sFork = .ok [fFork] := same_eq (by decide +kernel)
theorem fork_no : ∀ c ∈ sFork.data.toList, (c.toNat : Int) ≠ 35 := by decide +kernel
theorem fork_read (w : World) : Calls Tryz.prog 42 #[.string sFork] w fun e w' => ∃ v, e = .returned (.tuple #[.agg #[v], .agg #[.int .i64 0, .int .i64 0]]) ∧ ProgVal w.heap.size [fFork] v w' ∧ Below w.heap.size w w' :=
  rtext_any sFork (by decide +kernel) fork_no fork_is w
set_option maxHeartbeats 4000000 in
set_option maxRecDepth 20000 in
theorem fork_any (w : World) : Calls Tryz.prog 23 #[] w fun e w' => ∃ v, e = .returned v ∧ FunV w' fFork v ∧ Below w.heap.size w w' := by
  have HR := hide (fun w => fork_read w)
  go_enter Tryz.func23, Tryz.ntmps23
  go_wp2_with fail
  have H0 := hide (heap_alloc_new w (.cells #[.string ⟨#[]⟩, .slice none 0 0, .int .i64 0, .slice none 0 0, .int .i64 0] 25))
  have B0 := hide (below_box w (.cells #[.string ⟨#[]⟩, .slice none 0 0, .int .i64 0, .slice none 0 0, .int .i64 0] 25))
  have hz0 : w.heap.size < (w.alloc (.cells #[.string ⟨#[]⟩, .slice none 0 0, .int .i64 0, .slice none 0 0, .int .i64 0] 25)).heap.size := by simp
  show Calls Tryz.prog 42 #[.string sFork] (w.alloc (.cells #[.string ⟨#[]⟩, .slice none 0 0, .int .i64 0, .slice none 0 0, .int .i64 0] 25)) _
  generalize w.alloc (.cells #[.string ⟨#[]⟩, .slice none 0 0, .int .i64 0, .slice none 0 0, .int .i64 0] 25) = W at *
  refine (HR.out _).mono ?_
  rintro e w1 ⟨v, rfl, hp, b1⟩
  obtain ⟨cs, h0, hR⟩ := hp
  rcases own_view h0 with ⟨_, hn⟩ | ⟨g, pc, rfl, h1, h2, h3, h4, h5, h6⟩
  · cases hn
  obtain ⟨vp, vb, k1, k2, k3⟩ := FRow.at _ _ 0 fFork hR rfl
  obtain ⟨aoy, cy, rfl⟩ := own_len k2
  obtain ⟨vs, kb, kr⟩ := k3
  obtain ⟨boy, cby, rfl⟩ := own_len kb
  have bA := below_box w1 (.cells #[.slice (some ⟨g, 0, none⟩) 1 pc] 75)
  have bB := below_step bA (below_box (w1.alloc (.cells #[.slice (some ⟨g, 0, none⟩) 1 pc] 75)) (.cells #[.int .i64 0, .int .i64 0] 71))
  have bC := below_step b1 bB
  have q := fun j u hj => (bB.cell (p := ⟨g, j, none⟩) h4).trans (h5 j u (by have := k1 j u hj; rwa [Nat.zero_mul, Nat.zero_add] at this))
  obtain ⟨q0, q1, q2, q3, q4⟩ : _ ∧ _ ∧ _ ∧ _ ∧ _ := ⟨q 0 _ rfl, q 1 _ rfl, q 2 _ rfl, q 3 _ rfl, q 4 _ rfl⟩
  have hb := (bC.block _ hz0).trans H0.out
  have HBx := hide hb
  have HP := hide (own_below bB _ _ _ _ _ _ k2)
  have HK := hide (BlksVal.stay ⟨vs, kb, kr⟩ (stay_below bB))
  obtain ⟨d0, d1, d2, d3, d4⟩ := box5 hb
  have z : ∀ i, (((w1.alloc (.cells #[.slice (some ⟨g, 0, none⟩) 1 pc] 75)).alloc (.cells #[.int .i64 0, .int .i64 0] 71))).frozen? ⟨w.heap.size, i, none⟩ = false := fun i => by simp only [World.frozen?, hb]; simp
  obtain ⟨z0, z1, z2, z3, z4⟩ : _ ∧ _ ∧ _ ∧ _ ∧ _ := ⟨z 0, z 1, z 2, z 3, z 4⟩
  have BC := hide bC
  clear hb z bA bB bC b1 q k1 k2 kb kr h5 h6 hR h0
  go_wp2_with fail
  refine bodyPost_ret (v := .agg #[.string (bs [102]), .slice aoy 1 cy, .int .i64 0, .slice boy 7 cby, .int .i64 0]) (by simp [results, Tryz.results23, go_sem, d0, d1, d2, d3, d4]; exact ⟨rfl, rfl, rfl, rfl, rfl⟩) rfl ⟨_, rfl, ?_, ?_⟩
  · have st := far_kind (B := W.heap.size) ((((((Far.refl w.heap.size ((w1.alloc (.cells #[.slice (some ⟨g, 0, none⟩) 1 pc] 75)).alloc (.cells #[.int .i64 0, .int .i64 0] 71))).set 0 (.string (bs fFork.1))).set 1 (.slice aoy fFork.2.1.length cy)).set 2 (.int .i64 fFork.2.2.1)).set 3 (.slice boy fFork.2.2.2.1.length cby)).set 4 (.int .i64 fFork.2.2.2.2)) HBx.out (by decide)
    exact ⟨.slice aoy 1 cy, .slice boy 7 cby, rfl, ints_of (l := fFork.2.1) (st _ _ _ _ _ (.inl rfl) HP.out), blks_of (HK.out.stay st)⟩
  · have b5 := below_step B0.out BC.out
    exact ((((b5.setCell (p := ⟨w.heap.size, 0, none⟩) (Nat.le_refl _) _).setCell (p := ⟨w.heap.size, 1, none⟩) (Nat.le_refl _) _).setCell (p := ⟨w.heap.size, 2, none⟩) (Nat.le_refl _) _).setCell (p := ⟨w.heap.size, 3, none⟩) (Nat.le_refl _) _).setCell (p := ⟨w.heap.size, 4, none⟩) (Nat.le_refl _) _
end Go.Proofs.YtmiplohoclckcaaGreat
