/- Two texts, one behind the other, an end of line between them: their words, and the program that they are. -/
import Derived.Test.YtkkkgennkhdfhaaDoorFit
namespace Go.Proofs.YtkkkgennkhdfhaaDoor.L2

/-- Words elsewhere. -/
def mv (d : Nat) (q : Nat × Nat) : Nat × Nat := (q.1 + d, q.2 + d)
theorem shut_mv (pre ws : List (Nat × Nat)) (b : Option Nat) (p d : Nat) : shutW (pre ++ ws.map (mv d)) (b.map (· + d)) (p + d) = pre ++ (shutW ws b p).map (mv d) := by
  cases b with
  | none => rfl
  | some q => show pre ++ ws.map (mv d) ++ [(q + d, p + d)] = pre ++ (ws ++ [(q, p)]).map (mv d); simp [mv]
theorem getD_mv (b : Option Nat) (p d : Nat) : (b.map (· + d)).getD (p + d) = b.getD p + d := by cases b <;> rfl
theorem scan_mv (pre : List (Nat × Nat)) (d : Nat) (l : List UInt8) : ∀ (p : Nat) (ws : List (Nat × Nat)) (b : Option Nat) (n : Bool) (ws' : List (Nat × Nat)), scan l p ws b n = .inr ws' →
    scan l (p + d) (pre ++ ws.map (mv d)) (b.map (· + d)) n = .inr (pre ++ ws'.map (mv d)) := by
  induction l with
  | nil =>
    intro p ws b n ws' h
    rw [scan] at h
    cases h
    rw [scan, shut_mv]
  | cons c l ih =>
    intro p ws b n ws' h
    cases n with
    | true =>
      rw [scan_note] at h ⊢
      rw [show p + d + 1 = p + 1 + d by omega]
      exact ih _ _ _ _ _ h
    | false =>
      cases ht : togB c.toNat with
      | true =>
        rw [scan_tog _ _ _ _ ht] at h ⊢
        rw [show p + d + 1 = p + 1 + d by omega, getD_mv]
        exact ih _ _ _ _ _ h
      | false =>
        cases h2 : aloB c.toNat with
        | true =>
          rw [scan_alo _ _ _ _ ht h2] at h ⊢
          rw [shut_mv, show p + d + 1 = p + 1 + d by omega]
          have := ih _ _ _ _ _ h
          rw [List.map_append, ← List.append_assoc] at this
          exact this
        | false =>
          by_cases h3 : (c.toNat : Int) = 35
          · rw [scan_hash _ _ _ _ ht h2 h3] at h ⊢
            rw [shut_mv, show p + d + 1 = p + 1 + d by omega]
            exact ih _ _ _ _ _ h
          · cases h4 : blaB c.toNat with
            | true =>
              rw [scan_bla _ _ _ _ ht h2 h3 h4] at h ⊢
              rw [shut_mv, show p + d + 1 = p + 1 + d by omega]
              exact ih _ _ _ _ _ h
            | false => rw [scan_err _ _ _ _ ht h2 h3 h4] at h; cases h
theorem scan_join (m : List UInt8) (l : List UInt8) : ∀ (p : Nat) (ws : List (Nat × Nat)) (b : Option Nat) (n : Bool) (ws' : List (Nat × Nat)), (n = true → b = none) → scan l p ws b n = .inr ws' →
    scan (l ++ 10 :: m) p ws b n = scan m (p + l.length + 1) ws' none false := by
  induction l with
  | nil =>
    intro p ws b n ws' hb h
    rw [scan] at h
    cases h
    cases n with
    | true =>
      rw [hb rfl]
      show scan (10 :: m) p ws none true = scan m (p + 0 + 1) (shutW ws none p) none false
      rw [scan_note]
      rfl
    | false =>
      show scan (10 :: m) p ws b false = scan m (p + 0 + 1) (shutW ws b p) none false
      rw [scan_bla (c := 10) m p ws b (by decide) (by decide) (by decide) (by decide)]
  | cons c l ih =>
    intro p ws b n ws' hb h
    rw [List.cons_append, List.length_cons, show p + (l.length + 1) + 1 = p + 1 + l.length + 1 by omega]
    cases n with
    | true =>
      rw [scan_note] at h ⊢
      exact ih _ _ _ _ _ (fun _ => hb rfl) h
    | false =>
      cases ht : togB c.toNat with
      | true =>
        rw [scan_tog _ _ _ _ ht] at h ⊢
        exact ih _ _ _ _ _ (fun e => by cases e) h
      | false =>
        cases h2 : aloB c.toNat with
        | true =>
          rw [scan_alo _ _ _ _ ht h2] at h ⊢
          exact ih _ _ _ _ _ (fun e => by cases e) h
        | false =>
          by_cases h3 : (c.toNat : Int) = 35
          · rw [scan_hash _ _ _ _ ht h2 h3] at h ⊢
            exact ih _ _ _ _ _ (fun _ => rfl) h
          · cases h4 : blaB c.toNat with
            | true =>
              rw [scan_bla _ _ _ _ ht h2 h3 h4] at h ⊢
              exact ih _ _ _ _ _ (fun e => by cases e) h
            | false => rw [scan_err _ _ _ _ ht h2 h3 h4] at h; cases h
theorem words_join {s t : ByteArray} {ws us : List (Nat × Nat)} (hs : words s = .inr ws) (ht : words t = .inr us) : words (s ++ ⟨#[10]⟩ ++ t) = .inr (ws ++ us.map (mv (s.size + 1))) := by
  unfold words at *
  have e : (s ++ ⟨#[10]⟩ ++ t).data.toList = s.data.toList ++ 10 :: t.data.toList := by simp [ByteArray.data_append]
  rw [e, scan_join t.data.toList s.data.toList 0 [] none false ws (fun k => by cases k) hs]
  have := scan_mv ws (s.size + 1) t.data.toList 0 [] none false us ht
  rw [show 0 + s.data.toList.length + 1 = 0 + (s.size + 1) by rw [blen]; omega]
  simpa using this
end Go.Proofs.YtkkkgennkhdfhaaDoor.L2
namespace Go.Proofs.YtkkkgennkhdfhaaDoor
open Go Go.RowKit
open G (Tok Er Ins Fun peek0 peek1 atOf shI shF)

theorem toks_join {s t : ByteArray} {ws : List (Nat × Nat)} (us : List (Nat × Nat)) (hs : L2.words s = .inr ws) :
    toks (s ++ ⟨#[10]⟩ ++ t) (ws ++ us.map (L2.mv (s.size + 1))) = G.sh 0 (toks s ws) ++ G.sh ((s.size : Int) + 1) (toks t us) := by
  have hok := (L2.words_ok hs).1
  have e : (s ++ ⟨#[10]⟩ ++ t).data.toList = s.data.toList ++ 10 :: t.data.toList := by simp [ByteArray.data_append]
  have hl : s.data.toList.length = s.size := by simp
  unfold toks
  rw [List.map_append]
  congr 1
  · unfold G.sh
    rw [List.map_map]
    refine List.map_congr_left fun q hq => ?_
    obtain ⟨i, hi, eq⟩ := List.mem_iff_getElem.1 hq
    have := L2.okW_get ws 0 s.size i hok hi
    rw [show ws.getD i (0, 0) = q by rw [← eq]; simp [hi]] at this
    refine Prod.ext ?_ (by show (q.1 : Int) = q.1 + 0; omega)
    show ((s ++ ⟨#[10]⟩ ++ t).extract q.1 q.2).data.toList = (s.extract q.1 q.2).data.toList
    rw [ext_list, ext_list, e, List.drop_append_of_le_length (by omega), List.take_append_of_le_length (by simp; omega)]
  · unfold G.sh
    rw [List.map_map, List.map_map]
    refine List.map_congr_left fun q _ => ?_
    refine Prod.ext ?_ (by show ((q.1 + (s.size + 1) : Nat) : Int) = q.1 + (s.size + 1); omega)
    show ((s ++ ⟨#[10]⟩ ++ t).extract (q.1 + (s.size + 1)) (q.2 + (s.size + 1))).data.toList = (t.extract q.1 q.2).data.toList
    rw [ext_list, ext_list, e, show q.1 + (s.size + 1) = s.data.toList.length + (q.1 + 1) by omega, List.drop_append, show q.2 + (s.size + 1) - (s.data.toList.length + (q.1 + 1)) = q.2 - q.1 by omega]
    simp
    rw [List.drop_of_length_le (by rw [hl]; omega), List.nil_append]
theorem shI_zero (x : Ins) : shI 0 x = x := by obtain ⟨a, b, c, d, e, f, g, h⟩ := x; simp [shI]
theorem shF_zero (x : Fun) : shF 0 x = x := by
  obtain ⟨a, b, c, d, e⟩ := x
  have : (fun l : List Ins => l.map (shI 0)) = id := by
    funext l
    show l.map (shI 0) = l
    rw [show shI 0 = id from funext shI_zero, List.map_id]
  simp [shF, this]
theorem text_join {s t : ByteArray} {xs ys : List Fun} (hs : textG s = .ok xs) (ht : textG t = .ok ys) (h32 : xs.length + ys.length ≤ 32) (hl : s.size ≤ 1500) (hl2 : t.size ≤ 1500) :
    textG (s ++ ⟨#[10]⟩ ++ t) = .ok (xs ++ ys.map (shF ((s.size : Int) + 1))) := by
  unfold textG at hs ht ⊢
  cases hw : L2.words s with
  | inl x => rw [hw] at hs; cases hs
  | inr ws =>
    cases hu : L2.words t with
    | inl x => rw [hu] at ht; cases ht
    | inr us =>
      rw [hw] at hs
      rw [hu] at ht
      rw [L2.words_join hw hu]
      replace hs : (match progG (s.size : Int) (toks s ws) with | .ok ((xs, _), _) => .ok xs | .error er => .error er) = (.ok xs : Except Er (List Fun)) := hs
      replace ht : (match progG (t.size : Int) (toks t us) with | .ok ((xs, _), _) => .ok xs | .error er => .error er) = (.ok ys : Except Er (List Fun)) := ht
      cases hp : progG (s.size : Int) (toks s ws) with
      | error e2 => rw [hp] at hs; cases hs
      | ok p =>
        cases hq : progG (t.size : Int) (toks t us) with
        | error e2 => rw [hq] at ht; cases ht
        | ok q =>
          rw [hp] at hs
          rw [hq] at ht
          obtain ⟨⟨xs', n⟩, r⟩ := p
          obtain ⟨⟨ys', m⟩, r2⟩ := q
          cases hs
          cases ht
          have l1 := (L2.join_len s.data.toList ws 0 s.size (L2.words_ok hw).1).2
          have l2 := (L2.join_len t.data.toList us 0 t.size (L2.words_ok hu).1).2
          have := G.program_join (d := 0) (d2 := (s.size : Int) + 1) (E' := ((s ++ ⟨#[10]⟩ ++ t).size : Int)) nam_nil num_nil shp_nil fnd_nil hp hq h32 (by simp [toks]; omega)
          show (match progG ((s ++ ⟨#[10]⟩ ++ t).size : Int) (toks (s ++ ⟨#[10]⟩ ++ t) (ws ++ us.map (L2.mv (s.size + 1)))) with | .ok ((xs, _), _) => .ok xs | .error er => .error er) = (.ok _ : Except Er (List Fun))
          rw [toks_join us hw]
          unfold progG
          rw [this]
          show (.ok (xs.map (shF 0) ++ ys.map (shF ((s.size : Int) + 1))) : Except Er (List Fun)) = _
          rw [show shF 0 = id from funext shF_zero, List.map_id]
end Go.Proofs.YtkkkgennkhdfhaaDoor
