/- Layer 7: whether a program may be written: Whole. -/
import Derived.Test.YtahhbckccdigoaaGreatDoorMbAV
import Derived.Test.YtahhbckccdigoaaGreatDoorMbAX
import Derived.Test.YtahhbckccdigoaaGreatDoorMbAY
import Derived.Test.YtahhbckccdigoaaGreatDoorMbBA
set_option maxHeartbeats 8000000
set_option maxRecDepth 20000
namespace Go.Proofs.YtahhbckccdigoaaGreatDoor
open Go Go.RowKit
open G (Tok Er Ins Fun)
def wholeF : Nat -> Nat -> List Fun -> Int × Int
  | _, _, [] => (0, 0)
  | i, m, f :: r => if i = 32 then (6, (i : Int)) else if headC f ≠ 0 then (headC f, (i : Int)) else if (runB m f.2.2.2.1).2 ≠ 0 then ((runB m f.2.2.2.1).2, (i : Int)) else wholeF (i + 1) (runB m f.2.2.2.1).1 r
theorem whole_many (m : Nat) (f : Fun) (r : List Fun) : wholeF 32 m (f :: r) = (6, ((32 : Nat) : Int)) := by rw [wholeF, if_pos rfl]
theorem whole_head {i : Nat} (m : Nat) {f : Fun} (r : List Fun) (hi : i ≠ 32) (hh : headC f ≠ 0) : wholeF i m (f :: r) = (headC f, (i : Int)) := by rw [wholeF, if_neg hi, if_pos hh]
theorem whole_body {i m : Nat} {f : Fun} (r : List Fun) (hi : i ≠ 32) (hh : headC f = 0) (hb : (runB m f.2.2.2.1).2 ≠ 0) : wholeF i m (f :: r) = ((runB m f.2.2.2.1).2, (i : Int)) := by
  rw [wholeF, if_neg hi, if_neg (by simp [hh]), if_pos hb]
theorem whole_next {i m : Nat} {f : Fun} (r : List Fun) (hi : i ≠ 32) (hh : headC f = 0) (hb : (runB m f.2.2.2.1).2 = 0) : wholeF i m (f :: r) = wholeF (i + 1) (runB m f.2.2.2.1).1 r := by
  rw [wholeF, if_neg hi, if_neg (by simp [hh]), if_neg (by simp [hb])]
theorem head_any (f : Fun) (v : Value) (w : World) (h : FunV w f v) (hO : OkF f) : Calls Tryz.prog 52 #[v] w fun e w' => e = .returned (.int .i64 (headC f)) /\ Below w.heap.size w w' := by
  obtain ⟨nm, ps, rt, bl, pl⟩ := f
  obtain ⟨vp, vb, rfl, ⟨ao, c, rfl, h1, h2, h3⟩, ⟨bo, cb, rfl, h4, h5, _⟩⟩ := h
  exact head_try nm ps rt pl bl ao bo c cb w h1 ⟨Nat.le_trans h2 h3, Nat.le_trans h4 h5⟩ hO.1
theorem body_any (m : Nat) (f : Fun) (v : Value) (w : World) (h : FunV w f v) (ht : Tb w) (hO : OkF f) (hm : m <= 4096) : Calls Tryz.prog 53 #[v, .int .i64 m] w fun e w' => e = .returned (.tuple #[.int .i64 ((runB m f.2.2.2.1).1 : Nat), .int .i64 (runB m f.2.2.2.1).2]) /\ Below w.heap.size w w' := by
  obtain ⟨nm, ps, rt, bl, pl⟩ := f
  obtain ⟨vp, vb, rfl, ⟨ao, c, rfl, h1, _⟩, h2⟩ := h
  have h2' := h2
  obtain ⟨bo, cb, rfl, _⟩ := h2
  exact body_try m nm ps rt pl bl ao bo c cb w h2' ht hO hm
theorem two_boxes (w : World) (v : Value) : Below w.heap.size w ((w.alloc (.cells #[v] 24)).alloc (.cells #[.int .i64 0, .int .i64 0] 28)) /\ ((w.alloc (.cells #[v] 24)).alloc (.cells #[.int .i64 0, .int .i64 0] 28)).heap[w.heap.size]? = some (.cells #[v] 24 (0, 0)) /\
    ((w.alloc (.cells #[v] 24)).alloc (.cells #[.int .i64 0, .int .i64 0] 28)).heap[w.heap.size + 1]? = some (.cells #[.int .i64 0, .int .i64 0] 28 (0, 0)) /\ w.heap.size + 1 < ((w.alloc (.cells #[v] 24)).alloc (.cells #[.int .i64 0, .int .i64 0] 28)).heap.size := by
  refine ⟨below_step (below_box w _) (below_box _ _), (heap_alloc_old _ _ (by simp)).trans (heap_alloc_new w _), ?_, by simp⟩
  have := heap_alloc_new (w.alloc (.cells #[v] 24)) (.cells #[.int .i64 0, .int .i64 0] 28)
  rwa [show (w.alloc (.cells #[v] 24)).heap.size = w.heap.size + 1 from by simp] at this
theorem err_box {w : World} {c : Nat} {a b : Value} (h : w.heap[c]? = some (.cells #[a, b] 28 (0, 0))) : w.cell? ⟨c, 0, none⟩ = some a /\ w.cell? ⟨c, 1, none⟩ = some b /\ w.frozen? ⟨c, 0, none⟩ = false /\ w.frozen? ⟨c, 1, none⟩ = false := by
  simp [World.cell?, World.frozen?, h]
theorem err_below {w W wr : World} {a b : Value} (h0 : Below w.heap.size w W) (h : Below W.heap.size W wr) : Below w.heap.size w ((wr.setCell ⟨w.heap.size + 1, 0, none⟩ a).setCell ⟨w.heap.size + 1, 1, none⟩ b) :=
  ((below_step h0 h).setCell (p := ⟨w.heap.size + 1, 0, none⟩) (Nat.le_succ _) a).setCell (p := ⟨w.heap.size + 1, 1, none⟩) (Nat.le_succ _) b
theorem whole_try (p : List Fun) (ao : Option Addr) (c : Nat) (w : World) (hp : ProgR w p (.slice ao p.length c)) (ht : Tb w) (hO : ∀ f ∈ p, OkF f) :
    Calls Tryz.prog 18 #[.agg #[.slice ao p.length c]] w fun e w' => e = .returned (.agg #[.int .i64 (wholeF 0 0 p).1, .int .i64 (wholeF 0 0 p).2]) /\ Below w.heap.size w w' := by
  obtain ⟨b0, h0, h1, hz0⟩ := two_boxes w (.slice ao p.length c)
  have H0 := hide h0
  have H1 := hide h1
  have T0 := hide (ht.below b0)
  have HP := hide (hp.below b0)
  have B0 := hide b0
  have HO := hide hO
  have hpc : p.length <= c /\ c <= maxLen := by
    obtain ⟨ao', c', e, h1, h2, _⟩ := hp
    injection e with e1 e2 e3
    subst e3
    exact ⟨h1, h2⟩
  unfold maxLen at hpc
  clear b0 h0 h1 ht hp hO
  go_enter Tryz.func18, Tryz.ntmps18
  go_upto_region 1 with fail
  show Code.wp _ _ _ _ ((w.alloc (.cells #[.slice ao p.length c] 24)).alloc (.cells #[.int .i64 0, .int .i64 0] 28))
  generalize (w.alloc (.cells #[.slice ao p.length c] 24)).alloc (.cells #[.int .i64 0, .int .i64 0] 28) = W at *
  have c0 := cell9 H0.out
  go_wp2_with fail
  go_loopw [3, 10] (fun mm i wr => ∃ (m K : Nat), m <= 4096 /\ mm = .int .i64 m /\ K <= p.length /\ K <= 32 /\ i = .int .i64 K /\ Hid (wholeF 0 0 p = wholeF K m (p.drop K)) /\ Hid (Below W.heap.size W wr)) (fun _ i _ => p.length - (intOf i).toNat)
  case atStart => exact ⟨0, 0, by omega, rfl, Nat.zero_le _, by omega, rfl, hide rfl, hide (Below.refl _ _)⟩
  case round =>
    obtain ⟨m, K, hm, rfl, hK, hK32, rfl, HR, HW⟩ := hrel
    by_cases hkt : K < p.length
    . obtain ⟨f, hfK⟩ : ∃ f, p[K]? = some f := ⟨p[K], List.getElem?_eq_some_iff.2 ⟨hkt, rfl⟩⟩
      obtain ⟨ao', c', eq', hh1, hh2, hh3⟩ := HP.out
      injection eq' with e1 e2 e3
      subst e1 e3
      rcases hh3 with hh3 | ⟨gb, ob, rfl, hin⟩
      . subst hh3; simp at hkt
      obtain ⟨aoy, boy, cy, cby, hv, q0, q1, q2, q3, q4⟩ := ((hin K f hfK).below HW.out).val
      have HV := hide hv
      have HOf := hide (HO.out f (List.mem_of_getElem? hfK))
      have hkI : (K : Int) < p.length := by omega
      have HR2 := hide (HR.out.trans (by rw [wdrop_at hfK]))
      have TK := hide (T0.out.below HW.out)
      obtain ⟨nm, ps, rt, bl, pl⟩ := f
      dsimp only at HV q0 q1 q2 q3 q4
      clear hin hfK hv HR
      have B7 := hide (below_box wr (.cells #[.string (bs nm), .slice aoy ps.length cy, .int .i64 rt, .slice boy bl.length cby, .int .i64 pl] 34))
      have H7 := hide (heap_alloc_new wr (.cells #[.string (bs nm), .slice aoy ps.length cy, .int .i64 rt, .slice boy bl.length cby, .int .i64 pl] 34))
      by_cases h32 : K = 32
      . subst h32
        have HE := hide (HR2.out.trans (whole_many _ _ _))
        have h32' : (((32 : Nat) : Int) == 32) = true := rfl
        obtain ⟨d0, d1, z0, z1⟩ := err_box (((HW.out.trans (B7.out.mono HW.out.size)).block _ hz0).trans H1.out)
        have hW8 := hide (HW.out.trans (B7.out.mono HW.out.size))
        go_wp2_with fail
        exact bodyPost_ret (v := .agg #[.int .i64 6, .int .i64 ((32 : Nat) : Int)]) (by simp [results, Tryz.results18, go_sem, d0, d1]) rfl ⟨by rw [HE.out], err_below B0.out hW8.out⟩
      . have h32' : ((K : Int) == 32) = false := beq_eq_false_iff_ne.2 (by omega)
        go_wp2_with fail
        refine (head_any (nm, ps, rt, bl, pl) _ _ (HV.out.below B7.out) HOf.out).mono ?_; rintro e w8 ⟨rfl, b8⟩
        have HW8 := hide (below_step HW.out (below_step B7.out b8))
        have hwl : wr.heap.size < w8.heap.size := Nat.lt_of_lt_of_le (Array.getElem?_eq_some_iff.1 H7.out).1 b8.size
        obtain ⟨s0, s1, s2, s3, s4⟩ := box5 ((b8.block _ (Array.getElem?_eq_some_iff.1 H7.out).1).trans H7.out)
        have HV8 := hide (HV.out.below (below_step B7.out b8))
        have T8 := hide (TK.out.below (below_step B7.out b8))
        clear b8 q0 q1 q2 q3 q4
        by_cases hh : headC (nm, ps, rt, bl, pl) = 0
        . have HH := hide hh
          rw [hh]
          clear hh
          go_wp2_with fail
          refine (body_any m (nm, ps, rt, bl, pl) _ _ HV8.out T8.out HOf.out hm).mono ?_; rintro e w9 ⟨rfl, b9⟩
          have HW9 := hide (below_step HW8.out b9)
          clear b9 s0 s1 s2 s3 s4
          have hle := runB_le bl m hm
          by_cases hb : (runB m bl).2 = 0
          . have HE := hide (HR2.out.trans (whole_next _ h32 HH.out hb))
            dsimp only
            rw [hb]
            dsimp only at HE
            generalize (runB m bl).1 = m2 at *
            clear hb
            go_wp2_with fail
            go_roundw
            case rel => exact ⟨m2, K + 1, hle, rfl, by omega, by omega, by go_num, HE, HW9⟩
            case measure => simp [intOf]; omega
          . have HE := hide (HR2.out.trans (whole_body _ h32 HH.out hb))
            have hb' : ((runB m bl).2 != 0) = true := by simpa using hb
            dsimp only
            dsimp only at HE
            generalize (runB m bl).2 = z at *
            generalize (runB m bl).1 = m2 at *
            clear hb
            obtain ⟨d0, d1, z0, z1⟩ := err_box ((HW9.out.block _ hz0).trans H1.out)
            go_wp2_with fail
            exact bodyPost_ret (v := .agg #[.int .i64 z, .int .i64 (K : Int)]) (by simp [results, Tryz.results18, go_sem, d0, d1]) rfl ⟨by rw [HE.out], err_below B0.out HW9.out⟩
        . have HE := hide (HR2.out.trans (whole_head _ _ h32 hh))
          have hh' : (headC (nm, ps, rt, bl, pl) == 0) = false := by simpa using hh
          have hh2 : (headC (nm, ps, rt, bl, pl) != 0) = true := by simpa using hh
          generalize headC (nm, ps, rt, bl, pl) = z at *
          clear hh
          obtain ⟨d0, d1, z0, z1⟩ := err_box ((HW8.out.block _ hz0).trans H1.out)
          go_wp2_with fail
          exact bodyPost_ret (v := .agg #[.int .i64 z, .int .i64 (K : Int)]) (by simp [results, Tryz.results18, go_sem, d0, d1]) rfl ⟨by rw [HE.out], err_below B0.out HW8.out⟩
    . obtain rfl : K = p.length := by omega
      have HE : Hid (wholeF 0 0 p = (0, 0)) := hide (HR.out.trans (by rw [List.drop_length]; rfl))
      obtain ⟨d0, d1, z0, z1⟩ := err_box ((HW.out.block _ hz0).trans H1.out)
      go_wp2_with fail
      exact bodyPost_ret (v := .agg #[.int .i64 0, .int .i64 0]) (by simp [results, Tryz.results18, go_sem, d0, d1]) rfl ⟨by rw [HE.out], err_below B0.out HW.out⟩
end Go.Proofs.YtahhbckccdigoaaGreatDoor
namespace Go.Proofs.YtahhbckccdigoaaGreatDoor
open Go Go.RowKit
open G (Tok Er Ins Fun)
def wI (x : Ins) : Nat := 1 + x.2.2.2.2.1.length / 4 + x.2.2.2.2.2.1.length / 4 + x.2.2.2.2.2.2.1.length / 30
def wB (b : List Ins) : Nat := (b.map wI).sum
def wBs (l : List (List Ins)) : Nat := (l.map wB).sum
def wF0 (f : Fun) : Nat := f.2.2.2.1.length + f.2.1.length + f.1.length / 30
def wF (f : Fun) : Nat := wF0 f + wBs f.2.2.2.1
def wFs (p : List Fun) : Nat := (p.map wF).sum
def total (p : List Fun) : Nat := p.length + wFs p
def ShI (x : Ins) : Prop := x.2.2.2.2.1.length <= 140737488355328 /\ x.2.2.2.2.2.1.length <= 140737488355328 /\ x.2.2.2.2.2.2.1.length <= 140737488355328
def ShF (f : Fun) : Prop := f.1.length <= 140737488355328 /\ f.2.1.length <= 140737488355328 /\ f.2.2.2.1.length <= 140737488355328 /\ ∀ b ∈ f.2.2.2.1, ∀ x ∈ b, ShI x
theorem sum_take {α : Type} (g : α -> Nat) (l : List α) (j : Nat) (x : α) (h : l[j]? = some x) : ((l.take (j + 1)).map g).sum = ((l.take j).map g).sum + g x := by
  rw [List.take_add_one, h]; simp
theorem sum_le {α : Type} (g : α -> Nat) (l : List α) (j : Nat) : ((l.take j).map g).sum <= (l.map g).sum := by
  have : (l.map g).sum = ((l.take j).map g).sum + ((l.drop j).map g).sum := by rw [<- List.sum_append, <- List.map_append, List.take_append_drop]
  omega
def Cnt (p : List Fun) (n a : Nat) : Prop := n = a \/ (150 < n /\ 150 < total p)
theorem size_try (p : List Fun) (ao : Option Addr) (c : Nat) (w : World) (hp : ProgR w p (.slice ao p.length c)) (h0 : p.length <= 140737488355328) (hS : ∀ f ∈ p, ShF f) :
    Calls Tryz.prog 21 #[.agg #[.slice ao p.length c], .int .i64 150] w fun e w' => (∃ n : Nat, e = .returned (.int .i64 n) /\ Cnt p n (total p)) /\ Below w.heap.size w w' := by
  have b0 := below_box w (.cells #[.slice ao p.length c] 24)
  have H0 := hide (heap_alloc_new w (.cells #[.slice ao p.length c] 24))
  have hz0 : (w.alloc (.cells #[.slice ao p.length c] 24)).heap.size > w.heap.size := by simp
  have B0 := hide b0
  have HP := hide (hp.below b0)
  have HS := hide hS
  clear b0 hp hS
  go_enter Tryz.func21, Tryz.ntmps21
  go_upto_region 1 with fail
  show Code.wp _ _ _ _ (w.alloc (.cells #[.slice ao p.length c] 24))
  generalize w.alloc (.cells #[.slice ao p.length c] 24) = W at *
  have c0 := cell9 H0.out
  go_wp2_with fail
  clear c0
  go_loopw [5, 6] (fun nv i wr => ∃ (n K : Nat), n <= 1000000000000000 /\ nv = .int .i64 n /\ K <= p.length /\ i = .int .i64 K /\ Hid (Cnt p n (p.length + wFs (p.take K))) /\ Hid (Below W.heap.size W wr)) (fun _ i _ => p.length - (intOf i).toNat)
  case atStart => exact ⟨p.length, 0, by omega, rfl, Nat.zero_le _, rfl, hide (.inl (by simp [wFs])), hide (Below.refl _ _)⟩
  case round =>
    obtain ⟨n, K, hn, rfl, hK, rfl, HC, HW⟩ := hrel
    have c0 := cell9 ((HW.out.block _ hz0).trans H0.out)
    by_cases hkt : K < p.length
    . have hkI : (K : Int) < p.length := by omega
      by_cases h150 : n <= 150
      . obtain ⟨f, hfK⟩ : ∃ f, p[K]? = some f := ⟨p[K], List.getElem?_eq_some_iff.2 ⟨hkt, rfl⟩⟩
        have h150' : (n : Int) <= 150 := by omega
        have HN : Hid (n = p.length + wFs (p.take K)) := hide (by rcases HC.out with h | h; exact h; omega)
        have HT := hide (sum_take wF p K f hfK)
        have HTL := hide (sum_le wF p (K + 1))
        obtain ⟨ao', c', eq', hh1, hh2, hh3⟩ := HP.out
        injection eq' with e1 e2 e3
        subst e1 e3
        rcases hh3 with hh3 | ⟨gb, ob, rfl, hin⟩
        . subst hh3; simp at hkt
        obtain ⟨aoy, boy, cy, cby, hv, q0, q1, q2, q3, q4⟩ := ((hin K f hfK).below HW.out).val
        have HV := hide hv
        obtain ⟨s1, s2, s3, s4⟩ := HS.out f (List.mem_of_getElem? hfK)
        have HSf := hide s4
        obtain ⟨nm, ps, rt, bl, pl⟩ := f
        dsimp only at HV q0 q1 q2 q3 q4 s1 s2 s3 HSf
        have HBL : Hid (BlksR wr bl (.slice boy bl.length cby)) := hide (by
          obtain ⟨vp, vb, e, _, h2⟩ := HV.out
          injection e with e
          have e2 := congrArg (fun a => a[3]?) e
          simp at e2
          rw [e2]; exact h2)
        have hnz : (bs nm).size = nm.length := bs_size nm
        have HNZ := hide hnz
        clear hin hfK hv hnz s4
        have B7 := hide (below_box wr (.cells #[.string (bs nm), .slice aoy ps.length cy, .int .i64 rt, .slice boy bl.length cby, .int .i64 pl] 34))
        have H7 := hide (heap_alloc_new wr (.cells #[.string (bs nm), .slice aoy ps.length cy, .int .i64 rt, .slice boy bl.length cby, .int .i64 pl] 34))
        have hl7 := hide (Array.getElem?_eq_some_iff.1 H7.out).1
        obtain ⟨t0, t1, t2, t3, t4⟩ := box5 H7.out
        have hnb : (bs nm).size <= 140737488355328 := by rw [HNZ.out]; exact s1
        have HW7 := hide (below_step HW.out B7.out)
        have HBL7 := hide (HBL.out.below B7.out)
        have HQ : Hid (((n : Int) + (bl.length : Int) + (ps.length : Int) + ((bs nm).size : Int) / 30) = ((n + bl.length + ps.length + nm.length / 30 : Nat) : Int)) := hide (by rw [HNZ.out]; omega)
        have HCF : Hid (Cnt p (n + bl.length + ps.length + nm.length / 30) (p.length + wFs (p.take K) + wF0 (nm, ps, rt, bl, pl) + wBs (bl.take 0))) := hide (.inl (by have := HN.out; simp only [wF0, wBs, List.take_zero, List.map_nil, List.sum_nil]; omega))
        have hnn : n + bl.length + ps.length + nm.length / 30 <= 1000000000000000 := by omega
        clear HBL
        go_wp2_with fail
        clear t0 t1 t2 t3 t4 q0 q1 q2 q3 q4 c0 hnb
        obtain ⟨w0, hw0⟩ : ∃ w0, w0 = wr.alloc (.cells #[.string (bs nm), .slice aoy ps.length cy, .int .i64 rt, .slice boy bl.length cby, .int .i64 pl] 34) := ⟨_, rfl⟩
        rw [<- hw0] at H7 HW7 HBL7 hl7 ⊢
        clear hw0 B7
        obtain ⟨n1, hn1⟩ : ∃ n1, n1 = n + bl.length + ps.length + nm.length / 30 := ⟨_, rfl⟩
        rw [<- hn1] at HQ HCF hnn
        clear hn1
        go_loopw [5, 8] (fun nv i wr' => ∃ (n A : Nat), n <= 1000000000000000 /\ nv = .int .i64 n /\ A <= bl.length /\ i = .int .i64 A /\ Hid (Cnt p n (p.length + wFs (p.take K) + wF0 (nm, ps, rt, bl, pl) + wBs (bl.take A))) /\ Hid (Below w0.heap.size w0 wr')) (fun _ i _ => bl.length - (intOf i).toNat)
        case atStart => exact ⟨n1, 0, hnn, by rw [HQ.out], Nat.zero_le _, rfl, HCF, hide (Below.refl _ _)⟩
        case round =>
          obtain ⟨n2, A, hn2, rfl, hA, rfl, HCA, HWA⟩ := hrel
          obtain ⟨t0, t1, t2, t3, t4⟩ := box5 ((HWA.out.block _ hl7.out).trans H7.out)
          clear t0 t1 t2 t4
          obtain ⟨ao2, c2', eq2, hh1, hh2, hh3⟩ := HBL7.out
          injection eq2 with e1 e2 e3
          subst e1 e3
          unfold maxLen at hh2
          by_cases hat : A < bl.length
          . have haI : (A : Int) < bl.length := by omega
            by_cases h150a : n2 <= 150
            . have h150a' : (n2 : Int) <= 150 := by omega
              have HN2 : Hid (n2 = p.length + wFs (p.take K) + wF0 (nm, ps, rt, bl, pl) + wBs (bl.take A)) := hide (by rcases HCA.out with h | h; exact h; omega)
              obtain ⟨b, hbA⟩ : ∃ b, bl[A]? = some b := ⟨bl[A], List.getElem?_eq_some_iff.2 ⟨hat, rfl⟩⟩
              have HTA := hide (sum_take wB bl A b hbA)
              have HTLA := hide (sum_le wB bl (A + 1))
              rcases hh3 with hh3 | ⟨gc, oc, rfl, hgc, hbl⟩
              . subst hh3; simp at hat
              obtain ⟨vk, kd, kk⟩ := hbl A b hbA
              have KD := hide kd
              obtain ⟨aok, capk, rfl, lk1, lk2, kins⟩ := kk
              have HSb := hide (HSf.out b (List.mem_of_getElem? hbA))
              have KI := hide kins
              have HCB : Hid (Cnt p n2 (p.length + wFs (p.take K) + wF0 (nm, ps, rt, bl, pl) + wBs (bl.take A) + wB (b.take 0))) := hide (.inl (by have := HN2.out; simp only [wB, List.take_zero, List.map_nil, List.sum_nil]; omega))
              unfold maxLen at lk2
              clear kins kd hbl hbA HCA
              go_wp2_with fail
              clear t3
              go_loopw [5, 9] (fun nv i wr'' => ∃ (n J : Nat), n <= 1000000000000000 /\ nv = .int .i64 n /\ J <= b.length /\ i = .int .i64 J /\ Hid (Cnt p n (p.length + wFs (p.take K) + wF0 (nm, ps, rt, bl, pl) + wBs (bl.take A) + wB (b.take J))) /\ Hid (Below w0.heap.size w0 wr'')) (fun _ i _ => b.length - (intOf i).toNat)
              case atStart => exact ⟨n2, 0, hn2, rfl, Nat.zero_le _, rfl, HCB, HWA⟩
              case round =>
                obtain ⟨n3, J, hn3, rfl, hJ, rfl, HCJ, HWJ⟩ := hrel
                obtain ⟨t0, t1, t2, t3, t4⟩ := box5 ((HWJ.out.block _ hl7.out).trans H7.out)
                clear t0 t1 t2 t4
                have kd' := (HWJ.out.cell (p := ⟨gc, oc + A, none⟩) hgc).trans KD.out
                have GREAT : Hid (150 < n3 -> Cnt p n3 (p.length + wFs (p.take K) + wF0 (nm, ps, rt, bl, pl) + wBs (bl.take (A + 1)))) := hide fun h => by
                  rcases HCJ.out with h2 | h2
                  . have g1 := HT.out
                    have g2 := HTL.out
                    have g3 := HTA.out
                    have g4 := sum_le wI b J
                    have g5 := HTLA.out
                    refine .inr ⟨h, ?_⟩
                    unfold total wFs at *
                    unfold wF wBs wB at *
                    dsimp only at g1
                    omega
                  . exact .inr h2
                by_cases hjt : J < b.length
                . have hjI : (J : Int) < b.length := by omega
                  by_cases h150b : n3 <= 150
                  . have h150b' : (n3 : Int) <= 150 := by omega
                    have HN3 : Hid (n3 = p.length + wFs (p.take K) + wF0 (nm, ps, rt, bl, pl) + wBs (bl.take A) + wB (b.take J)) := hide (by rcases HCJ.out with h | h; exact h; omega)
                    obtain ⟨y, hyJ⟩ : ∃ y, b[J]? = some y := ⟨b[J], List.getElem?_eq_some_iff.2 ⟨hjt, rfl⟩⟩
                    have HTJ := hide (sum_take wI b J y hyJ)
                    rcases KI.out with hh | ⟨gi, oi, rfl, hin⟩
                    . subst hh; simp at hjt
                    obtain ⟨aoz, toz, caz, ctz, hv, r0, r1, r2, r3, r4, r5, r6, r7⟩ := ((hin J y hyJ).below HWJ.out).val
                    obtain ⟨v1, v2, v3⟩ := HSb.out y (List.mem_of_getElem? hyJ)
                    obtain ⟨op, id, nn, ty, ar, tt, na, pp⟩ := y
                    dsimp only at v1 v2 v3 r0 r1 r2 r3 r4 r5 r6 r7
                    have HNA := hide (bs_size na)
                    have hnab : (bs na).size <= 140737488355328 := by rw [HNA.out]; exact v3
                    have HQ3 : Hid (((n3 : Int) + 1 + (ar.length : Int) / 4 + (tt.length : Int) / 4 + ((bs na).size : Int) / 30) = ((n3 + 1 + ar.length / 4 + tt.length / 4 + na.length / 30 : Nat) : Int)) := hide (by rw [HNA.out]; omega)
                    have HC3 : Hid (Cnt p (n3 + 1 + ar.length / 4 + tt.length / 4 + na.length / 30) (p.length + wFs (p.take K) + wF0 (nm, ps, rt, bl, pl) + wBs (bl.take A) + wB (b.take (J + 1)))) := hide (.inl (by
                      have g1 := HN3.out
                      have g2 := HTJ.out
                      have g3 : wI (op, id, nn, ty, ar, tt, na, pp) = 1 + ar.length / 4 + tt.length / 4 + na.length / 30 := rfl
                      rw [g3] at g2
                      unfold wB at *
                      omega))
                    have hn4 : n3 + 1 + ar.length / 4 + tt.length / 4 + na.length / 30 <= 1000000000000000 := by omega
                    obtain ⟨x0, x1, x2, x3, x4, x5, x6, x7⟩ := box8 (heap_alloc_new wr (.cells #[.int .i64 op, .int .i64 id, .int .i64 nn, .int .i64 ty, .slice aoz ar.length caz, .slice toz tt.length ctz, .string (bs na), .int .i64 pp] 39))
                    have HW9 := hide (below_step HWJ.out (below_box wr (.cells #[.int .i64 op, .int .i64 id, .int .i64 nn, .int .i64 ty, .slice aoz ar.length caz, .slice toz tt.length ctz, .string (bs na), .int .i64 pp] 39)))
                    clear hin hyJ hv
                    go_wp2_with fail
                    go_roundw
                    case rel => exact ⟨_, J + 1, hn4, by rw [HQ3.out], by omega, by go_num, HC3, HW9⟩
                    case measure => simp [intOf]; omega
                  . have h150b' : ¬ (n3 : Int) <= 150 := by omega
                    have HE := hide (GREAT.out (by omega))
                    go_wp2_with fail
                    go_roundw
                    case rel => exact ⟨n3, A + 1, hn3, rfl, by omega, by go_num, HE, HWJ⟩
                    case measure => simp [intOf]; omega
                . obtain rfl : J = b.length := by omega
                  have HE : Hid (Cnt p n3 (p.length + wFs (p.take K) + wF0 (nm, ps, rt, bl, pl) + wBs (bl.take (A + 1)))) := hide (by
                    have h2 := HCJ.out
                    rw [List.take_length] at h2
                    have g3 := HTA.out
                    have e : wBs (bl.take (A + 1)) = wBs (bl.take A) + wB b := g3
                    rw [e, <- Nat.add_assoc]
                    exact h2)
                  go_wp2_with fail
                  go_roundw
                  case rel => exact ⟨n3, A + 1, hn3, rfl, by omega, by go_num, HE, HWJ⟩
                  case measure => simp [intOf]; omega
            . have h150a' : ¬ (n2 : Int) <= 150 := by omega
              have HE : Hid (Cnt p n2 (p.length + wFs (p.take (K + 1)))) := hide (by
                rcases HCA.out with h2 | h2
                . have g1 := HT.out
                  have g2 := HTL.out
                  have g3 := sum_le wB bl A
                  refine .inr ⟨by omega, ?_⟩
                  unfold total wFs at *
                  unfold wF wBs at *
                  dsimp only at g1
                  omega
                . exact .inr h2)
              have HWF := hide (below_step HW7.out HWA.out)
              go_wp2_with fail
              go_roundw
              case rel => exact ⟨n2, K + 1, hn2, rfl, by omega, by go_num, HE, HWF⟩
              case measure => simp [intOf]; omega
          . obtain rfl : A = bl.length := by omega
            have HE : Hid (Cnt p n2 (p.length + wFs (p.take (K + 1)))) := hide (by
              have h2 := HCA.out
              rw [List.take_length] at h2
              have g1 := HT.out
              have e : wFs (p.take (K + 1)) = wFs (p.take K) + (wF0 (nm, ps, rt, bl, pl) + wBs bl) := g1
              rw [e, <- Nat.add_assoc, <- Nat.add_assoc]
              exact h2)
            have HWF := hide (below_step HW7.out HWA.out)
            go_wp2_with fail
            go_roundw
            case rel => exact ⟨n2, K + 1, hn2, rfl, by omega, by go_num, HE, HWF⟩
            case measure => simp [intOf]; omega
      . have h150' : ¬ (n : Int) <= 150 := by omega
        have HE : Hid (Cnt p n (total p)) := hide (by
          rcases HC.out with h | h
          . have := sum_le wF p K
            exact .inr ⟨by omega, by unfold total wFs at *; omega⟩
          . exact .inr h)
        go_wp2_with fail
        go_ret
        exact ⟨⟨n, rfl, HE.out⟩, below_step B0.out HW.out⟩
    . obtain rfl : K = p.length := by omega
      have HE : Hid (Cnt p n (total p)) := hide (by have := HC.out; rwa [List.take_length] at this)
      go_wp2_with fail
      go_ret
      exact ⟨⟨n, rfl, HE.out⟩, below_step B0.out HW.out⟩
def lightB (p : List Fun) : Bool := decide (total p <= 150)
theorem light_any (p : List Fun) (ao : Option Addr) (c : Nat) (w : World) (hp : ProgR w p (.slice ao p.length c)) (h0 : p.length <= 140737488355328) (hS : ∀ f ∈ p, ShF f) :
    Calls Tryz.prog 7 #[.agg #[.slice ao p.length c]] w fun e w' => e = .returned (.bool (lightB p)) /\ Below w.heap.size w w' := by
  have b0 := below_box w (.cells #[.slice ao p.length c] 24)
  have H0 := hide (heap_alloc_new w (.cells #[.slice ao p.length c] 24))
  have B0 := hide b0
  have HP := hide (hp.below b0)
  have HS := hide hS
  clear b0 hp hS
  go_enter Tryz.func7, Tryz.ntmps7
  go_upto_region 1 with fail
  show Code.wp _ _ _ _ (w.alloc (.cells #[.slice ao p.length c] 24))
  generalize w.alloc (.cells #[.slice ao p.length c] 24) = W at *
  have c0 := cell9 H0.out
  go_wp2_with fail
  refine (size_try p ao c W HP.out h0 HS.out).mono ?_; rintro e w1 ⟨⟨n, rfl, hn⟩, b1⟩
  have HB : Hid (decide ((n : Int) <= 150) = lightB p) := hide (by
    unfold lightB
    rw [Bool.eq_iff_iff, decide_eq_true_eq, decide_eq_true_eq]
    rcases hn with h | h <;> omega)
  clear hn
  go_wp2_with fail
  go_ret
  exact ⟨L5.ret_bool (by rw [<- HB.out]), below_step B0.out b1⟩
end Go.Proofs.YtahhbckccdigoaaGreatDoor
namespace Go.Proofs.YtahhbckccdigoaaGreatDoor
open Go Go.RowKit
open G (Tok Er Ins Fun peek0 peek1 atOf)
theorem ints_at {l : List Int} {i : Nat} {n : Int} (h : l[i]? = some n) : (ints l)[i]? = some (.int .i64 n) := by
  show (l.map _)[i]? = _
  rw [List.getElem?_map, h]; rfl
theorem ints_of {B : Nat} {w : World} {l : List Int} {v : Value} (h : w.ownsRow B 3 1 v l.length (ints l)) : IntsV w l v := by
  rcases own_view h with ⟨rfl, hn⟩ | ⟨g, cap, rfl, h1, h2, h3, h4, h5, h6⟩
  . have e : l = [] := List.length_eq_zero_iff.1 hn
    subst e
    exact ⟨none, 0, rfl, .inl rfl, Nat.le_refl _, Nat.zero_le _⟩
  . exact ⟨some ⟨g, 0, none⟩, cap, rfl, .inr ⟨g, 0, rfl, h4, fun i n hi => by rw [Nat.zero_add]; exact h5 i _ (ints_at hi)⟩, h1, h2⟩
theorem blk_of {B : Nat} {w : World} {l : List Ins} {v : Value} (h : BlkVal B l v w) : BlkR w l v := by
  obtain ⟨cs, h0, hR⟩ := h
  rcases own_view h0 with ⟨rfl, hn⟩ | ⟨g, cap, rfl, h1, h2, h3, h4, h5, h6⟩
  . have e : l = [] := List.length_eq_zero_iff.1 hn
    subst e
    exact ⟨none, 0, rfl, Nat.le_refl _, Nat.zero_le _, .inl rfl⟩
  . refine ⟨some ⟨g, 0, none⟩, cap, rfl, h1, h2, .inr ⟨g, 0, rfl, fun i x hi => ?_⟩⟩
    obtain ⟨va, vt, k1, k2, k3⟩ := InsRow.at _ _ i x hR hi
    exact ⟨h4, va, vt, fun j t hj => by rw [Nat.zero_add]; exact h5 _ _ (k1 j t hj), ints_of k2, ints_of k3⟩
theorem blks_of {B : Nat} {w : World} {l : List (List Ins)} {v : Value} (h : BlksVal B l v w) : BlksR w l v := by
  obtain ⟨cs, h0, hR⟩ := h
  rcases own_view h0 with ⟨rfl, hn⟩ | ⟨g, cap, rfl, h1, h2, h3, h4, h5, h6⟩
  . have e : l = [] := List.length_eq_zero_iff.1 hn
    subst e
    exact ⟨none, 0, rfl, Nat.le_refl _, Nat.zero_le _, .inl rfl⟩
  . refine ⟨some ⟨g, 0, none⟩, cap, rfl, h1, h2, .inr ⟨g, 0, rfl, h4, fun i b hi => ?_⟩⟩
    obtain ⟨u, k1, k2⟩ := BRow.at _ _ i b hR hi
    exact ⟨u, by rw [Nat.zero_add]; exact h5 _ _ k1, blk_of k2⟩
theorem prog_of {B : Nat} {w : World} {l : List Fun} {v : Value} (h : ProgVal B l v w) : ProgR w l v := by
  obtain ⟨cs, h0, hR⟩ := h
  rcases own_view h0 with ⟨rfl, hn⟩ | ⟨g, cap, rfl, h1, h2, h3, h4, h5, h6⟩
  . have e : l = [] := List.length_eq_zero_iff.1 hn
    subst e
    exact ⟨none, 0, rfl, Nat.le_refl _, Nat.zero_le _, .inl rfl⟩
  . refine ⟨some ⟨g, 0, none⟩, cap, rfl, h1, h2, .inr ⟨g, 0, rfl, fun i x hi => ?_⟩⟩
    obtain ⟨vp, vb, k1, k2, k3⟩ := FRow.at _ _ i x hR hi
    exact ⟨h4, vp, vb, fun j t hj => by rw [Nat.zero_add]; exact h5 _ _ (k1 j t hj), ints_of k2, blks_of k3⟩
theorem small_no : ∀ c ∈ sSmall.data.toList, (c.toNat : Int) ≠ 35 := by decide +kernel
theorem small_read (w : World) : Calls Tryz.prog 23 #[.string sSmall] w fun e w' => ∃ v, e = .returned (.tuple #[.agg #[v], .agg #[.int .i64 0, .int .i64 0]]) /\ ProgR w' [fMain, fF] v /\ Below w.heap.size w w' :=
  (rtext_any sSmall (by decide +kernel) small_no small_is w).mono fun _ _ ⟨v, e, h, b⟩ => ⟨v, e, prog_of h, b⟩
theorem small_whole : wholeF 0 0 [fMain, fF] = (0, 0) := by decide +kernel
end Go.Proofs.YtahhbckccdigoaaGreatDoor
namespace Go.Proofs.YtahhbckccdigoaaGreatDoor
open Go Go.RowKit
open G (Tok Er Ins Fun)
def sp (ws : List (List UInt8)) : List UInt8 := ws.flatMap fun y => 32 :: y
theorem sp_app (a b : List (List UInt8)) : sp (a ++ b) = sp a ++ sp b := by simp [sp]
theorem sp_len (ws : List (List UInt8)) (m : Nat) (h : ∀ x ∈ ws, x.length <= m) : (sp ws).length <= ws.length * (m + 1) := by
  induction ws with
  | nil => simp [sp]
  | cons x r ih =>
    have h1 := h x (by simp)
    have h2 := ih fun y hy => h y (by simp [hy])
    have : (sp (x :: r)).length = x.length + 1 + (sp r).length := by simp [sp]; omega
    rw [this, List.length_cons, Nat.add_mul]
    omega
theorem rsmall_w (n : Int) (w : World) (h : I64 n) : Calls Tryz.prog 30 #[.int .i64 n] w fun e w' => e = .returned (.string (bs (dig n))) /\ Below w.heap.size w w' := by
  go_enter Tryz.func30, Tryz.ntmps30
  go_wp2_with fail
  refine (L1.refPrint_all n _ h.1 h.2).mono ?_; rintro e w1 ⟨rfl, b1⟩
  go_wp2_with fail
  go_ret
  exact ⟨rfl, b1⟩
theorem rprint_w (n : Int) (w : World) (h : I64 n) : Calls Tryz.prog 37 #[.int .i64 n] w fun e w' => e = .returned (.string (bs (dig n))) /\ Below w.heap.size w w' := L1.refPrint_all n w h.1 h.2
theorem cat3 (s : ByteArray) (x a b : List UInt8) (h : s = bs x) : s ++ bs a ++ bs b = bs (x ++ a ++ b) := by rw [h, cat_bs, cat_bs]
theorem rargs_any (l : List Int) (d : Nat) (ao : Option Addr) (c : Nat) (w : World) (hs : Sl w ao l) (hi : ∀ n ∈ l, I64 n) (hl : l.length <= 1000) (hd : d <= 1) :
    Calls Tryz.prog 38 #[.slice ao l.length c, .int .i64 d] w fun e w' => e = .returned (.string (bs (sp ((l.drop d).map valW)))) /\ Below w.heap.size w w' := by
  have HS := hide hs
  have HI := hide hi
  have HZ : Hid (∀ k, (sp (((l.drop d).take k).map valW)).length <= 23000) := hide fun k => by
    have h1 := sp_len (((l.drop d).take k).map valW) 22 fun x hx => by
      simp only [List.mem_map] at hx
      obtain ⟨n, hn, rfl⟩ := hx
      exact val_len (hi n (List.mem_of_mem_drop (List.mem_of_mem_take hn)))
    have h2 : (((l.drop d).take k).map valW).length <= 1000 := by simp; omega
    have h3 : (((l.drop d).take k).map valW).length * (22 + 1) <= 1000 * 23 := Nat.mul_le_mul h2 (Nat.le_refl _)
    omega
  have h37 : (⟨#[32, 37]⟩ : ByteArray) = bs [32, 37] := rfl
  have h37s : (bs [32, 37]).size = 2 := rfl
  clear hs hi
  go_enter Tryz.func38, Tryz.ntmps38
  go_wp2_with fail
  go_loopw [5, 6] (fun s i wr => ∃ (k : Nat) (b : ByteArray), k <= (l.drop d).length /\ i = .int .i64 ((d + k : Nat) : Int) /\ s = .string b /\ Hid (b = bs (sp (((l.drop d).take k).map valW))) /\ Hid (Below w.heap.size w wr)) (fun _ i _ => l.length + 1 - (intOf i).toNat)
  case atStart => exact ⟨0, ⟨#[]⟩, Nat.zero_le _, by simp, rfl, hide rfl, hide (Below.refl _ _)⟩
  case round =>
    obtain ⟨k, b, hk, rfl, rfl, HB, HW⟩ := hrel
    have hbz : b.size <= 23000 := by rw [HB.out, bs_size]; exact HZ.out k
    by_cases hlt : d + k < l.length
    . obtain ⟨n, hn⟩ : ∃ n, l[d + k]? = some n := ⟨_, List.getElem?_eq_getElem hlt⟩
      have HT : Hid (sp (((l.drop d).take (k + 1)).map valW) = sp (((l.drop d).take k).map valW) ++ [32, 37] ++ dig n) := hide (by
        rw [List.take_add_one, List.getElem?_drop, hn]
        simp [sp, valW])
      rcases HS.out with he | ⟨g, o, rfl, hg, hc⟩
      . subst he; simp at hlt
      have hcell := (HW.out.cell (p := ⟨g, o + (d + k), none⟩) hg).trans (hc (d + k) n hn)
      have iN : I64 n := HI.out n (List.mem_of_getElem? hn)
      have hlt' : (((d + k : Nat)) : Int) < l.length := by omega
      have h0' : (0 : Int) <= ((d + k : Nat) : Int) := by omega
      have hk1 : k + 1 <= (l.drop d).length := by simp; omega
      clear hc hn
      have HQ : Hid (∀ q, d + k = q -> q + 1 = d + (k + 1)) := hide fun q h => by omega
      generalize hq : d + k = q at *
      have HQ1 := hide (HQ.out q rfl)
      clear hq HQ
      go_wp2_with fail
      refine (rsmall_w n wr iN).mono ?_; rintro e w1 ⟨rfl, b1⟩
      have HE := hide ((cat3 b _ [32, 37] (dig n) HB.out).trans (congrArg bs HT.out.symm))
      have hdz : (bs (dig n)).size <= 21 := by rw [bs_size]; exact dig_len iN
      generalize bs (dig n) = sg at *
      have HW1 := hide (below_step HW.out b1)
      clear b1
      go_wp2_with fail
      go_roundw
      case rel => exact ⟨k + 1, _, hk1, by rw [<- HQ1.out]; go_num, rfl, HE, HW1⟩
      case measure => simp [intOf]; omega
    . have hke : k = (l.drop d).length := by simp at hk ⊢; omega
      have HT : Hid ((l.drop d).take k = l.drop d) := hide (by rw [hke, List.take_length])
      go_wp2_with fail
      go_ret
      exact ⟨L5.ret_str (by rw [HB.out, HT.out]), HW.out⟩
end Go.Proofs.YtahhbckccdigoaaGreatDoor
