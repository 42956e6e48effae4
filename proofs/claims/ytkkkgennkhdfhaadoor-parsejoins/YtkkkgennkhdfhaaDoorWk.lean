/- The small check. -/
import Derived.Test.YtkkkgennkhdfhaaDoorRwA
namespace Go.Proofs.YtkkkgennkhdfhaaDoor
open Go Go.RowKit
open G (Tok Er Ins Fun)

theorem works_any (w : World) (ht : Tabs w) (hw : 2 ≤ w.heap.size) : Calls Tryd.prog 6 #[] w fun e w' => e = .returned (.bool true) ∧ Below w.heap.size w w' := by
  have T0 := hide ht
  clear ht
  go_enter Tryd.func6, Tryd.ntmps6
  go_wp2_with fail
  refine (small_any _).mono ?_; rintro e w0 ⟨rfl, hE⟩; obtain rfl : w = w0 := hE.symm
  go_wp2_with fail
  refine (text_any sSmall _ (by decide +kernel) T0.out hw).mono ?_; rintro e w1 ⟨b1, ⟨xs, v, hx, rfl, hV⟩ | ⟨er, hx, _⟩⟩
  rotate_left
  · rw [small_is] at hx; exact absurd hx (by simp)
  rw [small_is] at hx; cases hx
  obtain ⟨ao, cap, rfl⟩ := hV.len
  obtain ⟨b2, c2, d2⟩ := boxes_ok w1 (.slice ao 2 cap) (.int .i64 0) (.int .i64 0)
  have B2 := hide (below_step b1 b2)
  have V2 : Hid (ProgVal w.heap.size [fMain, fF] (.slice ao 2 cap) (boxes w1 (.slice ao 2 cap) (.int .i64 0) (.int .i64 0))) := hide (hV.below b2)
  have T2 := hide ((T0.out.below b1).below b2)
  have h2 : w1.heap.size + 1 < (boxes w1 (.slice ao 2 cap) (.int .i64 0) (.int .i64 0)).heap.size := (Array.getElem?_eq_some_iff.1 d2).1
  have hw1 := b1.size
  replace c2 := hide c2
  replace d2 := hide d2
  clear hV b1 b2
  go_upto_region 2 with fail
  show Code.wp _ _ _ _ (boxes w1 (.slice ao 2 cap) (.int .i64 0) (.int .i64 0))
  generalize boxes w1 (.slice ao 2 cap) (.int .i64 0) (.int .i64 0) = W2 at *
  go_wp2_with fail
  refine (text_any sX _ (by decide +kernel) T2.out (by omega)).mono ?_; rintro e w3 ⟨b3, ⟨xs, v, hx, _⟩ | ⟨er, hx, rfl⟩⟩
  · rw [x_is] at hx; exact absurd hx (by simp)
  rw [x_is] at hx; cases hx
  obtain ⟨b4, _, d4⟩ := boxes_ok w3 (.slice none 0 0) (.int .i64 2) (.int .i64 20)
  replace b4 := below_step b3 b4
  have B4 := hide (below_step B2.out b4)
  have V4 := hide (V2.out.below b4)
  have T4 := hide (T2.out.below b4)
  have h4 : w3.heap.size + 1 < (boxes w3 (.slice none 0 0) (.int .i64 2) (.int .i64 20)).heap.size := (Array.getElem?_eq_some_iff.1 d4).1
  have hw3 := b3.size
  replace c2 := hide ((b4.block _ (by omega)).trans c2.out)
  replace d2 := hide ((b4.block _ (by omega)).trans d2.out)
  replace d4 := hide d4
  clear b4 b3 B2 V2 T2
  go_upto_region 3 with fail
  show Code.wp _ _ _ _ (boxes w3 (.slice none 0 0) (.int .i64 2) (.int .i64 20))
  generalize boxes w3 (.slice none 0 0) (.int .i64 2) (.int .i64 20) = W4 at *
  go_wp2_with fail
  refine (text_any sB _ (by decide +kernel) T4.out (by omega)).mono ?_; rintro e w5 ⟨b5, ⟨xs, v, hx, _⟩ | ⟨er, hx, rfl⟩⟩
  · rw [b_is] at hx; exact absurd hx (by simp)
  rw [b_is] at hx; cases hx
  obtain ⟨b6, _, d6⟩ := boxes_ok w5 (.slice none 0 0) (.int .i64 7) (.int .i64 16)
  replace b6 := below_step b5 b6
  have B6 := hide (below_step B4.out b6)
  have V6 := hide (V4.out.below b6)
  have T6 := hide (T4.out.below b6)
  have h6 : w5.heap.size + 1 < (boxes w5 (.slice none 0 0) (.int .i64 7) (.int .i64 16)).heap.size := (Array.getElem?_eq_some_iff.1 d6).1
  have hw5 := b5.size
  replace c2 := hide ((b6.block _ (by omega)).trans c2.out)
  replace d2 := hide ((b6.block _ (by omega)).trans d2.out)
  replace d4 := hide ((b6.block _ (by omega)).trans d4.out)
  replace d6 := hide d6
  clear b6 b5 B4 V4 T4
  go_upto_region 4 with fail
  show Code.wp _ _ _ _ (boxes w5 (.slice none 0 0) (.int .i64 7) (.int .i64 16))
  generalize boxes w5 (.slice none 0 0) (.int .i64 7) (.int .i64 16) = W6 at *
  go_wp2_with fail
  refine (text_any sF _ (by decide +kernel) T6.out (by omega)).mono ?_; rintro e w7 ⟨b7, ⟨xs, v, hx, _⟩ | ⟨er, hx, rfl⟩⟩
  · rw [f_is] at hx; exact absurd hx (by simp)
  rw [f_is] at hx; cases hx
  obtain ⟨b8, _, d8⟩ := boxes_ok w7 (.slice none 0 0) (.int .i64 4) (.int .i64 4)
  replace b8 := below_step b7 b8
  have B8 := hide (below_step B6.out b8)
  have V8 := hide (V6.out.below b8)
  have T8 := hide (T6.out.below b8)
  have h8 : w7.heap.size + 1 < (boxes w7 (.slice none 0 0) (.int .i64 4) (.int .i64 4)).heap.size := (Array.getElem?_eq_some_iff.1 d8).1
  have hw7 := b7.size
  replace c2 := hide ((b8.block _ (by omega)).trans c2.out)
  replace d2 := hide ((b8.block _ (by omega)).trans d2.out)
  replace d4 := hide ((b8.block _ (by omega)).trans d4.out)
  replace d6 := hide ((b8.block _ (by omega)).trans d6.out)
  replace d8 := hide d8
  clear b8 b7 B6 V6 T6
  go_upto_region 5 with fail
  show Code.wp _ _ _ _ (boxes w7 (.slice none 0 0) (.int .i64 4) (.int .i64 4))
  generalize boxes w7 (.slice none 0 0) (.int .i64 4) (.int .i64 4) = W8 at *
  obtain ⟨g, vp, vb, rfl, _, k1, k2, kc, _, kb⟩ := V8.out.fn 0 fMain rfl
  obtain ⟨aob, capb, rfl⟩ := kb.len
  obtain ⟨gb, vk, rfl, _, k3, k4, kd, kk⟩ := kb.blk 1 bOne rfl
  obtain ⟨aok, capk, rfl⟩ := kk.len
  obtain ⟨gk, va, vt, rfl, _, k5, k6, ke, kf, kg⟩ := kk.ins 2 x21 rfl
  obtain ⟨aoa, capa, rfl⟩ := own_len kf
  obtain ⟨aot, capt, rfl⟩ := own_len kg
  clear kb kk kf kg V8
  have q0 : W8.cell? ⟨w1.heap.size, 0, none⟩ = some (.slice (some ⟨g, 0, none⟩) 2 cap) := by simp [World.cell?, c2.out]
  have q1 : W8.cell? ⟨w1.heap.size + 1, 0, none⟩ = some (.int .i64 0) := by simp [World.cell?, d2.out]
  have r0 : W8.cell? ⟨w3.heap.size + 1, 0, none⟩ = some (.int .i64 2) := by simp [World.cell?, d4.out]
  have r1 : W8.cell? ⟨w3.heap.size + 1, 1, none⟩ = some (.int .i64 20) := by simp [World.cell?, d4.out]
  have r2 : W8.cell? ⟨w5.heap.size + 1, 0, none⟩ = some (.int .i64 7) := by simp [World.cell?, d6.out]
  have r3 : W8.cell? ⟨w5.heap.size + 1, 1, none⟩ = some (.int .i64 16) := by simp [World.cell?, d6.out]
  have r4 : W8.cell? ⟨w7.heap.size + 1, 0, none⟩ = some (.int .i64 4) := by simp [World.cell?, d8.out]
  have r5 : W8.cell? ⟨w7.heap.size + 1, 1, none⟩ = some (.int .i64 4) := by simp [World.cell?, d8.out]
  have s3 : W8.cell? ⟨g, 3, none⟩ = some (.slice (some ⟨gb, 0, none⟩) 3 capb) := kc 3 _ rfl
  have t1 : W8.cell? ⟨gb, 1, none⟩ = some (.slice (some ⟨gk, 0, none⟩) 4 capk) := kd
  have u0 : W8.cell? ⟨gk, 16, none⟩ = some (.int .i64 21) := ke 0 _ rfl
  have u1 : W8.cell? ⟨gk, 17, none⟩ = some (.int .i64 6) := ke 1 _ rfl
  have u2 : W8.cell? ⟨gk, 18, none⟩ = some (.int .i64 7) := ke 2 _ rfl
  have u3 : W8.cell? ⟨gk, 19, none⟩ = some (.int .i64 1) := ke 3 _ rfl
  have u4 : W8.cell? ⟨gk, 20, none⟩ = some (.slice aoa 1 capa) := ke 4 _ rfl
  have u5 : W8.cell? ⟨gk, 21, none⟩ = some (.slice aot 0 capt) := ke 5 _ rfl
  have u6 : W8.cell? ⟨gk, 22, none⟩ = some (.string ⟨#[102]⟩) := ke 6 _ rfl
  have u7 : W8.cell? ⟨gk, 23, none⟩ = some (.int .i64 113) := ke 7 _ rfl
  clear kc kd ke
  have b9 := below_box W8 (.cells #[.int .i64 21, .int .i64 6, .int .i64 7, .int .i64 1, .slice aoa 1 capa, .slice aot 0 capt, .string ⟨#[102]⟩, .int .i64 113] 38)
  have R0 := hide ((b9.cell (p := ⟨w3.heap.size + 1, 0, none⟩) (show w3.heap.size + 1 < W8.heap.size by omega)).trans r0)
  have R1 := hide ((b9.cell (p := ⟨w3.heap.size + 1, 1, none⟩) (show w3.heap.size + 1 < W8.heap.size by omega)).trans r1)
  have R2 := hide ((b9.cell (p := ⟨w5.heap.size + 1, 0, none⟩) (show w5.heap.size + 1 < W8.heap.size by omega)).trans r2)
  have R3 := hide ((b9.cell (p := ⟨w5.heap.size + 1, 1, none⟩) (show w5.heap.size + 1 < W8.heap.size by omega)).trans r3)
  have R4 := hide ((b9.cell (p := ⟨w7.heap.size + 1, 0, none⟩) (show w7.heap.size + 1 < W8.heap.size by omega)).trans r4)
  have R5 := hide ((b9.cell (p := ⟨w7.heap.size + 1, 1, none⟩) (show w7.heap.size + 1 < W8.heap.size by omega)).trans r5)
  have N := hide (eight_cell (w := W8) (x := x21) (va := .slice aoa 1 capa) (vt := .slice aot 0 capt))
  replace b9 := hide b9
  go_upto_region 8 with fail
  show Code.wp _ _ _ _ (W8.alloc (.cells #[.int .i64 21, .int .i64 6, .int .i64 7, .int .i64 1, .slice aoa 1 capa, .slice aot 0 capt, .string ⟨#[102]⟩, .int .i64 113] 38))
  have n0 : (W8.alloc (.cells #[.int .i64 21, .int .i64 6, .int .i64 7, .int .i64 1, .slice aoa 1 capa, .slice aot 0 capt, .string ⟨#[102]⟩, .int .i64 113] 38)).cell? ⟨W8.heap.size, 0, none⟩ = some (.int .i64 21) := N.out 0 _ rfl
  have n2 : (W8.alloc (.cells #[.int .i64 21, .int .i64 6, .int .i64 7, .int .i64 1, .slice aoa 1 capa, .slice aot 0 capt, .string ⟨#[102]⟩, .int .i64 113] 38)).cell? ⟨W8.heap.size, 2, none⟩ = some (.int .i64 7) := N.out 2 _ rfl
  have n4 : (W8.alloc (.cells #[.int .i64 21, .int .i64 6, .int .i64 7, .int .i64 1, .slice aoa 1 capa, .slice aot 0 capt, .string ⟨#[102]⟩, .int .i64 113] 38)).cell? ⟨W8.heap.size, 4, none⟩ = some (.slice aoa 1 capa) := N.out 4 _ rfl
  have n6 : (W8.alloc (.cells #[.int .i64 21, .int .i64 6, .int .i64 7, .int .i64 1, .slice aoa 1 capa, .slice aot 0 capt, .string ⟨#[102]⟩, .int .i64 113] 38)).cell? ⟨W8.heap.size, 6, none⟩ = some (.string ⟨#[102]⟩) := N.out 6 _ rfl
  clear N
  generalize W8.alloc (.cells #[.int .i64 21, .int .i64 6, .int .i64 7, .int .i64 1, .slice aoa 1 capa, .slice aot 0 capt, .string ⟨#[102]⟩, .int .i64 113] 38) = W9 at *
  have z0 := R0.out
  have z1 := R1.out
  have z2 := R2.out
  have z3 := R3.out
  have z4 := R4.out
  have z5 := R5.out
  go_wp2_with fail
  go_ret
  exact ⟨rfl, below_step B8.out b9.out⟩
end Go.Proofs.YtkkkgennkhdfhaaDoor
