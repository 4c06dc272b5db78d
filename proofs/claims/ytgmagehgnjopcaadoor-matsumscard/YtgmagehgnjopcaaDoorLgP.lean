/-
  The size of a number of 64 bits, and the product of two as eight words (radomeref03).
-/
import Derived.Test.YtgmagehgnjopcaaDoorLgJ
set_option linter.unusedSimpArgs false
set_option linter.unusedVariables false
namespace Go.Proofs.YtgmagehgnjopcaaDoor
open Go.RowKit Lg
attribute [local go_sem ↓] Go.wp_at_zero Go.wp_at_succ

set_option maxHeartbeats 400000 in
theorem lsize_any (x : Int) (w : World) (h0 : -9223372036854775808 ≤ x) (h1 : x ≤ 9223372036854775807) :
    Calls Tryd.prog 78 #[.int .i64 x] w fun e w' => e = .returned (.int .u64 ((x.natAbs : Nat) : Int)) ∧ w' = w := by
  by_cases hx : x < 0
  · go_enter Tryd.func78, Tryd.ntmps78
    go_wp2
    go_ret
    refine ⟨congrArg (fun z => Ending.returned (.int .u64 z)) ?_, rfl⟩
    simp only [IntKind.wrap_u64] at *
    omega
  · go_enter Tryd.func78, Tryd.ntmps78
    go_wp2
    go_ret
    refine ⟨congrArg (fun z => Ending.returned (.int .u64 z)) ?_, rfl⟩
    (try simp only [IntKind.wrap_u64] at *)
    omega

set_option maxRecDepth 20000 in
set_option maxHeartbeats 1000000 in
theorem prod_walk (a b : Int) (w : World) (ha0 : -9223372036854775808 ≤ a) (ha1 : a ≤ 9223372036854775807) (hb0 : -9223372036854775808 ≤ b) (hb1 : b ≤ 9223372036854775807)
    (x0 x1 y0 y1 d0 c0 d1 d2 e1 f0 e2 e3 : Int) (s : Bool) (b_x0 : 0 ≤ x0 ∧ x0 ≤ 4294967295) (b_x1 : 0 ≤ x1 ∧ x1 ≤ 4294967295) (b_y0 : 0 ≤ y0 ∧ y0 ≤ 4294967295) (b_y1 : 0 ≤ y1 ∧ y1 ≤ 4294967295) (b_d0 : 0 ≤ d0 ∧ d0 ≤ 4294967295) (b_c0 : 0 ≤ c0 ∧ c0 ≤ 4294967295) (b_d1 : 0 ≤ d1 ∧ d1 ≤ 4294967295) (b_d2 : 0 ≤ d2 ∧ d2 ≤ 4294967295) (b_e1 : 0 ≤ e1 ∧ e1 ≤ 4294967295) (b_f0 : 0 ≤ f0 ∧ f0 ≤ 4294967295) (b_e2 : 0 ≤ e2 ∧ e2 ≤ 4294967295) (b_e3 : 0 ≤ e3 ∧ e3 ≤ 4294967295)  (p_x0y0 : 0 ≤ x0 * y0 ∧ x0 * y0 ≤ 18446744065119617025) (p_x0y1 : 0 ≤ x0 * y1 ∧ x0 * y1 ≤ 18446744065119617025) (p_x1y0 : 0 ≤ x1 * y0 ∧ x1 * y0 ≤ 18446744065119617025) (p_x1y1 : 0 ≤ x1 * y1 ∧ x1 * y1 ≤ 18446744065119617025) 
    (A0 : Hid (x0 = (a.natAbs : Int) % 4294967296)) (A1 : Hid (x1 = (a.natAbs : Int) / 4294967296)) (B0 : Hid (y0 = (b.natAbs : Int) % 4294967296)) (B1 : Hid (y1 = (b.natAbs : Int) / 4294967296)) (HS : Hid (s = !(decide (a < 0) == decide (b < 0))))
    (Hd_d0 : Hid (d0 = x0 * y0 % 4294967296)) (Hc_c0 : Hid (c0 = x0 * y0 / 4294967296)) (Hd_d1 : Hid (d1 = (x0 * y1 + c0) % 4294967296)) (Hc_d2 : Hid (d2 = (x0 * y1 + c0) / 4294967296)) (Hd_e1 : Hid (e1 = (d1 + x1 * y0) % 4294967296)) (Hc_f0 : Hid (f0 = (d1 + x1 * y0) / 4294967296)) (Hd_e2 : Hid (e2 = (d2 + x1 * y1 + f0) % 4294967296)) (Hc_e3 : Hid (e3 = (d2 + x1 * y1 + f0) / 4294967296)) :
    Calls Tryd.prog 61 #[.int .i64 a, .int .i64 b] w fun e w' => e = .returned (.agg #[.bool s, .int .u64 d0, .int .u64 e1, .int .u64 e2, .int .u64 e3, .int .u64 0, .int .u64 0, .int .u64 0, .int .u64 0]) ∧ Below w.heap.size w w' := by
  go_enter Tryd.func61, Tryd.ntmps61
  go_wp2_with fail
  refine (lsize_any a _ ha0 ha1).mono ?_
  rintro e w1 ⟨rfl, rfl⟩
  go_wp2_with fail
  refine (lsize_any a _ ha0 ha1).mono ?_
  rintro e w1 ⟨rfl, rfl⟩
  go_wp2_with fail
  refine (lsize_any b _ hb0 hb1).mono ?_
  rintro e w1 ⟨rfl, rfl⟩
  go_wp2_with fail
  refine (lsize_any b _ hb0 hb1).mono ?_
  rintro e w ⟨rfl, rfl⟩
  go_wp2
  rw [← A0.out, ← A1.out, ← B0.out, ← B1.out, ← HS.out]
  go_loopw [8] (fun i wr => ((i = .int .i64 0 ∧ Row9 wr (w.heap.size + 1 + 1 + 1) s 0 0 0 0 0 0 0 0) ∨ (i = .int .i64 1 ∧ Row9 wr (w.heap.size + 1 + 1 + 1) s d0 d1 d2 0 0 0 0 0) ∨ (i = .int .i64 2 ∧ Row9 wr (w.heap.size + 1 + 1 + 1) s d0 e1 e2 e3 0 0 0 0)) ∧ wr.cell? ⟨w.heap.size + 1, 0, none⟩ = some (.int .u64 x0) ∧ wr.cell? ⟨w.heap.size + 1, 1, none⟩ = some (.int .u64 x1) ∧ wr.cell? ⟨w.heap.size + 1 + 1, 0, none⟩ = some (.int .u64 y0) ∧ wr.cell? ⟨w.heap.size + 1 + 1, 1, none⟩ = some (.int .u64 y1) ∧ Row9 wr w.heap.size false 0 0 0 0 0 0 0 0 ∧ Below w.heap.size w wr) (fun i _ => 2 - (intOf i).toNat)
  case atStart =>
    refine ⟨Or.inl ⟨rfl, row9_new3 w _ _ _ _ _ _ _ _ _ _ _ _⟩, ?_, ?_, ?_, ?_, (((row9_new w _ _ _ _ _ _ _ _ _).alloc _).alloc _).alloc _, below_al (below_al (below_al (below_al (Below.refl _ _) _) _) _) _⟩
    all_goals go_simp
  case round =>
    obtain ⟨hc, z0, z1, z2, z3, zr, zb⟩ := hrel
    rcases hc with ⟨rfl, hr⟩ | ⟨rfl, hr⟩ | ⟨rfl, hr⟩
    · go_wp2
      go_loopw [9, 10] (fun c j wr => ((j = .int .i64 0 ∧ c = .int .u64 0 ∧ Row9 wr (w.heap.size + 1 + 1 + 1) s 0 0 0 0 0 0 0 0) ∨ (j = .int .i64 1 ∧ c = .int .u64 c0 ∧ Row9 wr (w.heap.size + 1 + 1 + 1) s d0 0 0 0 0 0 0 0) ∨ (j = .int .i64 2 ∧ c = .int .u64 d2 ∧ Row9 wr (w.heap.size + 1 + 1 + 1) s d0 d1 0 0 0 0 0 0)) ∧ wr.cell? ⟨w.heap.size + 1, 0, none⟩ = some (.int .u64 x0) ∧ wr.cell? ⟨w.heap.size + 1, 1, none⟩ = some (.int .u64 x1) ∧ wr.cell? ⟨w.heap.size + 1 + 1, 0, none⟩ = some (.int .u64 y0) ∧ wr.cell? ⟨w.heap.size + 1 + 1, 1, none⟩ = some (.int .u64 y1) ∧ Row9 wr w.heap.size false 0 0 0 0 0 0 0 0 ∧ Below w.heap.size w wr) (fun _ j _ => 2 - (intOf j).toNat)
      case atStart => exact ⟨Or.inl ⟨rfl, rfl, hr⟩, z0, z1, z2, z3, zr, zb⟩
      case round =>
        clear hr z0 z1 z2 z3 zr zb
        obtain ⟨hc, z0, z1, z2, z3, zr, zb⟩ := hrel
        rcases hc with ⟨rfl, rfl, hr⟩ | ⟨rfl, rfl, hr⟩ | ⟨rfl, rfl, hr⟩
        · have a0 := hr.c0
          have g0 := hr.free 1
          go_wp2
          go_quiet (fail)
          go_wp2
          go_roundw
          case rel =>
            refine ⟨Or.inr (Or.inl ⟨rfl, ?_, ?_⟩), keep_set z0 (show w.heap.size + 1 ≠ w.heap.size + 1 + 1 + 1 by omega) _, keep_set z1 (show w.heap.size + 1 ≠ w.heap.size + 1 + 1 + 1 by omega) _, keep_set z2 (show w.heap.size + 1 + 1 ≠ w.heap.size + 1 + 1 + 1 by omega) _, keep_set z3 (show w.heap.size + 1 + 1 ≠ w.heap.size + 1 + 1 + 1 by omega) _, (zr.drewN _).other _ (show w.heap.size ≠ w.heap.size + 1 + 1 + 1 by omega), (below_drewN zb _).setCell (p := ⟨w.heap.size + 1 + 1 + 1, 1, none⟩) (show w.heap.size ≤ w.heap.size + 1 + 1 + 1 by omega) _⟩
            · rw [Hc_c0.out]
            · rw [Hd_d0.out]; exact (hr.drewN _).set0 _
          case measure => simp [intOf]
        · have a0 := hr.c1
          have g0 := hr.free 2
          go_wp2
          go_quiet (fail)
          go_wp2
          go_roundw
          case rel =>
            refine ⟨Or.inr (Or.inr ⟨rfl, ?_, ?_⟩), keep_set z0 (show w.heap.size + 1 ≠ w.heap.size + 1 + 1 + 1 by omega) _, keep_set z1 (show w.heap.size + 1 ≠ w.heap.size + 1 + 1 + 1 by omega) _, keep_set z2 (show w.heap.size + 1 + 1 ≠ w.heap.size + 1 + 1 + 1 by omega) _, keep_set z3 (show w.heap.size + 1 + 1 ≠ w.heap.size + 1 + 1 + 1 by omega) _, (zr.drewN _).other _ (show w.heap.size ≠ w.heap.size + 1 + 1 + 1 by omega), (below_drewN zb _).setCell (p := ⟨w.heap.size + 1 + 1 + 1, 2, none⟩) (show w.heap.size ≤ w.heap.size + 1 + 1 + 1 by omega) _⟩
            · rw [Hc_d2.out]
            · rw [Hd_d1.out]; exact (hr.drewN _).set1 _
          case measure => simp [intOf]
        · have a0 := hr.c2
          have g0 := hr.free 3
          go_wp2
          go_roundw
          case rel =>
            exact ⟨Or.inr (Or.inl ⟨rfl, hr.set2 _⟩), keep_set z0 (show w.heap.size + 1 ≠ w.heap.size + 1 + 1 + 1 by omega) _, keep_set z1 (show w.heap.size + 1 ≠ w.heap.size + 1 + 1 + 1 by omega) _, keep_set z2 (show w.heap.size + 1 + 1 ≠ w.heap.size + 1 + 1 + 1 by omega) _, keep_set z3 (show w.heap.size + 1 + 1 ≠ w.heap.size + 1 + 1 + 1 by omega) _, zr.other _ (show w.heap.size ≠ w.heap.size + 1 + 1 + 1 by omega), zb.setCell (p := ⟨w.heap.size + 1 + 1 + 1, 3, none⟩) (show w.heap.size ≤ w.heap.size + 1 + 1 + 1 by omega) _⟩
          case measure => simp [intOf]
    · go_wp2
      go_loopw [9, 10] (fun c j wr => ((j = .int .i64 0 ∧ c = .int .u64 0 ∧ Row9 wr (w.heap.size + 1 + 1 + 1) s d0 d1 d2 0 0 0 0 0) ∨ (j = .int .i64 1 ∧ c = .int .u64 f0 ∧ Row9 wr (w.heap.size + 1 + 1 + 1) s d0 e1 d2 0 0 0 0 0) ∨ (j = .int .i64 2 ∧ c = .int .u64 e3 ∧ Row9 wr (w.heap.size + 1 + 1 + 1) s d0 e1 e2 0 0 0 0 0)) ∧ wr.cell? ⟨w.heap.size + 1, 0, none⟩ = some (.int .u64 x0) ∧ wr.cell? ⟨w.heap.size + 1, 1, none⟩ = some (.int .u64 x1) ∧ wr.cell? ⟨w.heap.size + 1 + 1, 0, none⟩ = some (.int .u64 y0) ∧ wr.cell? ⟨w.heap.size + 1 + 1, 1, none⟩ = some (.int .u64 y1) ∧ Row9 wr w.heap.size false 0 0 0 0 0 0 0 0 ∧ Below w.heap.size w wr) (fun _ j _ => 2 - (intOf j).toNat)
      case atStart => exact ⟨Or.inl ⟨rfl, rfl, hr⟩, z0, z1, z2, z3, zr, zb⟩
      case round =>
        clear hr z0 z1 z2 z3 zr zb
        obtain ⟨hc, z0, z1, z2, z3, zr, zb⟩ := hrel
        rcases hc with ⟨rfl, rfl, hr⟩ | ⟨rfl, rfl, hr⟩ | ⟨rfl, rfl, hr⟩
        · have a0 := hr.c1
          have g0 := hr.free 2
          go_wp2
          go_quiet (fail)
          go_wp2
          go_roundw
          case rel =>
            refine ⟨Or.inr (Or.inl ⟨rfl, ?_, ?_⟩), keep_set z0 (show w.heap.size + 1 ≠ w.heap.size + 1 + 1 + 1 by omega) _, keep_set z1 (show w.heap.size + 1 ≠ w.heap.size + 1 + 1 + 1 by omega) _, keep_set z2 (show w.heap.size + 1 + 1 ≠ w.heap.size + 1 + 1 + 1 by omega) _, keep_set z3 (show w.heap.size + 1 + 1 ≠ w.heap.size + 1 + 1 + 1 by omega) _, (zr.drewN _).other _ (show w.heap.size ≠ w.heap.size + 1 + 1 + 1 by omega), (below_drewN zb _).setCell (p := ⟨w.heap.size + 1 + 1 + 1, 2, none⟩) (show w.heap.size ≤ w.heap.size + 1 + 1 + 1 by omega) _⟩
            · rw [Hc_f0.out]
            · rw [Hd_e1.out]; exact (hr.drewN _).set1 _
          case measure => simp [intOf]
        · have a0 := hr.c2
          have g0 := hr.free 3
          go_wp2
          go_quiet (fail)
          go_wp2
          go_roundw
          case rel =>
            refine ⟨Or.inr (Or.inr ⟨rfl, ?_, ?_⟩), keep_set z0 (show w.heap.size + 1 ≠ w.heap.size + 1 + 1 + 1 by omega) _, keep_set z1 (show w.heap.size + 1 ≠ w.heap.size + 1 + 1 + 1 by omega) _, keep_set z2 (show w.heap.size + 1 + 1 ≠ w.heap.size + 1 + 1 + 1 by omega) _, keep_set z3 (show w.heap.size + 1 + 1 ≠ w.heap.size + 1 + 1 + 1 by omega) _, (zr.drewN _).other _ (show w.heap.size ≠ w.heap.size + 1 + 1 + 1 by omega), (below_drewN zb _).setCell (p := ⟨w.heap.size + 1 + 1 + 1, 3, none⟩) (show w.heap.size ≤ w.heap.size + 1 + 1 + 1 by omega) _⟩
            · rw [Hc_e3.out]
            · rw [Hd_e2.out]; exact (hr.drewN _).set2 _
          case measure => simp [intOf]
        · have a0 := hr.c3
          have g0 := hr.free 4
          go_wp2
          go_roundw
          case rel =>
            exact ⟨Or.inr (Or.inr ⟨rfl, hr.set3 _⟩), keep_set z0 (show w.heap.size + 1 ≠ w.heap.size + 1 + 1 + 1 by omega) _, keep_set z1 (show w.heap.size + 1 ≠ w.heap.size + 1 + 1 + 1 by omega) _, keep_set z2 (show w.heap.size + 1 + 1 ≠ w.heap.size + 1 + 1 + 1 by omega) _, keep_set z3 (show w.heap.size + 1 + 1 ≠ w.heap.size + 1 + 1 + 1 by omega) _, zr.other _ (show w.heap.size ≠ w.heap.size + 1 + 1 + 1 by omega), zb.setCell (p := ⟨w.heap.size + 1 + 1 + 1, 4, none⟩) (show w.heap.size ≤ w.heap.size + 1 + 1 + 1 by omega) _⟩
          case measure => simp [intOf]
    · go_wp2_with (first | (refine wpList_load9 rfl (.tmp 7) rfl _ _ _ _ _ _ _ _ _ _ rfl hr ?_) | (refine wpList_store9 rfl (.tmp 4) (.tmp 78) rfl _ _ _ _ _ _ _ _ _ _ _ _ _ _ _ _ _ _ _ rfl rfl zr ?_))
      exact bodyPost_ret (v := .agg #[.bool s, .int .u64 d0, .int .u64 e1, .int .u64 e2, .int .u64 e3, .int .u64 0, .int .u64 0, .int .u64 0, .int .u64 0]) (results_9 Tryd.results61 _ _ w.heap.size _ _ _ _ _ _ _ _ _ rfl (zr.row _ _ _ _ _ _ _ _ _)) rfl ⟨rfl, below_setRow zb (Nat.le_refl _) _⟩

namespace Lg
theorem half_mul {x y : Int} (hx : 0 ≤ x ∧ x ≤ 4294967295) (hy : 0 ≤ y ∧ y ≤ 4294967295) : 0 ≤ x * y ∧ x * y ≤ 18446744065119617025 :=
  ⟨Int.mul_nonneg hx.1 hy.1, Int.mul_le_mul hx.2 hy.2 hy.1 (by omega)⟩
theorem prod_words (a b x0 x1 y0 y1 d0 c0 d1 d2 e1 f0 e2 e3 : Int) (b0 : 0 ≤ x0 ∧ x0 ≤ 4294967295) (b1 : 0 ≤ x1 ∧ x1 ≤ 4294967295) (b2 : 0 ≤ y0 ∧ y0 ≤ 4294967295) (b3 : 0 ≤ y1 ∧ y1 ≤ 4294967295) (ea : a = x0 + 4294967296 * x1) (eb : b = y0 + 4294967296 * y1)
    (h_d0 : d0 = x0 * y0 % 4294967296) (h_c0 : c0 = x0 * y0 / 4294967296) (h_d1 : d1 = (x0 * y1 + c0) % 4294967296) (h_d2 : d2 = (x0 * y1 + c0) / 4294967296) (h_e1 : e1 = (d1 + x1 * y0) % 4294967296) (h_f0 : f0 = (d1 + x1 * y0) / 4294967296) (h_e2 : e2 = (d2 + x1 * y1 + f0) % 4294967296) (h_e3 : e3 = (d2 + x1 * y1 + f0) / 4294967296) : (0 ≤ c0 ∧ c0 ≤ 4294967295) ∧ (0 ≤ d2 ∧ d2 ≤ 4294967295) ∧ (0 ≤ f0 ∧ f0 ≤ 4294967295) ∧ (0 ≤ e3 ∧ e3 ≤ 4294967295) ∧ wd 0 (a * b) = d0 ∧ wd 1 (a * b) = e1 ∧ wd 2 (a * b) = e2 ∧ wd 3 (a * b) = e3 ∧ wd 4 (a * b) = 0 ∧ wd 5 (a * b) = 0 ∧ wd 6 (a * b) = 0 ∧ wd 7 (a * b) = 0 := by
  have p0 := half_mul b0 b2
  have p1 := half_mul b0 b3
  have p2 := half_mul b1 b2
  have p3 := half_mul b1 b3
  have e : a * b = x0 * y0 + 4294967296 * (x0 * y1) + 4294967296 * (x1 * y0) + 18446744073709551616 * (x1 * y1) := by
    rw [ea, eb, Int.add_mul, Int.mul_add, Int.mul_add, Int.mul_left_comm x0, Int.mul_assoc 4294967296 x1 y0, Int.mul_assoc 4294967296 x1, Int.mul_left_comm x1]
    omega
  rw [e]
  generalize x0 * y0 = p00 at *
  generalize x0 * y1 = p01 at *
  generalize x1 * y0 = p10 at *
  generalize x1 * y1 = p11 at *
  clear e ea eb b0 b1 b2 b3
  simp only [wd]
  refine ⟨?_, ?_, ?_, ?_, ?_, ?_, ?_, ?_, ?_, ?_, ?_, ?_⟩
  all_goals omega
end Lg

/-- Product: of two numbers. -/
theorem lprod_any (a b : Int) (w : World) (ha0 : -9223372036854775808 ≤ a) (ha1 : a ≤ 9223372036854775807) (hb0 : -9223372036854775808 ≤ b) (hb1 : b ≤ 9223372036854775807) :
    Calls Tryd.prog 61 #[.int .i64 a, .int .i64 b] w fun e w' => ∃ (s : Bool) (C : Int), e = .returned (.agg #[.bool s, .int .u64 (wd 0 C), .int .u64 (wd 1 C), .int .u64 (wd 2 C), .int .u64 (wd 3 C), .int .u64 (wd 4 C), .int .u64 (wd 5 C), .int .u64 (wd 6 C), .int .u64 (wd 7 C)]) ∧ 0 ≤ C ∧ C ≤ 85070591730234615865843651857942052864 ∧ sgz s C = a * b ∧ Below w.heap.size w w' := by
  have bx : 0 ≤ (a.natAbs : Int) ∧ (a.natAbs : Int) ≤ 9223372036854775808 := by omega
  have by' : 0 ≤ (b.natAbs : Int) ∧ (b.natAbs : Int) ≤ 9223372036854775808 := by omega
  obtain ⟨k1, k2, k3, k4, q0, q1, q2, q3, q4, q5, q6, q7⟩ := prod_words (a.natAbs : Int) (b.natAbs : Int) ((a.natAbs : Int) % 4294967296) ((a.natAbs : Int) / 4294967296) ((b.natAbs : Int) % 4294967296) ((b.natAbs : Int) / 4294967296) _ _ _ _ _ _ _ _ (by omega) (by omega) (by omega) (by omega) (by omega) (by omega) rfl rfl rfl rfl rfl rfl rfl rfl
  refine (prod_walk a b w ha0 ha1 hb0 hb1 _ _ _ _ _ _ _ _ _ _ _ _ _ (by omega) (by omega) (by omega) (by omega) (by omega) k1 (by omega) k2 (by omega) k3 (by omega) k4 (half_mul (by omega) (by omega)) (half_mul (by omega) (by omega)) (half_mul (by omega) (by omega)) (half_mul (by omega) (by omega)) rfl rfl rfl rfl rfl rfl rfl rfl rfl rfl rfl rfl rfl).mono ?_
  rintro e w' ⟨rfl, hb⟩
  refine ⟨!(decide (a < 0) == decide (b < 0)), (a.natAbs : Int) * (b.natAbs : Int), ?_, Int.mul_nonneg bx.1 by'.1, Int.mul_le_mul bx.2 by'.2 by'.1 (by omega), ?_, hb⟩
  · rw [q0, q1, q2, q3, q4, q5, q6, q7]
  · have e1 : ((a.natAbs : Int) * (b.natAbs : Int)) = ((a * b).natAbs : Int) := by rw [Int.natAbs_mul, Int.natCast_mul]
    rw [e1]
    unfold sgz
    by_cases c1 : a < 0
    · by_cases c2 : b < 0
      · have := Int.mul_pos_of_neg_of_neg c1 c2
        rw [decide_eq_true c1, decide_eq_true c2]; simp; omega
      · rw [decide_eq_true c1, decide_eq_false c2]
        have : a * b ≤ 0 := Int.mul_nonpos_of_nonpos_of_nonneg (by omega) (by omega)
        simp; omega
    · by_cases c2 : b < 0
      · have : a * b ≤ 0 := Int.mul_nonpos_of_nonneg_of_nonpos (by omega) (by omega)
        rw [decide_eq_false c1, decide_eq_true c2]; simp; omega
      · have := Int.mul_nonneg (show 0 ≤ a by omega) (show 0 ≤ b by omega)
        rw [decide_eq_false c1, decide_eq_false c2]; simp; omega

end Go.Proofs.YtgmagehgnjopcaaDoor
