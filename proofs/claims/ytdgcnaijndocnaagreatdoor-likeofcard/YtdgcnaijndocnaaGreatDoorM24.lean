/-
  The document's answer of layer 6 (radomeref06): times, Exp.
-/
import Derived.Test.YtdgcnaijndocnaaGreatDoorM1
import Derived.Test.YtdgcnaijndocnaaGreatDoorM4
import Derived.Test.YtdgcnaijndocnaaGreatDoorLgV
import Derived.Test.YtdgcnaijndocnaaGreatDoorM14
import Derived.Test.YtdgcnaijndocnaaGreatDoorM3
import Derived.Deep.DeepCutAuto
import Derived.Deep.RegionHeld3
import Derived.Deep.CutRange
import Derived.Deep.RegionWith
import Derived.Test.YtdgcnaijndocnaaGreatDoorM21
set_option linter.unusedSimpArgs false
set_option linter.unusedVariables false
namespace Go.Proofs.YtdgcnaijndocnaaGreatDoor
open Go.RowKit Dec
attribute [local go_sem ↓] Go.wp_at_zero Go.wp_at_succ
theorem Hid.mkR {p : Prop} (h : p) : Hid p := h
theorem ldot_one (a b : Int) (p : Nat) (w : World) (ha0 : -9223372036854775808 ≤ a) (ha1 : a ≤ 9223372036854775807) (hb0 : -9223372036854775808 ≤ b) (hb1 : b ≤ 9223372036854775807) (hp : p ≤ 62) :
    Calls Tryz.prog 37 #[.slice (some ⟨w.heap.size, 0, none⟩) 1 1, .slice (some ⟨w.heap.size + 1, 0, none⟩) 1 1, .int .i64 p] ((w.alloc (.cells #[.int .i64 a] 2)).alloc (.cells #[.int .i64 b] 2)) fun e w' =>
      e = .returned (.tuple #[.int .i64 (Qn.clamp (Qn.rne (a * b) (2 ^ p))), .bool (Qn.great (Qn.rne (a * b) (2 ^ p)))]) ∧ Below w.heap.size w w' := by
  have hA : ((w.alloc (.cells #[.int .i64 a] 2)).alloc (.cells #[.int .i64 b] 2)).heap[w.heap.size]? = some (.cells #[.int .i64 a] 2 (0, 0)) := by
    rw [Below.heap_alloc _ _ _ (by simp)]; exact heap_alloc_new w _
  have hB : ((w.alloc (.cells #[.int .i64 a] 2)).alloc (.cells #[.int .i64 b] 2)).heap[w.heap.size + 1]? = some (.cells #[.int .i64 b] 2 (0, 0)) := by
    have h := heap_alloc_new (w.alloc (.cells #[.int .i64 a] 2)) (.cells #[.int .i64 b] 2)
    rwa [show (w.alloc (.cells #[.int .i64 a] 2)).heap.size = w.heap.size + 1 by simp] at h
  have h := ldot_any (some ⟨w.heap.size, 0, none⟩) (some ⟨w.heap.size + 1, 0, none⟩) ⟨w.heap.size, 0, none⟩ ⟨w.heap.size + 1, 0, none⟩ 1 1 1 (fun _ => a) (fun _ => b) p
    ((w.alloc (.cells #[.int .i64 a] 2)).alloc (.cells #[.int .i64 b] 2)) (by omega) (fun _ => rfl) (fun _ => rfl)
    (fun k hk => by obtain rfl : k = 0 := by omega
                    exact (cell_of_row _ _ 0 _ _ (0, 0) hA).trans rfl)
    (fun k hk => by obtain rfl : k = 0 := by omega
                    exact (cell_of_row _ _ 0 _ _ (0, 0) hB).trans rfl)
    (fun _ => ⟨ha0, ha1⟩) (fun _ => ⟨hb0, hb1⟩) hp
  have e1 : Dt.dk (fun _ => a) (fun _ => b) 1 = a * b := by show 0 + a * b = _; omega
  rw [e1] at h
  refine h.mono ?_
  rintro e w1 ⟨rfl, k1⟩
  exact ⟨rfl, below_tr (below_al (below_al (Below.refl _ _) _) _) k1⟩
set_option maxHeartbeats 400000 in
theorem rtimes_any (a b : Int) (w : World) (ha0 : -9223372036854775808 ≤ a) (ha1 : a ≤ 9223372036854775807) (hb0 : -9223372036854775808 ≤ b) (hb1 : b ≤ 9223372036854775807) :
    Calls Tryz.prog 104 #[.int .i64 a, .int .i64 b] w fun e w' => e = .returned (.int .i64 (Gw.tim a b)) ∧ Below w.heap.size w w' := by
  go_enter Tryz.func104, Tryz.ntmps104
  go_wp2_with fail
  refine (ldot_one a b 50 w ha0 ha1 hb0 hb1 (by omega)).mono ?_
  rintro e w1 ⟨rfl, k1⟩
  go_wp2
  go_ret
  exact ⟨rfl, k1⟩
namespace Gw
def NumAt (w : World) (g : Nat) (z : Int) : Prop := ∃ a L c, Row2 w g (.bool (decide (z < 0))) (.slice a L c) ∧ IsNum w (.agg #[.bool (decide (z < 0)), .slice a L c]) z
theorem NumAt.keep {w w' : World} {g : Nat} {z : Int} (h : NumAt w g z) (hb : Below w.heap.size w w') : NumAt w' g z := by
  obtain ⟨a, L, c, h1, h2⟩ := h
  exact ⟨a, L, c, h1.keep hb, h2.below hb⟩
theorem numAt_new {w : World} {v : Value} {z : Int} (h : IsNum w v z) : ∃ a L c, v = .agg #[.bool (decide (z < 0)), .slice a L c] ∧ NumAt (w.alloc (.cells #[.bool (decide (z < 0)), .slice a L c] 93)) w.heap.size z := by
  obtain ⟨a, L, c, rfl⟩ := h.form
  exact ⟨a, L, c, rfl, a, L, c, row2_new w _ _, h.below (below_al (Below.refl _ _) _)⟩
theorem NumAt.set {w : World} {g : Nat} {z' : Int} {a : Option Addr} {L c : Nat} (h : IsNum w (.agg #[.bool (decide (z' < 0)), .slice a L c]) z') {p : Bool} {ao : Option Addr} {n cc : Nat} (hr : Row2 w g (.bool p) (.slice ao n cc)) :
    NumAt ((w.setCell ⟨g, 0, none⟩ (.bool (decide (z' < 0)))).setCell ⟨g, 1, none⟩ (.slice a L c)) g z' := ⟨a, L, c, hr.set2 _ _, h.row2 hr _ _⟩
theorem NumAt.row {w : World} {g : Nat} {z : Int} (h : NumAt w g z) : ∃ a L c, w.cell? ⟨g, 0, none⟩ = some (.bool (decide (z < 0))) ∧ w.cell? ⟨g, 1, none⟩ = some (.slice a L c) ∧ w.frozen? ⟨g, 0, none⟩ = false ∧ w.frozen? ⟨g, 1, none⟩ = false ∧ IsNum w (.agg #[.bool (decide (z < 0)), .slice a L c]) z ∧ Row2 w g (.bool (decide (z < 0))) (.slice a L c) := by
  obtain ⟨a, L, c, h1, h2⟩ := h
  exact ⟨a, L, c, h1.c0, h1.c1, h1.free 0, h1.free 1, h2, h1⟩
theorem len18 {n : Int} (h0 : -1000000000000000000000000000000 ≤ n) (h1 : n ≤ 1000000000000000000000000000000) : (digs n.natAbs).length ≤ 800000 := by
  have := length_digs_le (show n.natAbs < 10 ^ 31 by omega)
  omega
end Gw
end Go.Proofs.YtdgcnaijndocnaaGreatDoor
namespace Go.Proofs.YtdgcnaijndocnaaGreatDoor
open Go.RowKit Dec Gw
attribute [local go_sem ↓] Go.wp_at_zero Go.wp_at_succ
namespace Gw
theorem num_zero (w : World) : IsNum w (.agg #[.bool (decide ((0 : Int) < 0)), .slice none 0 0]) 0 := ⟨.slice none 0 0, rfl, Or.inl ⟨rfl, rfl⟩⟩
end Gw
end Go.Proofs.YtdgcnaijndocnaaGreatDoor
namespace Go.Proofs.YtdgcnaijndocnaaGreatDoor
open Go.RowKit Dec Gw
attribute [local go_sem ↓] Go.wp_at_zero Go.wp_at_succ
namespace Gw
theorem loops {x d : Int} (h0 : 1 ≤ x) (h : Dn x d) : ∃ J I : Nat, J ≤ 11 ∧ I ≤ 50 ∧ d = (J : Int) - (I : Int) ∧
  (∀ j, j ≤ J → (2251799813685248 ≤ x / 2 ^ j ↔ j < J)) ∧ (∀ i, i ≤ I → (x / 2 ^ J * 2 ^ i < 1125899906842624 ↔ i < I)) ∧ x / 2 ^ J * 2 ^ I = mo x d ∧ (∀ j, 0 ≤ x / 2 ^ j ∧ x / 2 ^ j ≤ x) ∧ (∀ i, 0 ≤ x / 2 ^ J * 2 ^ i) := by
 have hd := h
 obtain ⟨d0, d1, _, _⟩ := hd
 have hx : ∀ j : Nat, 0 ≤ x / 2 ^ j ∧ x / 2 ^ j ≤ x := fun j => ⟨Int.ediv_nonneg (by omega) (Int.pow_nonneg (by omega)), Int.ediv_le_self _ (by omega)⟩
 rcases Int.lt_or_le d 0 with k | k
 ·refine ⟨0, (-d).toNat, by omega, by omega, by omega, ?_, ?_, ?_, hx, ?_⟩
  ·intro j hj
   obtain rfl : j = 0 := by omega
   have := (mo_less h 0 (by omega)).2 (by omega)
   rw [Int.pow_zero, Int.mul_one] at this
   rw [Int.pow_zero, Int.ediv_one]
   omega
  ·intro i hi
   rw [Int.pow_zero, Int.ediv_one, mo_less h i (by omega)]
   omega
  ·rw [Int.pow_zero, Int.ediv_one]
   unfold mo
   rw [if_pos k]
  ·intro i
   exact Int.mul_nonneg (hx 0).1 (Int.pow_nonneg (by omega))
 ·refine ⟨d.toNat, 0, by omega, by omega, by omega, ?_, ?_, ?_, hx, ?_⟩
  ·intro j hj
   rw [mo_more h j (by omega)]
   omega
  ·intro i hi
   obtain rfl : i = 0 := by omega
   have := (mo_bd h).1
   unfold mo at this
   rw [if_neg (by omega)] at this
   rw [Int.pow_zero, Int.mul_one]
   omega
  ·rw [Int.pow_zero, Int.mul_one]
   unfold mo
   rw [if_neg (by omega)]
  ·intro i
   exact Int.mul_nonneg (hx d.toNat).1 (Int.pow_nonneg (by omega))
end Gw
set_option maxRecDepth 20000 in
set_option maxHeartbeats 2000000 in
theorem rlog_any (x : Int) (b : Nat) (w : World) (h0 : 1 ≤ x) (h1 : x ≤ 4611686018427387903) (hb : b ≤ 62) :
  Calls Tryz.prog 88 #[.int .i64 x, .int .i64 b] w fun e w' => e = .returned (.int .i64 (Gw.lgb x (Gw.dn x) b)) ∧ Below w.heap.size w w' := by
 have hd := dn_ok h0 h1
 obtain ⟨J, I, hJ, hI, hJI, H1, H2, H3, B1, B2⟩ := loops h0 hd
 have bm := mo_bd hd
 have bl := lg_bd bm.1 bm.2 (e := dn x - (b : Int) + 50) (by omega) (by omega)
 have hv : Gw.lgb x (Gw.dn x) b = lg (mo x (dn x)) (dn x - (b : Int) + 50) := rfl
 rw [hv]
 obtain ⟨m, hm⟩ : ∃ m, m = mo x (dn x) := ⟨_, rfl⟩
 obtain ⟨e, he⟩ : ∃ e, e = dn x - (b : Int) + 50 := ⟨_, rfl⟩
 have he2 : e = 50 - (b : Int) + (J : Int) - (I : Int) := by omega
 rw [← hm] at bm bl H3 ⊢
 rw [← he] at bl ⊢
 have be : -100 ≤ e ∧ e ≤ 100 := by omega
 obtain ⟨V, hV⟩ : ∃ V, V = lg m e := ⟨_, rfl⟩
 rw [← hV] at bl ⊢
 have HV := Hid.mkR hV
 have HHJI := Hid.mkR hJI
 clear hV hv hd hm he hJI
 have HH1 := Hid.mkR H1
 have HH2 := Hid.mkR H2
 have HH3 := Hid.mkR H3
 have HB1 := Hid.mkR B1
 have HB2 := Hid.mkR B2
 have HE2 := Hid.mkR he2
 clear H1 H2 H3 B1 B2 he2
 go_enter Tryz.func88, Tryz.ntmps88
 go_wp2
 go_loopw [5, 6] (fun p q wr => ∃ j : Nat, j ≤ J ∧ p = .int .i64 (x / 2 ^ j) ∧ q = .int .i64 (50 - (b : Int) + (j : Int)) ∧ wr = w) (fun p q _ => J - (intOf q - 50 + (b : Int)).toNat)
 case atStart => exact ⟨0, by omega, by rw [Int.pow_zero, Int.ediv_one], by simp, rfl⟩
 case round =>
  obtain ⟨j, hj, rfl, rfl, rfl⟩ := hrel
  have g1 := HH1.out j hj
  have b1 := HB1.out j
  by_cases hjk : j < J
  ·have hn : x / 2 ^ j / 2 = x / 2 ^ (j + 1) := (Lg.half_pow x j).symm
   obtain ⟨p, hp⟩ : ∃ p, p = x / 2 ^ j := ⟨_, rfl⟩
   rw [← hp] at g1 b1 hn ⊢
   have c1 : 2251799813685248 ≤ p := g1.2 hjk
   have HN := Hid.mkR hn
   clear hp g1 hn
   go_wp2
   all_goals go_roundw
   case rel => exact ⟨j + 1, by omega, by rw [← HN.out], by go_num, trivial⟩
   case measure => simp [intOf]; omega
  ·obtain rfl : j = J := by omega
   have c1 : ¬ 2251799813685248 ≤ x / 2 ^ j := fun c => absurd (g1.1 c) (by omega)
   obtain ⟨p, hp⟩ : ∃ p, p = x / 2 ^ j := ⟨_, rfl⟩
   rw [← hp] at b1 c1 ⊢
   rw [← hp] at HH2 HH3 HB2
   have hp1 : p < 2251799813685248 := by omega
   clear hp g1 HH1 HB1 c1
   go_wp2
   go_loopw [5, 6] (fun p' q ws => ∃ i : Nat, i ≤ I ∧ p' = .int .i64 (p * 2 ^ i) ∧ q = .int .i64 (50 - (b : Int) + (j : Int) - (i : Int)) ∧ ws = wr) (fun p q _ => I - (50 - (b : Int) + (j : Int) - intOf q).toNat)
   case atStart => exact ⟨0, by omega, by rw [Int.pow_zero, Int.mul_one], by simp, rfl⟩
   case round =>
    obtain ⟨i, hi, rfl, rfl, rfl⟩ := hrel
    have g2 := HH2.out i hi
    have b2 := HB2.out i
    by_cases hik : i < I
    ·have hn : 2 * (p * 2 ^ i) = p * 2 ^ (i + 1) := by rw [Int.pow_succ, Int.mul_comm 2, Int.mul_assoc]
     obtain ⟨r, hr⟩ : ∃ r, r = p * 2 ^ i := ⟨_, rfl⟩
     rw [← hr] at g2 b2 hn ⊢
     have c1 : r < 1125899906842624 := g2.2 hik
     have HN := Hid.mkR hn
     clear hr g2 hn
     go_wp2
     all_goals go_roundw
     case rel => exact ⟨i + 1, by omega, by rw [← HN.out], by go_num, trivial⟩
     case measure => simp [intOf]; omega
    ·obtain rfl : i = I := by omega
     rw [HH3.out, ← HE2.out]
     clear g2 b2 HH2 HB2 HE2 HH3 HHJI
     have bs := s0_bd bm.1 bm.2
     have bq := sq_bd bm.1 bm.2
     have HD := Hid.mkR (fun W => ldiv_any (m - 1125899906842624) (m + 1125899906842624) 50 W (by omega) (by omega) (by omega) (by omega) (by omega) (by omega))
     rw [s0_div bm.1 bm.2] at HD
     obtain ⟨gr, hgr⟩ : ∃ g, g = Qn.great (Qn.rne (((m - 1125899906842624).natAbs : Int) * 2 ^ 50) ((m + 1125899906842624).natAbs : Int)) := ⟨_, rfl⟩
     rw [← hgr] at HD
     have HQ := Hid.mkR (fun W => rtimes_any (s0 m) (s0 m) W (by omega) (by omega) (by omega) (by omega))
     have HU := Hid.mkR (fun n => us_bd bm.1 bm.2 n)
     have HLs := Hid.mkR (fun n => ls_bd bm.1 bm.2 n)
     have hu0 : us m 0 = s0 m := rfl
     have HUs : Hid (∀ n, us m (n + 1) = tim (us m n) (tim (s0 m) (s0 m))) := Hid.mkR (fun n => rfl)
     obtain ⟨q, hq⟩ : ∃ q, q = tim (s0 m) (s0 m) := ⟨_, rfl⟩
     obtain ⟨s, hs⟩ : ∃ s, s = s0 m := ⟨_, rfl⟩
     rw [← hq] at bq HQ HUs
     rw [← hs] at bs HD HQ hu0
     have HU0 := Hid.mkR hu0
     clear hq hs hu0 hgr
     go_wp2_with fail
     refine (HD.out _).mono ?_
     rintro e1 w1 ⟨rfl, rfl⟩
     go_wp2_with fail
     refine (HQ.out _).mono ?_
     rintro e2 w2 ⟨rfl, k2⟩
     clear HD HQ
     go_wp2
     go_loopw [7, 11] (fun u n wt => ∃ j : Nat, j ≤ 20 ∧ n = .int .i64 (j : Int) ∧ u = .int .i64 (us m j) ∧ NumAt wt w2.heap.size (ls m j) ∧ Below w1.heap.size w1 wt) (fun _ n _ => 20 - (intOf n).toNat)
     case atStart => exact ⟨0, by omega, rfl, by rw [HU0.out], ⟨none, 0, 0, row2_new w2 _ _, num_zero _⟩, below_al k2 _⟩
     case round =>
      obtain ⟨j, hj, rfl, rfl, nS, hB⟩ := hrel
      obtain ⟨a, L, c, x0, x1, f0, f1, is, rs⟩ := nS.row
      have hs6 : w1.heap.size ≤ w2.heap.size := k2.size
      have bu := HU.out j
      have bl' := HLs.out j
      by_cases hjk : j < 20
      ·have bt := tdiv_bd (2 * j + 1) bu.1 bu.2
       have HS := ls_step m j
       have HN := HUs.out j
       have TI := Hid.mkR (fun W => rtimes_any (us m j) q W (by omega) (by omega) (by omega) (by omega))
       rw [← HN] at TI
       obtain ⟨u, hu⟩ : ∃ u, u = us m j := ⟨_, rfl⟩
       obtain ⟨u', hu'⟩ : ∃ u, u = us m (j + 1) := ⟨_, rfl⟩
       obtain ⟨S, hS⟩ : ∃ a, a = ls m j := ⟨_, rfl⟩
       rw [← hu] at bu bt HS TI
       rw [← hu'] at TI
       rw [← hS] at bl' HS is x0 rs
       rw [← hu]
       have e1 : (2 * (j : Int) + 1) = ((2 * j + 1 : Nat) : Int) := by omega
       rw [← e1] at bt HS
       obtain ⟨t, ht⟩ : ∃ t, u.tdiv (2 * (j : Int) + 1) = t := ⟨_, rfl⟩
       rw [ht] at bt HS
       have OFt := Hid.mkR (fun W => of_any t W (by omega) (by omega))
       have AD := Hid.mkR (fun va vb W => add_any va vb S t W (by have := len18 (n := S) (by omega) (by omega); omega) (by have := len18 (n := t) (by omega) (by omega); omega))
       rw [← HS] at AD
       have HU' := Hid.mkR hu'
       obtain ⟨k, hk⟩ : ∃ k, 2 * (j : Int) + 1 = k := ⟨_, rfl⟩
       have hk1 : 1 ≤ k := by omega
       have hk2 : k ≤ 100 := by omega
       have hk3 : (k == 0) = false := by simp; omega
       have hk4 : ¬ k = 0 := by omega
       rw [hk] at ht
       have hw1 : IntKind.i64.wrap (2 * (j : Int)) = 2 * (j : Int) := by rw [IntKind.wrap_i64]; omega
       have hw2 : IntKind.i64.wrap k = k := by rw [IntKind.wrap_i64]; omega
       have hw3 : IntKind.i64.wrap t = t := by rw [IntKind.wrap_i64]; omega
       clear e1 HN hu hu' hS HS nS
       go_wp2
       go_region_with (first
        | (go_at_call 35; refine (OFt.out _).mono ?_; rintro e w8 ⟨v8, rfl, i8, k8⟩; have y0 := keep_cell k8 x0; have y1 := keep_cell k8 x1)
        | (go_at_call 34; refine (AD.out _ _ _ (is.below (below_tr (Below.refl _ _).drew k8)) i8).mono ?_; rintro e w9 ⟨v9, rfl, i9, k9⟩; obtain ⟨a9, L9, c9, e9⟩ := i9.form; subst e9; have r9 := (rs.drew.keep k8).keep k9; have g0 := r9.c0; have g1 := r9.c1; have g2 := r9.free 0; have g3 := r9.free 1))
       all_goals go_wp2_with fail
       all_goals refine (TI.out _).mono ?_
       all_goals rintro e w10 ⟨rfl, k10⟩
       all_goals go_wp2
       all_goals go_roundw
       case rel => exact ⟨j + 1, by omega, by go_num, by rw [HU'.out], (NumAt.set i9 r9).keep k10, below_tr (below_set2 (below_tr (below_tr hB.drew k8) k9) hs6 _ _) k10⟩
       case measure => simp [intOf]; omega
       case rel => exact ⟨j + 1, by omega, by go_num, by rw [HU'.out], (NumAt.set i9 r9).keep k10, below_tr (below_set2 (below_tr (below_tr hB.drew k8) k9) hs6 _ _) k10⟩
       case measure => simp [intOf]; omega
      ·obtain rfl : j = 20 := by omega
       have bi := lg_in bm.1 bm.2 be.1 be.2
       have hV2 := HV.out
       unfold lg at hV2
       obtain ⟨S, hS⟩ : ∃ a, a = ls m 20 := ⟨_, rfl⟩
       rw [← hS] at bl' is x0 rs hV2 bi
       have hS2 : 2 * S = S + S := by omega
       rw [hS2] at hV2 bi
       obtain ⟨A, hA⟩ : ∃ A, A = S + S + e * 780414346020670 := ⟨_, rfl⟩
       have AD1 := Hid.mkR (fun va vb W => add_any va vb S S W (by have := len18 (n := S) (by omega) (by omega); omega) (by have := len18 (n := S) (by omega) (by omega); omega))
       have OFe := Hid.mkR (fun W => of_any e W (by omega) (by omega))
       have OFL := Hid.mkR (fun W => of_any 780414346020670 W (by omega) (by omega))
       have MU := Hid.mkR (fun va vb W => mul_any va vb e 780414346020670 W (by have := len18 (n := e) (by omega) (by omega); omega) (by have := len18 (n := 780414346020670) (by omega) (by omega); omega))
       have AD2 := Hid.mkR (fun va vb W => add_any va vb (S + S) (e * 780414346020670) W (by have := len18 (n := S + S) (by omega) (by omega); omega) (by have := len18 (n := e * 780414346020670) (by omega) (by omega); omega))
       rw [← hA] at AD2 bi hV2
       have T30 := Hid.mkR (fun W => two_any 30 W (by omega))
       have RN := Hid.mkR (fun va vb W => round_any va vb A (2 ^ 30) W (by decide) (len18 (n := A) (by omega) (by omega)) (by have := len_two 30; omega))
       have hE2 : Tn.rne A ((2 ^ 30 : Nat) : Int) = V := hV2.symm
       rw [hE2] at RN
       have SM := Hid.mkR (fun v W => small_any v V W (by omega) (by omega))
       clear hE2 hV2 HV hA hS hS2 nS bi bl' bu HU HLs HUs HU0
       go_wp2_with fail
       refine (AD1.out _ _ _ is is).mono ?_
       rintro e3 w3 ⟨v3, rfl, i3, k3⟩
       go_wp2_with fail
       refine (OFe.out _).mono ?_
       rintro e4 w4 ⟨v4, rfl, i4, k4⟩
       go_wp2_with fail
       refine (OFL.out _).mono ?_
       rintro e5 w5 ⟨v5, rfl, i5, k5⟩
       go_wp2_with fail
       refine (MU.out _ _ _ (i4.below k5) i5).mono ?_
       rintro e6 w6 ⟨v6, rfl, i6, k6⟩
       go_wp2_with fail
       refine (AD2.out _ _ _ (((i3.below k4).below k5).below k6) i6).mono ?_
       rintro e7 w7 ⟨v7, rfl, i7, k7⟩
       obtain ⟨a7, L7, c7, rfl, n7⟩ := numAt_new i7
       have K7 := below_al (below_tr (below_tr (below_tr (below_tr (below_tr hB k3) k4) k5) k6) k7) (Obj.cells #[.bool (decide (A < 0)), .slice a7 L7 c7] 93)
       obtain ⟨a', L', c', y0, y1, _, _, iA, _⟩ := n7.row
       clear i3 i4 i5 i6 i7 n7 k3 k4 k5 k6 k7 AD1 AD2 OFe OFL MU x0 x1 f0 f1 is rs
       go_wp2
       generalize w7.alloc (Obj.cells #[.bool (decide (A < 0)), .slice a7 L7 c7] 93) = W at *
       generalize w7.heap.size = g at *
       go_region_with (first
        | (go_at_call 102; refine (T30.out _).mono ?_; rintro e w8 ⟨v8, rfl, i8, k8⟩; have z0 := keep_cell k8 y0; have z1 := keep_cell k8 y1; have iB := iA.below (below_tr (Below.refl _ _).drew k8))
        | (go_at_call 105; refine (RN.out _ _ _ iB i8).mono ?_; rintro e w9 ⟨v9, rfl, i9, k9⟩)
        | (go_at_call 83; refine (SM.out _ _ i9).mono ?_; rintro e w10 ⟨rfl, k10⟩))
       all_goals go_wp2
       all_goals go_ret
       all_goals exact ⟨rfl, below_tr (below_tr (below_tr K7.drew k8) k9) k10⟩
end Go.Proofs.YtdgcnaijndocnaaGreatDoor
