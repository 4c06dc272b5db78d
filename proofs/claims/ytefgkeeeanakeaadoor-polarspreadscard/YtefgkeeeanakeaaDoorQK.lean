/-
  Dot of the package qnum: the sum of products, rounded once, and bounded; or the error.
-/
import Derived.Test.YtefgkeeeanakeaaDoorQJ
import Derived.Test.YtefgkeeeanakeaaDoorPure
import Derived.Deep.RegionWith
set_option linter.unusedSimpArgs false
set_option linter.unusedVariables false
namespace Go.Proofs.YtefgkeeeanakeaaDoor
open Go.RowKit Qn Dt
attribute [local go_sem ↓] Go.wp_at_zero Go.wp_at_succ

theorem Hid.mkq {p : Prop} (h : p) : Hid p := h

set_option maxRecDepth 20000 in
set_option maxHeartbeats 2000000 in
theorem qdot_any (ao bo : Option Addr) (xa xb : Addr) (n ca cb : Nat) (za zb : Nat → Int) (b : Nat) (w : World) (hn : n ≤ 64) (hao : 0 < n → ao = some xa) (hbo : 0 < n → bo = some xb)
    (hca : ∀ k, k < n → w.cell? (xa.add k) = some (.int .i64 (za k))) (hcb : ∀ k, k < n → w.cell? (xb.add k) = some (.int .i64 (zb k)))
    (ba : ∀ k, -9223372036854775808 ≤ za k ∧ za k ≤ 9223372036854775807) (bb : ∀ k, -9223372036854775808 ≤ zb k ∧ zb k ≤ 9223372036854775807) (hb : b ≤ 62) :
    Calls Tryd.prog 41 #[.slice ao n ca, .slice bo n cb, .int .i64 b] w fun e w' => e = .returned (.tuple #[.int .i64 (clamp (rne (dk za zb n) (2 ^ b))), .bool (great (rne (dk za zb n) (2 ^ b))), .nilIface]) ∧ Below w.heap.size w w' := by
  have hm := mb_nat hb
  have HAO := Hid.mkq hao
  have HBO := Hid.mkq hbo
  have HCA := Hid.mkq hca
  have HCB := Hid.mkq hcb
  have HBA := Hid.mkq ba
  have HBB := Hid.mkq bb
  have hdk := dk_bd za zb ba bb n
  have HI : Hid (In3 (dk za zb n) ∧ In3 (rne (dk za zb n) (2 ^ b))) := by
    have hB : (0 : Int) < 2 ^ b := Int.pow_pos (by omega)
    have hdl : -5444517870735015415413993718908291383296 ≤ dk za zb n ∧ dk za zb n ≤ 5444517870735015415413993718908291383296 := by omega
    have h3 : (dk za zb n / 2 ^ b) ≤ 5444517870735015415413993718908291383296 ∧ -5444517870735015415413993718908291383296 ≤ dk za zb n / 2 ^ b := by
      constructor
      · refine Int.ediv_le_of_le_mul hB ?_
        have : (5444517870735015415413993718908291383296 : Int) * 1 ≤ 5444517870735015415413993718908291383296 * 2 ^ b := Int.mul_le_mul_of_nonneg_left (by omega) (by omega)
        omega
      · rw [Int.le_ediv_iff_mul_le hB]
        have : (5444517870735015415413993718908291383296 : Int) * 1 ≤ 5444517870735015415413993718908291383296 * 2 ^ b := Int.mul_le_mul_of_nonneg_left (by omega) (by omega)
        rw [Int.neg_mul]
        omega
    refine ⟨by unfold In3; omega, ?_⟩
    unfold In3 rne
    split <;> omega
  obtain ⟨X, hX⟩ : ∃ X, X = rne (dk za zb n) (2 ^ b) := ⟨_, rfl⟩
  rw [← hX]
  have HX := Hid.mkq hX
  clear hao hbo hca hcb ba bb hX hdk
  go_enter Tryd.func41, Tryd.ntmps41
  go_wp2_with fail
  refine (mayBe_any (b : Int) _).mono ?_
  rintro e w ⟨rfl, rfl⟩
  rw [hm]
  go_wp2
  go_loopw [31] (fun i wr => ∃ k : Nat, k ≤ n ∧ i = .int .i64 (k : Int) ∧ Row3 wr w.heap.size (lo (dk za zb k)) (mi (dk za zb k)) (hi (dk za zb k)) ∧ Below w.heap.size w wr) (fun i _ => n - (intOf i).toNat)
  case atStart => exact ⟨0, by omega, rfl, row3_new w _ _ _, below_al (Below.refl _ _) _⟩
  case round =>
    obtain ⟨k, hk, rfl, hr, hbel⟩ := hrel
    by_cases h : k < n
    · obtain rfl := HAO.out (by omega)
      obtain rfl := HBO.out (by omega)
      have ca' := keep_cell hbel (HCA.out k h)
      have cb' := keep_cell hbel (HCB.out k h)
      have pa := HBA.out k
      have pb := HBB.out k
      obtain ⟨P, hP⟩ : ∃ P, P = za k := ⟨_, rfl⟩
      obtain ⟨Q, hQ⟩ : ∃ Q, Q = zb k := ⟨_, rfl⟩
      obtain ⟨S, hS⟩ : ∃ S, S = dk za zb k := ⟨_, rfl⟩
      rw [← hP] at ca' pa
      rw [← hQ] at cb' pb
      rw [← hS] at hr
      have HS : Hid (dk za zb (k + 1) = S + P * Q) := by rw [hS, hP, hQ]; rfl
      clear hP hQ hS
      have z0 := hr.c0
      have z1 := hr.c1
      have z2 := hr.c2
      go_wp2
      go_region_with
        (first
          | (go_at_call 58; refine (qplus_any S P Q _ pa.1 pa.2 pb.1 pb.2).mono ?_; rintro e w2 ⟨rfl, hb2⟩; have hr2 := hr.drew.keep hb2; have y0 := hr2.c0; have y1 := hr2.c1; have y2 := hr2.c2; have f0 := hr2.free 0; have f1 := hr2.free 1; have f2 := hr2.free 2))
      all_goals go_wp2
      all_goals go_roundw
      all_goals first
        | (simp [intOf]; omega)
        | exact ⟨k + 1, by omega, by go_num, by rw [HS.out]; exact (((hr2.set0 _).set1 _).set2 _), (((below_tr hbel.drew hb2).setCell (Nat.le_refl _) _).setCell (Nat.le_refl _) _).setCell (Nat.le_refl _) _⟩
        | trace_state
    · obtain rfl : k = n := by omega
      go_wp2_with (first | (refine wpList_load3 rfl (.tmp 9) rfl _ _ _ _ rfl hr ?_) | fail)
      refine (lowered_any (dk za zb k) b _ hb HI.out.1).mono ?_
      rintro e w2 ⟨rfl, hb2⟩
      go_wp2_with fail
      refine (bounded_any _ _ HI.out.2).mono ?_
      rintro e w3 ⟨rfl, hb3⟩
      rw [← HX.out]
      go_wp2
      go_ret3
      exact ⟨rfl, below_tr (below_tr hbel hb2) hb3⟩

set_option maxHeartbeats 1000000 in
theorem qdot_err (ao bo : Option Addr) (n m ca cb : Nat) (b : Int) (w : World) (hn : n ≤ 9223372036854775807) (hmm : m ≤ 9223372036854775807) (h : mb b = false ∨ n ≠ m ∨ 64 < n) :
    Calls Tryd.prog 41 #[.slice ao n ca, .slice bo m cb, .int .i64 b] w fun e w' => e = .returned (.tuple #[.int .i64 0, .bool false, .iface 54 (.int .i64 1)]) ∧ Below w.heap.size w w' := by
  by_cases h1 : mb b = true
  · by_cases h2 : n = m
    · subst h2
      have h3 : 64 < n := by rcases h with h | h | h <;> simp_all
      go_enter Tryd.func41, Tryd.ntmps41
      go_wp2_with fail
      refine (mayBe_any b _).mono ?_
      rintro e w ⟨rfl, rfl⟩
      rw [h1]
      go_wp2
      go_ret3
      exact ⟨rfl, Below.refl _ _⟩
    · have h4 : (((n : Nat) : Int) != ((m : Nat) : Int)) = true := by simp; omega
      go_enter Tryd.func41, Tryd.ntmps41
      go_wp2_with fail
      refine (mayBe_any b _).mono ?_
      rintro e w ⟨rfl, rfl⟩
      rw [h1]
      go_wp2
      go_ret3
      exact ⟨rfl, Below.refl _ _⟩
  · have h1 : mb b = false := by simpa using h1
    go_enter Tryd.func41, Tryd.ntmps41
    go_wp2_with fail
    refine (mayBe_any b _).mono ?_
    rintro e w ⟨rfl, rfl⟩
    rw [h1]
    go_wp2
    go_ret3
    exact ⟨rfl, Below.refl _ _⟩

end Go.Proofs.YtefgkeeeanakeaaDoor
