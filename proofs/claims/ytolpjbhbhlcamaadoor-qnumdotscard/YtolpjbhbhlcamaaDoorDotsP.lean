/-
  What is proved: whatever two slices of numbers and bits it is given, the law QnumDots of layer 3 returns true, ends without a panic, and leaves what was there as it was; its condition: the library's variable errors.errorType holds what the program's text lays there, which the card ties.
-/
import Derived.Test.YtolpjbhbhlcamaaDoorLgE
import Derived.Test.YtolpjbhbhlcamaaDoorQK
import Derived.Test.YtolpjbhbhlcamaaDoorFQnumDots
set_option linter.unusedSimpArgs false
set_option linter.unusedVariables false
namespace Go.Proofs.YtolpjbhbhlcamaaDoor
open Go.RowKit Dt
attribute [local go_sem ↓] Go.wp_at_zero Go.wp_at_succ

namespace Dt
theorem dk_one (a b : Nat → Int) : dk a b 1 = a 0 * b 0 := by show 0 + a 0 * b 0 = _; omega
theorem isrow {w : World} {a : Option Addr} {len cap : Nat} {z : List Int} (h : FQnumDots.IsRow .i64 w a len cap z) :
    ∃ x, len ≤ cap ∧ cap ≤ 9223372036854775807 ∧ (0 < len → a = some x) ∧ (∀ k, k < len → w.cell? (x.add k) = some (.int .i64 (z.getD k 0))) ∧ ∀ k, -9223372036854775808 ≤ z.getD k 0 ∧ z.getD k 0 ≤ 9223372036854775807 := by
  rcases h with ⟨rfl, rfl, rfl, rfl⟩ | ⟨x, rfl, h1, h2, h3, h4, h5⟩
  · exact ⟨⟨0, 0, none⟩, by omega, by omega, by omega, fun k hk => absurd hk (by omega), fun k => by simp⟩
  · refine ⟨x, h1, h2, fun _ => rfl, fun k hk => h4 k (by omega), fun k => ?_⟩
    by_cases hk : k < z.length
    · have e : z.getD k 0 = z[k] := by simp [List.getD, List.getElem?_eq_getElem hk]
      rw [e]
      exact bounds_i64 (h5 _ (List.getElem_mem hk))
    · have e : z.getD k 0 = 0 := by simp [List.getD, List.getElem?_eq_none (Nat.le_of_not_lt hk)]
      rw [e]; omega
end Dt

set_option maxHeartbeats 2000000 in
theorem dots_err (ao bo : Option Addr) (n m ca cb : Nat) (b : Int) (w : World) (hg : ErrTab w) (hn : n ≤ 9223372036854775807) (hm : m ≤ 9223372036854775807) (h : Qn.mb b = false ∨ n ≠ m ∨ 64 < n) :
    Calls Tryd.prog 3 #[.slice ao n ca, .slice bo m cb, .int .i64 b] w fun e w' => e = .returned (.bool true) ∧ Below w.heap.size w w' := by
  have hq := qdot_err ao bo n m ca cb b
  by_cases h1 : Qn.mb b = true
  · by_cases h2 : n = m
    · subst h2
      have h3 : 64 < n := by rcases h with h | h | h <;> simp_all
      have HH := Hid.mkq h
      clear h
      go_enter Tryd.func3, Tryd.ntmps3
      go_wp2_with fail
      refine (hq _ hn hm HH.out).mono ?_
      rintro e w1 ⟨rfl, k1⟩
      go_wp2_with fail
      refine (pointed_any b _).mono ?_
      rintro e w1 ⟨rfl, rfl⟩
      rw [h1]
      go_wp2_with fail
      refine (num_err 1 _ (hg.below k1)).mono ?_
      rintro e w2 ⟨rfl, k2⟩
      go_wp2_with fail
      refine (sure_any _).mono ?_
      rintro e w3 ⟨rfl, k3⟩
      go_wp2
      go_ret
      exact ⟨rfl, below_tr (below_tr k1 k2) k3⟩
    · have h4 : (((n : Nat) : Int) != ((m : Nat) : Int)) = true := by simp; omega
      have HH := Hid.mkq h
      clear h
      go_enter Tryd.func3, Tryd.ntmps3
      go_wp2_with fail
      refine (hq _ hn hm HH.out).mono ?_
      rintro e w1 ⟨rfl, k1⟩
      go_wp2_with fail
      refine (pointed_any b _).mono ?_
      rintro e w1 ⟨rfl, rfl⟩
      rw [h1]
      go_wp2_with fail
      refine (num_err 1 _ (hg.below k1)).mono ?_
      rintro e w2 ⟨rfl, k2⟩
      go_wp2_with fail
      refine (sure_any _).mono ?_
      rintro e w3 ⟨rfl, k3⟩
      go_wp2
      go_ret
      exact ⟨rfl, below_tr (below_tr k1 k2) k3⟩
  · have h1 : Qn.mb b = false := by simpa using h1
    have HH := Hid.mkq h
    clear h
    go_enter Tryd.func3, Tryd.ntmps3
    go_wp2_with fail
    refine (hq _ hn hm HH.out).mono ?_
    rintro e w1 ⟨rfl, k1⟩
    go_wp2_with fail
    refine (pointed_any b _).mono ?_
    rintro e w1 ⟨rfl, rfl⟩
    rw [h1]
    go_wp2_with fail
    refine (num_err 1 _ (hg.below k1)).mono ?_
    rintro e w2 ⟨rfl, k2⟩
    go_wp2_with fail
    refine (sure_any _).mono ?_
    rintro e w3 ⟨rfl, k3⟩
    go_wp2
    go_ret
    exact ⟨rfl, below_tr (below_tr k1 k2) k3⟩

set_option maxRecDepth 20000 in
set_option maxHeartbeats 2000000 in
theorem dots_in (ao bo : Option Addr) (xa xb : Addr) (n ca cb : Nat) (za zb : Nat → Int) (b : Nat) (w : World) (hn : n ≤ 64) (hna : n ≤ ca) (hnb : n ≤ cb) (hcam : ca ≤ 9223372036854775807) (hcbm : cb ≤ 9223372036854775807) (hao : 0 < n → ao = some xa) (hbo : 0 < n → bo = some xb)
    (hca : ∀ k, k < n → w.cell? (xa.add k) = some (.int .i64 (za k))) (hcb : ∀ k, k < n → w.cell? (xb.add k) = some (.int .i64 (zb k)))
    (ba : ∀ k, -9223372036854775808 ≤ za k ∧ za k ≤ 9223372036854775807) (bb : ∀ k, -9223372036854775808 ≤ zb k ∧ zb k ≤ 9223372036854775807) (hb : b ≤ 62) :
    Calls Tryd.prog 3 #[.slice ao n ca, .slice bo n cb, .int .i64 b] w fun e w' => e = .returned (.bool true) ∧ Below w.heap.size w w' := by
  have hm := Qn.mb_nat hb
  have D1 := Hid.mkq (qdot_any ao bo xa xb n ca cb za zb b w hn hao hbo hca hcb ba bb hb)
  have D2 := Hid.mkq (fun (w1 : World) (h : Below w.heap.size w w1) => ldot_any ao bo xa xb n ca cb za zb b w1 hn hao hbo (fun k hk => keep_cell h (hca k hk)) (fun k hk => keep_cell h (hcb k hk)) ba bb hb)
  have D3 := Hid.mkq (fun (w1 : World) (h0 : 0 < n) (h : Below w.heap.size w w1) => ldot_any (some xa) (some xb) xa xb 1 ca cb za zb b w1 (by omega) (fun _ => rfl) (fun _ => rfl) (fun k hk => keep_cell h (hca k (by omega))) (fun k hk => keep_cell h (hcb k (by omega))) ba bb hb)
  have D4 := Hid.mkq (fun (w1 : World) => qmul_any (za 0) (zb 0) b w1 (ba 0).1 (ba 0).2 (bb 0).1 (bb 0).2 hb)
  have HAO := Hid.mkq hao
  have HBO := Hid.mkq hbo
  have HCA := Hid.mkq hca
  have HCB := Hid.mkq hcb
  obtain ⟨X, hX⟩ : ∃ X, X = Qn.rne (dk za zb n) (2 ^ b) := ⟨_, rfl⟩
  rw [← hX] at D1 D2
  obtain ⟨Y, hY⟩ : ∃ Y, Y = Qn.rne (za 0 * zb 0) (2 ^ b) := ⟨_, rfl⟩
  rw [← hY] at D4
  simp only [dk_one] at D3
  rw [← hY] at D3
  obtain ⟨P, hP⟩ : ∃ P, P = za 0 := ⟨_, rfl⟩
  obtain ⟨Q, hQ⟩ : ∃ Q, Q = zb 0 := ⟨_, rfl⟩
  rw [← hP, ← hQ] at D4
  have HP := Hid.mkq hP
  have HQ := Hid.mkq hQ
  clear hao hbo hca hcb ba bb hX hY hP hQ
  by_cases h0 : 0 < n
  · obtain rfl := HAO.out h0
    obtain rfl := HBO.out h0
    have c0 := HCA.out 0 h0
    have c1 := HCB.out 0 h0
    rw [← HP.out] at c0
    rw [← HQ.out] at c1
    have i1 : (1 : Int) ≤ (ca : Int) := by omega
    have i2 : (1 : Int) ≤ (cb : Int) := by omega
    have e0 : xa.add 0 = xa := rfl
    have e1 : xb.add 0 = xb := rfl
    go_enter Tryd.func3, Tryd.ntmps3
    go_wp2_with fail
    refine D1.out.mono ?_
    rintro e w1 ⟨rfl, k1⟩
    go_wp2_with fail
    refine (pointed_any (b : Int) _).mono ?_
    rintro e w1 ⟨rfl, rfl⟩
    rw [hm]
    go_wp2_with fail
    refine (D2.out _ k1).mono ?_
    rintro e w2 ⟨rfl, k2⟩
    have k12 := below_tr k1 k2
    have c02 := keep_cell k12 c0
    have c12 := keep_cell k12 c1
    have c03 : w2.cell? xa = some (.int .i64 P) := c02
    have c13 : w2.cell? xb = some (.int .i64 Q) := c12
    clear c0 c1 c02 c12 e0 e1
    go_wp2
    go_region_held3 (fun w' => w'.cell? xa = some (.int .i64 P) ∧ w'.cell? xb = some (.int .i64 Q)) (first | exact ⟨c03, c13⟩ | exact ⟨keep_cell k3 c03, keep_cell k3 c13⟩ | go_keep)
      (first
        | (go_at_call 9; refine (D4.out _).mono ?_; rintro e w3 ⟨rfl, k3⟩; have k123 := below_tr k12.drew k3))
    all_goals go_wp2
    all_goals go_region_with
      (first
        | (go_at_call 8; refine (D3.out _ h0 k123.drew).mono ?_; rintro e w4 ⟨rfl, k4⟩; have k1234 := below_tr k123.drew k4))
    all_goals go_wp2_with fail
    all_goals refine (sure_any _).mono ?_
    all_goals rintro e w5 ⟨rfl, k5⟩
    all_goals go_wp2
    all_goals go_ret
    all_goals exact ⟨rfl, below_tr k1234 k5⟩
  · obtain rfl : n = 0 := by omega
    go_enter Tryd.func3, Tryd.ntmps3
    go_wp2_with fail
    refine D1.out.mono ?_
    rintro e w1 ⟨rfl, k1⟩
    go_wp2_with fail
    refine (pointed_any (b : Int) _).mono ?_
    rintro e w1 ⟨rfl, rfl⟩
    rw [hm]
    go_wp2_with fail
    refine (D2.out _ k1).mono ?_
    rintro e w2 ⟨rfl, k2⟩
    go_wp2_with fail
    refine (sure_any _).mono ?_
    rintro e w3 ⟨rfl, k3⟩
    go_wp2
    go_ret
    exact ⟨rfl, below_tr (below_tr k1 k2) k3⟩

theorem dots_walk : FQnumDots.Walk := by
  intro a0 len0 cap0 z0 a1 len1 cap1 z1 bits w h0 h1 wb hg
  obtain ⟨xa, la, ma, pa, qa, ra⟩ := Dt.isrow h0
  obtain ⟨xb, lb, mb', pb, qb, rb⟩ := Dt.isrow h1
  by_cases h : Qn.mb bits = false ∨ len0 ≠ len1 ∨ 64 < len0
  · exact dots_err a0 a1 len0 len1 cap0 cap1 bits w hg (by omega) (by omega) h
  · have hm : Qn.mb bits = true := by
      cases e : Qn.mb bits
      · exact absurd (Or.inl e) h
      · rfl
    have hl : len0 = len1 := by
      rcases Nat.lt_trichotomy len0 len1 with c | c | c
      · exact absurd (Or.inr (Or.inl (by omega))) h
      · exact c
      · exact absurd (Or.inr (Or.inl (by omega))) h
    have h64 : len0 ≤ 64 := by
      rcases Nat.lt_or_ge 64 len0 with c | c
      · exact absurd (Or.inr (Or.inr c)) h
      · exact c
    subst hl
    unfold Qn.mb at hm
    simp only [Bool.and_eq_true, decide_eq_true_eq] at hm
    obtain ⟨b, rfl⟩ := Int.eq_ofNat_of_zero_le hm.1
    exact dots_in a0 a1 xa xb len0 cap0 cap1 (fun k => z0.getD k 0) (fun k => z1.getD k 0) b w h64 la lb ma mb' pa pb qa qb ra rb (by omega)

/-- The law QnumDots, of any input. -/
theorem qnumdots_holds : Rows.QnumDotsCardSaid := FQnumDots.card dots_walk

end Go.Proofs.YtolpjbhbhlcamaaDoor
