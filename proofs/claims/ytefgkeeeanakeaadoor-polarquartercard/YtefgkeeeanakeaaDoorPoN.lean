/-
  Places by range and angle: how great along and across are, what spreads make together, and a quarter of a turn further.
-/
import Derived.Test.YtefgkeeeanakeaaDoorPoB
set_option linter.unusedSimpArgs false
set_option linter.unusedVariables false
namespace Go.Proofs.YtefgkeeeanakeaaDoor
namespace Po
open Qn Tg

theorem clamp_id {n : Int} (h0 : -4611686018427387903 ≤ n) (h1 : n ≤ 4611686018427387903) : clamp n = n := by
  unfold clamp; rw [if_neg (by omega), if_neg (by omega)]
theorem great_no {n : Int} (h0 : -4611686018427387903 ≤ n) (h1 : n ≤ 4611686018427387903) : great n = false := by
  unfold great; rw [decide_eq_false (by omega), decide_eq_false (by omega)]; rfl
theorem sq_le {x B : Int} (h0 : 0 ≤ x) (h1 : x ≤ B) : 0 ≤ x * x ∧ x * x ≤ B * B :=
  ⟨Int.mul_nonneg h0 h0, Int.mul_le_mul h1 h1 h0 (by omega)⟩
theorem bounds_u16 {n : Int} (h : (Lit.int .u16 n).wf = true) : 0 ≤ n ∧ n ≤ 65535 := by
  simpa [Lit.wf, IntKind.min, IntKind.max, IntKind.signed, IntKind.bits] using h
theorem p20 : (2 : Int) ^ 20 = 1048576 := by decide
theorem p30 : (2 : Int) ^ 30 = 1073741824 := by decide
theorem al_in {R T : Int} (h : MayS R T) : al R = rne (R * R) (2 ^ 20) ∧ great (rne (R * R) (2 ^ 20)) = false ∧ 0 ≤ al R ∧ al R ≤ 281474976710656 := by
  obtain ⟨h1, h2, h3, h4⟩ := h
  have hs := sq_le (x := R) (B := 17179869184) (by omega) h2
  have hn := rne_near (R * R) (d := 2 ^ 20) (by decide)
  have h0 := rne_nn (n := R * R) (d := 2 ^ 20) (by decide) hs.1
  unfold al
  rw [p20] at *
  generalize R * R = n at *
  generalize rne n 1048576 = r at *
  rw [clamp_id (by omega) (by omega)]
  exact ⟨rfl, great_no (by omega) (by omega), by omega, by omega⟩
theorem wi_in {R T F : Int} (h : MayS R T) (hF : MayF F) : wi F T = rne (F * T) (2 ^ 30) ∧ great (rne (F * T) (2 ^ 30)) = false ∧ 0 ≤ wi F T ∧ wi F T ≤ 274877906944 := by
  obtain ⟨h1, h2, h3, h4⟩ := h
  obtain ⟨f1, f2⟩ := hF
  have hs0 : 0 ≤ F * T := Int.mul_nonneg f1 (by omega)
  have hs1 : F * T ≤ 1099511627776 * 268435456 := Int.mul_le_mul f2 h4 (by omega) (by omega)
  have hn := rne_near (F * T) (d := 2 ^ 30) (by decide)
  have h0 := rne_nn (n := F * T) (d := 2 ^ 30) (by decide) hs0
  unfold wi
  rw [p30] at *
  generalize F * T = n at *
  generalize rne n 1073741824 = r at *
  rw [clamp_id (by omega) (by omega)]
  exact ⟨rfl, great_no (by omega) (by omega), by omega, by omega⟩
theorem ac_in {R T F : Int} (h : MayS R T) (hF : MayF F) : ac F T = rne (wi F T * wi F T) (2 ^ 20) ∧ great (rne (wi F T * wi F T) (2 ^ 20)) = false ∧ 0 ≤ ac F T ∧ ac F T ≤ 72057594037927936 := by
  have hw := wi_in h hF
  have hs := sq_le hw.2.2.1 hw.2.2.2
  have hn := rne_near (wi F T * wi F T) (d := 2 ^ 20) (by decide)
  have h0 := rne_nn (n := wi F T * wi F T) (d := 2 ^ 20) (by decide) hs.1
  unfold ac
  rw [p20] at *
  generalize wi F T * wi F T = n at *
  generalize rne n 1048576 = r at *
  rw [clamp_id (by omega) (by omega)]
  exact ⟨rfl, great_no (by omega) (by omega), by omega, by omega⟩
/-- A greater range is never spread less across. -/
theorem ac_up {R T F G : Int} (h : MayS R T) (hF : MayF F) (hG : MayF G) (hFG : F ≤ G) : ac F T ≤ ac G T := by
  have f1 := wi_in h hF
  have g1 := wi_in h hG
  have f2 := ac_in h hF
  have g2 := ac_in h hG
  have hT : 0 ≤ T := by have := h.2.2.1; omega
  have hw : wi F T ≤ wi G T := by
    rw [f1.1, g1.1]
    exact rne_up (by decide) (Int.mul_le_mul_of_nonneg_right hFG hT)
  rw [f2.1, g2.1]
  exact rne_up (by decide) (Int.mul_le_mul hw hw f1.2.2.1 g1.2.2.1)
theorem pr_in {a : Int} (h0 : -5215406418 ≤ a) (h1 : a ≤ 5215406418) : 0 ≤ pr a a ∧ 2 * (1073741824 * pr a a) ≤ 2 * (a * a) + 1073741824 ∧ 2 * (a * a) - 1073741824 ≤ 2 * (1073741824 * pr a a) := by
  have hs : a * a ≤ 5215406418 * 5215406418 := by
    rcases Int.le_total 0 a with h | h
    · exact (sq_le h h1).2
    · have := (sq_le (x := -a) (B := 5215406418) (by omega) (by omega)).2
      rwa [Int.neg_mul_neg] at this
  have hq := sq_nn a
  have hn := rne_near (a * a) (d := 2 ^ 30) (by decide)
  have h0 := rne_nn (n := a * a) (d := 2 ^ 30) (by decide) hq
  unfold pr
  rw [p30] at *
  generalize a * a = n at *
  generalize rne n 1073741824 = r at *
  rw [clamp_id (by omega) (by omega)]
  exact ⟨h0, hn.1, hn.2⟩
theorem ss_cc (t : Int) : 0 ≤ ssV t ∧ 0 ≤ ccV t ∧ 1073741808 ≤ ssV t + ccV t ∧ ssV t + ccV t ≤ 1073741840 := by
  have hs := sine_bd t
  have hc := cosine_bd t
  have h1 := pr_in hs.1 hs.2
  have h2 := pr_in hc.1 hc.2
  have h3 := circle t
  unfold ssV ccV
  generalize sine t * sine t = u at *
  generalize cosine t * cosine t = v at *
  generalize pr (sine t) (sine t) = p at *
  generalize pr (cosine t) (cosine t) = q at *
  refine ⟨h1.1, h2.1, ?_, ?_⟩ <;> omega
theorem su_in {a b c d : Int} (h : suO a b c d = false) : 2 * (1073741824 * su a b c d) ≤ 2 * (a * b + c * d) + 1073741824 ∧ 2 * (a * b + c * d) - 1073741824 ≤ 2 * (1073741824 * su a b c d) := by
  have hn := rne_near (a * b + c * d) (d := 2 ^ 30) (by decide)
  have e : su a b c d = rne (a * b + c * d) (2 ^ 30) := clamp_in h
  rw [e]
  rw [p30] at *
  exact hn
theorem su_nn {a b c d : Int} (h : suO a b c d = false) (ha : 0 ≤ a) (hb : 0 ≤ b) (hc : 0 ≤ c) (hd : 0 ≤ d) : 0 ≤ su a b c d := by
  have e : su a b c d = rne (a * b + c * d) (2 ^ 30) := clamp_in h
  rw [e]
  exact rne_nn (by decide) (Int.add_nonneg (Int.mul_nonneg ha hb) (Int.mul_nonneg hc hd))
/-- By x and by y a place is spread as much as along and across. -/
theorem spreads {t a b : Int} (ha : 0 ≤ a) (hb : 0 ≤ b) (h : ovV t a b = false) :
    0 ≤ xxV t a b ∧ 0 ≤ yyV t a b ∧ xxV t a b + yyV t a b - a - b ≤ a / 1000000 + b / 1000000 + 16 ∧ -(a / 1000000 + b / 1000000 + 16) ≤ xxV t a b + yyV t a b - a - b := by
  unfold ovV at h
  simp only [Bool.or_eq_false_iff] at h
  obtain ⟨⟨h1, h2⟩, _⟩ := h
  have hp := ss_cc t
  have x0 := su_nn h1 ha hp.1 hb hp.2.1
  have y0 := su_nn h2 ha hp.2.1 hb hp.1
  have x1 := su_in h1
  have y1 := su_in h2
  refine ⟨x0, y0, ?_⟩
  show su a (ssV t) b (ccV t) + su a (ccV t) b (ssV t) - a - b ≤ a / 1000000 + b / 1000000 + 16 ∧ -(a / 1000000 + b / 1000000 + 16) ≤ su a (ssV t) b (ccV t) + su a (ccV t) b (ssV t) - a - b
  have e : (a * ssV t + b * ccV t) + (a * ccV t + b * ssV t) = (a + b) * (ssV t + ccV t) := by
    rw [Int.add_mul, Int.mul_add, Int.mul_add]; omega
  have u : (a + b) * (ssV t + ccV t) ≤ (a + b) * 1073741840 := Int.mul_le_mul_of_nonneg_left hp.2.2.2 (by omega)
  have l : (a + b) * 1073741808 ≤ (a + b) * (ssV t + ccV t) := Int.mul_le_mul_of_nonneg_left hp.2.2.1 (by omega)
  generalize (a + b) * (ssV t + ccV t) = W at *
  generalize su a (ssV t) b (ccV t) = X at *
  generalize su a (ccV t) b (ssV t) = Y at *
  generalize a * ssV t + b * ccV t = M at *
  generalize a * ccV t + b * ssV t = N at *
  clear hp h1 h2
  constructor <;> omega

/-- A quarter of a turn further. -/
theorem quarter {A B : Int} (h0 : 0 ≤ A) (h1 : A ≤ 65535) (hB : B = (A + 16384) % 65536) : sine (65536 * B) = cosine (65536 * A) ∧ cosine (65536 * B) = -sine (65536 * A) := by
  have hm : 65536 * B % 1073741824 = 65536 * A % 1073741824 := by omega
  have hb : beg (65536 * B) = beg (65536 * A) := by unfold beg; rw [hm]
  have hs : sn (65536 * B) = sn (65536 * A) := by unfold sn; rw [hb]
  have hc : cs (65536 * B) = cs (65536 * A) := by unfold cs; rw [hb]
  unfold sine cosine
  rw [hs, hc]
  rcases Int.lt_or_le A 16384 with a1 | a1
  · rw [if_pos (show 65536 * A < 1073741824 by omega), if_pos (show 65536 * A < 1073741824 by omega), if_neg (show ¬ 65536 * B < 1073741824 by omega), if_pos (show 65536 * B < 2147483648 by omega), if_neg (show ¬ 65536 * B < 1073741824 by omega), if_pos (show 65536 * B < 2147483648 by omega)]
    exact ⟨rfl, rfl⟩
  rcases Int.lt_or_le A 32768 with a2 | a2
  · rw [if_neg (show ¬ 65536 * A < 1073741824 by omega), if_neg (show ¬ 65536 * A < 1073741824 by omega), if_pos (show 65536 * A < 2147483648 by omega), if_pos (show 65536 * A < 2147483648 by omega), if_neg (show ¬ 65536 * B < 1073741824 by omega), if_neg (show ¬ 65536 * B < 2147483648 by omega), if_pos (show 65536 * B < 3221225472 by omega), if_neg (show ¬ 65536 * B < 1073741824 by omega), if_neg (show ¬ 65536 * B < 2147483648 by omega), if_pos (show 65536 * B < 3221225472 by omega)]
    exact ⟨rfl, rfl⟩
  rcases Int.lt_or_le A 49152 with a3 | a3
  · rw [if_neg (show ¬ 65536 * A < 1073741824 by omega), if_neg (show ¬ 65536 * A < 1073741824 by omega), if_neg (show ¬ 65536 * A < 2147483648 by omega), if_neg (show ¬ 65536 * A < 2147483648 by omega), if_pos (show 65536 * A < 3221225472 by omega), if_pos (show 65536 * A < 3221225472 by omega), if_neg (show ¬ 65536 * B < 1073741824 by omega), if_neg (show ¬ 65536 * B < 2147483648 by omega), if_neg (show ¬ 65536 * B < 3221225472 by omega), if_neg (show ¬ 65536 * B < 1073741824 by omega), if_neg (show ¬ 65536 * B < 2147483648 by omega), if_neg (show ¬ 65536 * B < 3221225472 by omega)]
    exact ⟨rfl, (Int.neg_neg _).symm⟩
  · rw [if_neg (show ¬ 65536 * A < 1073741824 by omega), if_neg (show ¬ 65536 * A < 1073741824 by omega), if_neg (show ¬ 65536 * A < 2147483648 by omega), if_neg (show ¬ 65536 * A < 2147483648 by omega), if_neg (show ¬ 65536 * A < 3221225472 by omega), if_neg (show ¬ 65536 * A < 3221225472 by omega), if_pos (show 65536 * B < 1073741824 by omega), if_pos (show 65536 * B < 1073741824 by omega)]
    exact ⟨rfl, (Int.neg_neg _).symm⟩
theorem pr_neg (a b : Int) : pr a (-b) = -pr a b := by
  unfold pr; rw [Int.mul_neg, rne_neg _ _ (by decide), clamp_neg]
theorem pr_comm (a b : Int) : pr a b = pr b a := by unfold pr; rw [Int.mul_comm]
theorem pr_negs (a : Int) : pr (-a) (-a) = pr a a := by
  unfold pr; rw [Int.neg_mul_neg]
theorem su_neg (a b c : Int) : su a (-b) c (-b) = -su a b c b := by
  unfold su; rw [Int.mul_neg, Int.mul_neg, ← Int.neg_add, rne_neg _ _ (by decide), clamp_neg]
theorem turned {A B F a b : Int} (h0 : 0 ≤ A) (h1 : A ≤ 65535) (hB : B = (A + 16384) % 65536) :
    px (65536 * B) F = py (65536 * A) F ∧ py (65536 * B) F = -px (65536 * A) F ∧ xxV (65536 * B) a b = yyV (65536 * A) a b ∧ yyV (65536 * B) a b = xxV (65536 * A) a b ∧ xyV (65536 * B) a b = -xyV (65536 * A) a b := by
  have hq := quarter h0 h1 hB
  have e1 : ssV (65536 * B) = ccV (65536 * A) := by unfold ssV ccV; rw [hq.1]
  have e2 : ccV (65536 * B) = ssV (65536 * A) := by unfold ssV ccV; rw [hq.2, pr_negs]
  have e3 : scV (65536 * B) = -scV (65536 * A) := by
    unfold scV; rw [hq.1, hq.2, pr_neg, pr_comm]
  refine ⟨?_, ?_, ?_, ?_, ?_⟩
  · unfold px py; rw [hq.1]
  · unfold px py; rw [hq.2, Int.mul_neg, rne_neg _ _ (by decide), clamp_neg]
  · unfold xxV yyV; rw [e1, e2]
  · unfold xxV yyV; rw [e1, e2]
  · unfold xyV; rw [e3, su_neg]
theorem ov_turned {A B a b : Int} (h0 : 0 ≤ A) (h1 : A ≤ 65535) (hB : B = (A + 16384) % 65536) : ovV (65536 * B) a b = ovV (65536 * A) a b := by
  have hq := quarter h0 h1 hB
  have e1 : ssV (65536 * B) = ccV (65536 * A) := by unfold ssV ccV; rw [hq.1]
  have e2 : ccV (65536 * B) = ssV (65536 * A) := by unfold ssV ccV; rw [hq.2, pr_negs]
  have e3 : scV (65536 * B) = -scV (65536 * A) := by
    unfold scV; rw [hq.1, hq.2, pr_neg, pr_comm]
  have e4 : suO a (-scV (65536 * A)) (-b) (-scV (65536 * A)) = suO a (scV (65536 * A)) (-b) (scV (65536 * A)) := by
    unfold suO; rw [Int.mul_neg, Int.mul_neg, ← Int.neg_add, rne_neg _ _ (by decide), great_neg]
  unfold ovV
  rw [e1, e2, e3, e4, Bool.or_comm (suO a (ccV (65536 * A)) b (ssV (65536 * A)))]
end Po
end Go.Proofs.YtefgkeeeanakeaaDoor
