/-
  The plain part of UpdateNearer: a state that is a place with a spread of its own alone, and a place as sure by x as by y.
-/
import Derived.Test.YtlomfjacgomhdaaM16
import Derived.Test.YtlomfjacgomhdaaM20
set_option linter.unusedSimpArgs false
set_option linter.unusedVariables false
set_option linter.unusedSectionVars false
namespace Go.Proofs.Ytlomfjacgomhdaa
open Vc Mt Dt Pr Qn Ud
namespace Un

theorem rne0 {d : Int} (hd : 0 ≤ d) : rne 0 d = 0 := by
  unfold rne; rw [Int.zero_emod, Int.zero_ediv]
  split <;> omega
theorem rne_lo {n d : Int} (hd : 0 < d) (h : 0 ≤ n) : 0 ≤ rne n d := by
  have := Int.ediv_nonneg h (Int.le_of_lt hd)
  unfold rne; split <;> omega
theorem rne_hi {n d A : Int} (hd : 0 < d) (h : n ≤ A * d) : rne n d ≤ A := by
  have e := Int.mul_ediv_add_emod n d
  have h1 := Int.emod_nonneg n (by omega : d ≠ 0)
  have h2 := Int.emod_lt_of_pos n hd
  rcases Int.lt_or_le (n / d) A with c | c
  · unfold rne; split <;> omega
  · have h3 : n / d * d ≤ A * d := by rw [Int.mul_comm]; omega
    have h4 : n / d ≤ A := Int.le_of_mul_le_mul_right h3 hd
    have h5 : n / d = A := by omega
    have h6 : n % d = 0 := by rw [h5, Int.mul_comm] at e; omega
    unfold rne
    rw [h6, if_pos (Or.inl (by omega))]; omega
theorem rne_near (n : Int) {d : Int} (hd : 0 < d) : 2 * (d * rne n d) ≤ 2 * n + d ∧ 2 * n - d ≤ 2 * (d * rne n d) := by
  have e := Int.mul_ediv_add_emod n d
  have h1 := Int.emod_nonneg n (by omega : d ≠ 0)
  have h2 := Int.emod_lt_of_pos n hd
  unfold rne
  split
  · constructor <;> omega
  · rw [Int.mul_add]; constructor <;> omega
theorem cl_id {n : Int} (h : InV n) : clamp n = n := by
  unfold clamp; have := h.1; have := h.2; split <;> (try split) <;> omega
theorem gr_id {n : Int} (h : InV n) : great n = false := by
  unfold great
  have := h.1; have := h.2
  rw [decide_eq_false (by omega), decide_eq_false (by omega)]; rfl
theorem in0 : InV 0 := ⟨by omega, by omega⟩
theorem less_no {n : Int} {a b : Nat → Int} {m : Nat} (h : dk a b m = 0) (hn : InV n) : Ld.lessV n a b m = n ∧ Ld.lessO n a b m = false := by
  unfold Ld.lessV Ld.lessO Ld.sumV Ld.sumO
  rw [h, rne0 (by decide), cl_id in0, Int.sub_zero, gr_id in0, gr_id hn]
  exact ⟨cl_id hn, rfl⟩
theorem div_no (b : Int) (p : Nat) : Ld.divV 0 b p = 0 ∧ Ld.divO 0 b p = false := by
  unfold Ld.divV Ld.divO signed
  rw [show (((0 : Int).natAbs : Int) * 2 ^ p) = 0 by simp, rne0 (by omega), cl_id in0, gr_id in0]
  exact ⟨by split <;> rfl, rfl⟩
theorem div_yes {a b : Int} (p : Nat) (ha : 0 ≤ a) (hb : 0 < b) (h : InV (rne (a * 2 ^ p) b)) : Ld.divV a b p = rne (a * 2 ^ p) b ∧ Ld.divO a b p = false := by
  unfold Ld.divV Ld.divO signed
  rw [Int.natAbs_of_nonneg ha, Int.natAbs_of_nonneg (Int.le_of_lt hb), cl_id h, gr_id h, decide_eq_false (by omega), decide_eq_false (by omega)]
  exact ⟨rfl, rfl⟩

section
variable {S : Int} (h1 : 1 ≤ S) (h2 : S ≤ 4611686018427387903)
include h1 h2
theorem inS : InV S := ⟨by omega, h2⟩
theorem d0 : Ld.stD (g2 S 0 S) 0 = S ∧ Ld.stO (g2 S 0 S) 0 = false := by
  have e := less_no (n := S) (a := Ld.rowV (g2 S 0 S 0) (Ld.st (g2 S 0 S) 0).1 (Ld.st (g2 S 0 S) 0).2 0) (b := Ld.wv (Ld.rowV (g2 S 0 S 0) (Ld.st (g2 S 0 S) 0).1 (Ld.st (g2 S 0 S) 0).2 0) (Ld.st (g2 S 0 S) 0).2) (m := 0) rfl (inS h1 h2)
  refine ⟨e.1, ?_⟩
  show (false || (false || Ld.lessO S _ _ 0)) = false
  rw [e.2]; rfl
theorem row1 : Ld.rowV (g2 S 0 S 1) (Ld.st (g2 S 0 S) 1).1 (Ld.st (g2 S 0 S) 1).2 1 0 = 0 ∧ Ld.rowO (g2 S 0 S 1) (Ld.st (g2 S 0 S) 1).1 (Ld.st (g2 S 0 S) 1).2 1 = false := by
  have e := less_no (n := 0) (a := Ld.rowV (g2 S 0 S 1) (Ld.st (g2 S 0 S) 1).1 (Ld.st (g2 S 0 S) 1).2 0) (b := Ld.wv ((Ld.st (g2 S 0 S) 1).1 0) (Ld.st (g2 S 0 S) 1).2) (m := 0) rfl in0
  constructor
  · show Ld.divV (Ld.lessV 0 _ _ 0) _ 30 = 0
    rw [e.1]; exact (div_no _ _).1
  · show (false || (false || Ld.lessO 0 _ _ 0 || Ld.divO (Ld.lessV 0 _ _ 0) _ 30)) = false
    rw [e.1, e.2, (div_no _ _).2]; rfl
theorem d1 : Ld.stD (g2 S 0 S) 1 = S ∧ Ld.stO (g2 S 0 S) 1 = false := by
  obtain ⟨r1, r2⟩ := row1 h1 h2
  have e := less_no (n := S) (a := Ld.rowV (g2 S 0 S 1) (Ld.st (g2 S 0 S) 1).1 (Ld.st (g2 S 0 S) 1).2 1) (b := Ld.wv (Ld.rowV (g2 S 0 S 1) (Ld.st (g2 S 0 S) 1).1 (Ld.st (g2 S 0 S) 1).2 1) (Ld.st (g2 S 0 S) 1).2) (m := 1) (by show 0 + Ld.rowV _ _ _ 1 0 * _ = 0; rw [r1, Int.zero_mul]; rfl) (inS h1 h2)
  refine ⟨e.1, ?_⟩
  show (Ld.rowO _ _ _ 1 || ((false || great (rne (Ld.rowV _ _ _ 1 0 * _) (2 ^ 30))) || Ld.lessO S _ _ 1)) = false
  rw [r2, r1, e.2, Int.zero_mul, rne0 (by decide), gr_id in0]; rfl
theorem fine2 : ∀ i, i < 2 → Ld.fine (g2 S 0 S) i := fun i hi => by
  match i, hi with
  | 0, _ => exact ⟨(d0 h1 h2).2, by rw [(d0 h1 h2).1]; omega⟩
  | 1, _ => exact ⟨(d1 h1 h2).2, by rw [(d1 h1 h2).1]; omega⟩
theorem fac2 : (Ld.st (g2 S 0 S) 2).1 1 0 = 0 ∧ (Ld.st (g2 S 0 S) 2).2 0 = S ∧ (Ld.st (g2 S 0 S) 2).2 1 = S := by
  refine ⟨?_, ?_, ?_⟩
  · rw [Ld.st_low _ (by omega) (by omega)]; exact (row1 h1 h2).1
  · rw [Ld.st_D _ (by omega)]; exact (d0 h1 h2).1
  · rw [Ld.st_D _ (by omega)]; exact (d1 h1 h2).1
end
theorem down2 (L : Nat → Nat → Int) (v : Nat → Int) : Ld.downV L v 2 0 = Ld.lessV (v 0) (L 0) (Ld.downV L v 0) 0 ∧ Ld.downV L v 2 1 = Ld.lessV (v 1) (L 1) (Ld.downV L v 1) 1 := by
  constructor
  · rw [show Ld.downV L v 2 0 = if 0 = 1 then Ld.lessV (v 1) (L 1) (Ld.downV L v 1) 1 else Ld.downV L v 1 0 from rfl, if_neg (by decide), show Ld.downV L v 1 0 = if 0 = 0 then Ld.lessV (v 0) (L 0) (Ld.downV L v 0) 0 else Ld.downV L v 0 0 from rfl, if_pos rfl]
  · rw [show Ld.downV L v 2 1 = if 1 = 1 then Ld.lessV (v 1) (L 1) (Ld.downV L v 1) 1 else Ld.downV L v 1 1 from rfl, if_pos rfl]
theorem down2o (L : Nat → Nat → Int) (v : Nat → Int) : Ld.downO L v 2 = (Ld.lessO (v 0) (L 0) (Ld.downV L v 0) 0 || Ld.lessO (v 1) (L 1) (Ld.downV L v 1) 1) := by
  show ((false || Ld.lessO (v 0) (L 0) (Ld.downV L v 0) 0) || Ld.lessO (v 1) (L 1) (Ld.downV L v 1) 1) = _
  rw [Bool.false_or]
theorem up2 (L : Nat → Nat → Int) (z : Nat → Int) : Ld.upV L z 2 2 0 = Ld.lessV (z 0) (fun j => L (1 + j) 0) (fun j => Ld.upV L z 2 1 (1 + j)) 1 ∧ Ld.upV L z 2 2 1 = Ld.lessV (z 1) (fun j => L (2 + j) 1) (fun j => Ld.upV L z 2 0 (2 + j)) 0 := by
  constructor
  · rw [show Ld.upV L z 2 2 0 = if 0 = 0 then Ld.lessV (z 0) (fun j => L (1 + j) 0) (fun j => Ld.upV L z 2 1 (1 + j)) 1 else Ld.upV L z 2 1 0 from rfl, if_pos rfl]
  · rw [show Ld.upV L z 2 2 1 = if 1 = 0 then Ld.lessV (z 0) (fun j => L (1 + j) 0) (fun j => Ld.upV L z 2 1 (1 + j)) 1 else Ld.upV L z 2 1 1 from rfl, if_neg (by decide), show Ld.upV L z 2 1 1 = if 1 = 1 then Ld.lessV (z 1) (fun j => L (2 + j) 1) (fun j => Ld.upV L z 2 0 (2 + j)) 0 else Ld.upV L z 2 0 1 from rfl, if_pos rfl]
theorem up2o (L : Nat → Nat → Int) (z : Nat → Int) : Ld.upO L z 2 2 = (Ld.lessO (z 1) (fun j => L (2 + j) 1) (fun j => Ld.upV L z 2 0 (2 + j)) 0 || Ld.lessO (z 0) (fun j => L (1 + j) 0) (fun j => Ld.upV L z 2 1 (1 + j)) 1) := by
  show ((false || Ld.lessO (z 1) (fun j => L (2 + j) 1) (fun j => Ld.upV L z 2 0 (2 + j)) 0) || Ld.lessO (z 0) (fun j => L (1 + j) 0) (fun j => Ld.upV L z 2 1 (1 + j)) 1) = _
  rw [Bool.false_or]
theorem dk1 (a b : Nat → Int) (h : a 0 = 0) : dk a b 1 = 0 := by
  unfold dk dk; rw [h, Int.zero_mul]; rfl
theorem sol2 {L : Nat → Nat → Int} {d v : Nat → Int} {S : Int} (hL : L 1 0 = 0) (hd0 : d 0 = S) (hd1 : d 1 = S) (hv0 : InV (v 0)) (hv1 : InV (v 1)) :
    Ld.solV 2 L d v 0 = Ld.divV (v 0) S 20 ∧ Ld.solV 2 L d v 1 = Ld.divV (v 1) S 20 ∧ Ld.solO 2 L d v = (Ld.divO (v 0) S 20 || Ld.divO (v 1) S 20) := by
  have a0 := less_no (a := L 0) (b := Ld.downV L v 0) (m := 0) rfl hv0
  have a1 := less_no (dk1 (L 1) (Ld.downV L v 1) hL) hv1
  have y0 : Ld.downV L v 2 0 = v 0 := (down2 L v).1.trans a0.1
  have y1 : Ld.downV L v 2 1 = v 1 := (down2 L v).2.trans a1.1
  have z0 : Ld.byV (Ld.downV L v 2) d 0 = Ld.divV (v 0) S 20 := by unfold Ld.byV; rw [y0, hd0]
  have z1 : Ld.byV (Ld.downV L v 2) d 1 = Ld.divV (v 1) S 20 := by unfold Ld.byV; rw [y1, hd1]
  have o0 : Ld.byO (Ld.downV L v 2) d 0 = Ld.divO (v 0) S 20 := by unfold Ld.byO; rw [y0, hd0]
  have o1 : Ld.byO (Ld.downV L v 2) d 1 = Ld.divO (v 1) S 20 := by unfold Ld.byO; rw [y1, hd1]
  have i0 : InV (Ld.byV (Ld.downV L v 2) d 0) := Ld.divV_bd _ _ _
  have i1 : InV (Ld.byV (Ld.downV L v 2) d 1) := Ld.divV_bd _ _ _
  unfold Ld.solV Ld.solO
  generalize Ld.byV (Ld.downV L v 2) d = z at z0 z1 i0 i1
  generalize Ld.byO (Ld.downV L v 2) d = zo at o0 o1
  have u1 := less_no (a := fun j => L (2 + j) 1) (b := fun j => Ld.upV L z 2 0 (2 + j)) (m := 0) rfl i1
  have u0 := less_no (dk1 (fun j => L (1 + j) 0) (fun j => Ld.upV L z 2 1 (1 + j)) hL) i0
  refine ⟨(up2 L z).1.trans (u0.1.trans z0), (up2 L z).2.trans (u1.1.trans z1), ?_⟩
  have ea : anyb zo 2 = (zo 0 || zo 1) := by
    show ((false || zo 0) || zo 1) = _
    rw [Bool.false_or]
  rw [down2o, up2o, ea, a0.2, a1.2, u0.2, u1.2, o0, o1]
  cases Ld.divO (v 0) S 20 <;> cases Ld.divO (v 1) S 20 <;> rfl

/-- A row with one number alone. -/
theorem dk_row (M β : Nat → Int) {i : Nat} (hi : i < 6) (b : Int) (hb : ∀ k, k < 6 → β k = if k = i then b else 0) : dk M β 6 = M i * b := by
  rw [Ld.dk_congr (a' := M) (b' := fun k => if k = i then b else 0) (fun _ _ => rfl) hb]
  match i, hi with
  | 0, _ => simp [dk]
  | 1, _ => simp [dk]
  | 2, _ => simp [dk]
  | 3, _ => simp [dk]
  | 4, _ => simp [dk]
  | 5, _ => simp [dk]

section
variable {p f q r x0 y0 u v x y : Int}
/-- What is taken on. -/
def kk (p r : Int) : Int := rne (p * 2 ^ 20) (p + r)
def bt (p r : Int) (i : Nat) : Int := if i = 0 ∨ i = 3 then 1048576 - kk p r else 1048576
def KK (p r : Int) (i j : Nat) : Int := if i = 0 ∧ j = 0 ∨ i = 3 ∧ j = 1 then kk p r else 0
abbrev DD (p f q : Int) : Nat → Int := Pd.six p f q p f q
abbrev PP (p f q : Int) : Nat → Nat → Int := Pd.bP (DD p f q)
theorem PP_at (p f q : Int) (i j : Nat) : PP p f q i j = if i = j then DD p f q i else 0 := rfl
variable (hp1 : 1048576 ≤ p) (hp2 : p ≤ 17179869184) (hr1 : 1048576 ≤ r) (hr2 : r ≤ 17179869184)
include hp1 hp2 hr1 hr2
theorem kk_in : 0 ≤ kk p r ∧ kk p r ≤ 1048576 := by
  unfold kk
  exact ⟨rne_lo (by omega) (by omega), rne_hi (by omega) (by omega)⟩
theorem oM_is : oM (PP p f q) r r 0 = g2 (p + r) 0 (p + r) := by
  have e1 : oa (PP p f q) r = p + r := cl_id (⟨by omega, by omega⟩ : InV (p + r))
  have e2 : ob (PP p f q) 0 = 0 := cl_id in0
  have e3 : oc (PP p f q) r = p + r := cl_id (⟨by omega, by omega⟩ : InV (p + r))
  unfold oM; rw [e1, e2, e3]
theorem fine_is : ∀ i, i < 2 → Ld.fine (oM (PP p f q) r r 0) i := by
  rw [oM_is hp1 hp2 hr1 hr2]; exact fine2 (by omega) (by omega)
theorem sol_is {v : Nat → Int} (hv0 : InV (v 0)) (hv1 : InV (v 1)) :
    Ld.solV 2 (fL (PP p f q) r r 0) (fD (PP p f q) r r 0) v 0 = Ld.divV (v 0) (p + r) 20 ∧ Ld.solV 2 (fL (PP p f q) r r 0) (fD (PP p f q) r r 0) v 1 = Ld.divV (v 1) (p + r) 20 ∧ Ld.solO 2 (fL (PP p f q) r r 0) (fD (PP p f q) r r 0) v = (Ld.divO (v 0) (p + r) 20 || Ld.divO (v 1) (p + r) 20) := by
  unfold fL fD
  rw [oM_is hp1 hp2 hr1 hr2]
  obtain ⟨a, b, c⟩ := fac2 (S := p + r) (by omega) (by omega)
  exact sol2 a b c hv0 hv1
theorem kr_is {i : Nat} (hi : i < 6) : kr (PP p f q) r r 0 i 0 = KK p r i 0 ∧ kr (PP p f q) r r 0 i 1 = KK p r i 1 ∧ ko (PP p f q) r r 0 i = false := by
  have hk := kk_in hp1 hp2 hr1 hr2
  have hy := div_yes (a := p) (b := p + r) 20 (by omega) (by omega) ⟨by have := hk.1; unfold kk at this; omega, by have := hk.2; unfold kk at this; omega⟩
  have iP : InV p := ⟨by omega, by omega⟩
  have h0 := div_no (p + r) 20
  unfold kr ko
  match i, hi with
  | 0, _ =>
    obtain ⟨a, b, c⟩ := sol_is (f := f) (q := q) hp1 hp2 hr1 hr2 (v := v2 p 0) iP in0
    exact ⟨a.trans hy.1, b.trans h0.1, c.trans (by rw [show v2 p 0 0 = p from rfl, show v2 p 0 1 = 0 from rfl, hy.2, h0.2]; rfl)⟩
  | 1, _ =>
    obtain ⟨a, b, c⟩ := sol_is (f := f) (q := q) hp1 hp2 hr1 hr2 (v := v2 0 0) in0 in0
    exact ⟨a.trans h0.1, b.trans h0.1, c.trans (by rw [show v2 0 0 0 = 0 from rfl, show v2 0 0 1 = 0 from rfl, h0.2]; rfl)⟩
  | 2, _ =>
    obtain ⟨a, b, c⟩ := sol_is (f := f) (q := q) hp1 hp2 hr1 hr2 (v := v2 0 0) in0 in0
    exact ⟨a.trans h0.1, b.trans h0.1, c.trans (by rw [show v2 0 0 0 = 0 from rfl, show v2 0 0 1 = 0 from rfl, h0.2]; rfl)⟩
  | 3, _ =>
    obtain ⟨a, b, c⟩ := sol_is (f := f) (q := q) hp1 hp2 hr1 hr2 (v := v2 0 p) in0 iP
    exact ⟨a.trans h0.1, b.trans hy.1, c.trans (by rw [show v2 0 p 0 = 0 from rfl, show v2 0 p 1 = p from rfl, hy.2, h0.2]; rfl)⟩
  | 4, _ =>
    obtain ⟨a, b, c⟩ := sol_is (f := f) (q := q) hp1 hp2 hr1 hr2 (v := v2 0 0) in0 in0
    exact ⟨a.trans h0.1, b.trans h0.1, c.trans (by rw [show v2 0 0 0 = 0 from rfl, show v2 0 0 1 = 0 from rfl, h0.2]; rfl)⟩
  | 5, _ =>
    obtain ⟨a, b, c⟩ := sol_is (f := f) (q := q) hp1 hp2 hr1 hr2 (v := v2 0 0) in0 in0
    exact ⟨a.trans h0.1, b.trans h0.1, c.trans (by rw [show v2 0 0 0 = 0 from rfl, show v2 0 0 1 = 0 from rfl, h0.2]; rfl)⟩
theorem KK_in (i j : Nat) : 0 ≤ KK p r i j ∧ KK p r i j ≤ 1048576 := by
  have hk := kk_in hp1 hp2 hr1 hr2
  unfold KK; split <;> omega
theorem b_in {i : Nat} (hi : i < 6) : InV (eyeF i 0 - KK p r i 0) ∧ InV (eyeF i 3 - KK p r i 1) := by
  have h0 := KK_in hp1 hp2 hr1 hr2 i 0
  have h1 := KK_in hp1 hp2 hr1 hr2 i 1
  have e0 : 0 ≤ eyeF i 0 ∧ eyeF i 0 ≤ 1048576 := by unfold eyeF; split <;> omega
  have e3 : 0 ≤ eyeF i 3 ∧ eyeF i 3 ≤ 1048576 := by unfold eyeF; split <;> omega
  exact ⟨⟨by omega, by omega⟩, ⟨by omega, by omega⟩⟩
theorem bo_is {i : Nat} (hi : i < 6) : bo0 (PP p f q) r r 0 i = false ∧ bo3 (PP p f q) r r 0 i = false := by
  obtain ⟨a, b, _⟩ := kr_is (f := f) (q := q) hp1 hp2 hr1 hr2 hi
  obtain ⟨c, d⟩ := b_in hp1 hp2 hr1 hr2 hi
  unfold bo0 bo3
  rw [a, b]
  exact ⟨gr_id c, gr_id d⟩
theorem br_is {i : Nat} (hi : i < 6) {j : Nat} (hj : j < 6) : br (PP p f q) r r 0 i j = if j = i then bt p r i else 0 := by
  obtain ⟨a, b, _⟩ := kr_is (f := f) (q := q) hp1 hp2 hr1 hr2 hi
  obtain ⟨c, d⟩ := b_in hp1 hp2 hr1 hr2 hi
  unfold br
  rw [a, b, cl_id c, cl_id d]
  unfold eyeF KK bt
  by_cases j0 : j = 0
  · subst j0
    by_cases i0 : i = 0
    · subst i0; simp
    · have i0' : ¬ 0 = i := fun e => i0 e.symm
      simp [i0, i0']
  · by_cases j3 : j = 3
    · subst j3
      by_cases i3 : i = 3
      · subst i3; simp
      · have i3' : ¬ 3 = i := fun e => i3 e.symm
        simp [i3, i3']
    · rw [if_neg j0, if_neg j3]
      by_cases e : i = j
      · subst e; simp [j0, j3]
      · have e' : ¬ j = i := fun q => e q.symm
        simp [e, e']
theorem bt_in (i : Nat) : 0 ≤ bt p r i ∧ bt p r i ≤ 1048576 := by
  have hk := kk_in hp1 hp2 hr1 hr2
  unfold bt; split <;> omega
end

/-- A number that is not above another one, by a part of it. -/
theorem part_in {a b : Int} (ha : 0 ≤ a) (hb : 0 ≤ b) (hb2 : b ≤ 1048576) : 0 ≤ rne (a * b) (2 ^ 20) ∧ rne (a * b) (2 ^ 20) ≤ a := by
  refine ⟨rne_lo (by decide) (Int.mul_nonneg ha hb), rne_hi (by decide) ?_⟩
  exact Int.mul_le_mul_of_nonneg_left hb2 ha

section
variable {p f q r x0 y0 u v x y : Int}
def uu (p f q r : Int) (i : Nat) : Int := rne (DD p f q i * bt p r i) (2 ^ 20)
def vv (p f q r : Int) (i : Nat) : Int := rne (uu p f q r i * bt p r i) (2 ^ 20)
def ee (p r : Int) : Int := rne (r * kk p r) (2 ^ 20)
def gg (p r : Int) : Int := rne (ee p r * kk p r) (2 ^ 20)
variable (hp1 : 1048576 ≤ p) (hp2 : p ≤ 17179869184) (hr1 : 1048576 ≤ r) (hr2 : r ≤ 17179869184) (hf1 : 1048576 ≤ f) (hf2 : f ≤ 17179869184) (hq1 : 1048576 ≤ q) (hq2 : q ≤ 17179869184)
include hp1 hp2 hr1 hr2
theorem ee_in : 0 ≤ ee p r ∧ ee p r ≤ r := by
  obtain ⟨a, b⟩ := kk_in hp1 hp2 hr1 hr2
  exact part_in (by omega) a b
theorem gg_in : 0 ≤ gg p r ∧ gg p r ≤ r := by
  obtain ⟨a, b⟩ := kk_in hp1 hp2 hr1 hr2
  obtain ⟨c, d⟩ := ee_in hp1 hp2 hr1 hr2
  have := part_in c a b
  unfold gg; omega
theorem kx_is {i j : Nat} (hi : i < 6) (hj : j < 2) : rne (dk (fun k => g2 r 0 r k j) (kr (PP p f q) r r 0 i) 2) (2 ^ 20) = (if i = 0 ∧ j = 0 ∨ i = 3 ∧ j = 1 then ee p r else 0) := by
  obtain ⟨a, b, _⟩ := kr_is (f := f) (q := q) hp1 hp2 hr1 hr2 hi
  have e : dk (fun k => g2 r 0 r k j) (kr (PP p f q) r r 0 i) 2 = r * KK p r i j := by
    show 0 + g2 r 0 r 0 j * kr (PP p f q) r r 0 i 0 + g2 r 0 r 1 j * kr (PP p f q) r r 0 i 1 = _
    rw [a, b]
    match j, hj with
    | 0, _ => simp [g2]
    | 1, _ => simp [g2]
  rw [e]
  unfold KK
  split
  · rfl
  · rw [Int.mul_zero, rne0 (by decide)]
theorem kx_in (i j : Nat) : InV (if i = 0 ∧ j = 0 ∨ i = 3 ∧ j = 1 then ee p r else 0) := by
  have := ee_in hp1 hp2 hr1 hr2
  split
  · exact ⟨by omega, by omega⟩
  · exact in0
theorem kv_is {i j : Nat} (hi : i < 6) (hj : j < 6) : rne (dk (fun k => kr (PP p f q) r r 0 j k) (arX 2 (kr (PP p f q) r r 0) (g2 r 0 r) i) 2) (2 ^ 20) = (if i = j ∧ (i = 0 ∨ i = 3) then gg p r else 0) := by
  obtain ⟨a, b, _⟩ := kr_is (f := f) (q := q) hp1 hp2 hr1 hr2 hj
  have e0 : arX 2 (kr (PP p f q) r r 0) (g2 r 0 r) i 0 = (if i = 0 ∧ 0 = 0 ∨ i = 3 ∧ 0 = 1 then ee p r else 0) := by
    unfold arX; rw [kx_is hp1 hp2 hr1 hr2 hi (by omega : 0 < 2)]; exact cl_id (kx_in hp1 hp2 hr1 hr2 i 0)
  have e1 : arX 2 (kr (PP p f q) r r 0) (g2 r 0 r) i 1 = (if i = 0 ∧ 1 = 0 ∨ i = 3 ∧ 1 = 1 then ee p r else 0) := by
    unfold arX; rw [kx_is hp1 hp2 hr1 hr2 hi (by omega : 1 < 2)]; exact cl_id (kx_in hp1 hp2 hr1 hr2 i 1)
  have e : dk (fun k => kr (PP p f q) r r 0 j k) (arX 2 (kr (PP p f q) r r 0) (g2 r 0 r) i) 2 = (if i = j ∧ (i = 0 ∨ i = 3) then ee p r * kk p r else 0) := by
    show 0 + kr (PP p f q) r r 0 j 0 * arX 2 (kr (PP p f q) r r 0) (g2 r 0 r) i 0 + kr (PP p f q) r r 0 j 1 * arX 2 (kr (PP p f q) r r 0) (g2 r 0 r) i 1 = _
    rw [a, b, e0, e1]
    unfold KK
    by_cases i0 : i = 0
    · subst i0
      by_cases j0 : j = 0
      · subst j0; simp [Int.mul_comm]
      · rw [if_neg (fun h : 0 = j ∧ (0 = 0 ∨ 0 = 3) => j0 h.1.symm)]; simp [j0]
    · by_cases i3 : i = 3
      · subst i3
        by_cases j3 : j = 3
        · subst j3; simp [Int.mul_comm]
        · rw [if_neg (fun h : 3 = j ∧ (3 = 0 ∨ 3 = 3) => j3 h.1.symm)]; simp [j3]
      · simp [i0, i3]
  rw [e]
  split
  · rfl
  · exact rne0 (by decide)
include hf1 hf2 hq1 hq2
theorem DD_in {i : Nat} (hi : i < 6) : 1048576 ≤ DD p f q i ∧ DD p f q i ≤ 17179869184 := by
  match i, hi with
  | 0, _ => exact ⟨hp1, hp2⟩
  | 1, _ => exact ⟨hf1, hf2⟩
  | 2, _ => exact ⟨hq1, hq2⟩
  | 3, _ => exact ⟨hp1, hp2⟩
  | 4, _ => exact ⟨hf1, hf2⟩
  | 5, _ => exact ⟨hq1, hq2⟩
theorem uu_in {i : Nat} (hi : i < 6) : 0 ≤ uu p f q r i ∧ uu p f q r i ≤ DD p f q i := by
  obtain ⟨a, b⟩ := DD_in hp1 hp2 hr1 hr2 hf1 hf2 hq1 hq2 hi
  obtain ⟨c, d⟩ := bt_in hp1 hp2 hr1 hr2 i
  exact part_in (by omega) c d
theorem vv_in {i : Nat} (hi : i < 6) : 0 ≤ vv p f q r i ∧ vv p f q r i ≤ DD p f q i := by
  obtain ⟨a, b⟩ := uu_in hp1 hp2 hr1 hr2 hf1 hf2 hq1 hq2 hi
  obtain ⟨c, d⟩ := bt_in hp1 hp2 hr1 hr2 i
  have := part_in a c d
  unfold vv; omega
theorem bx_is {i j : Nat} (hi : i < 6) (hj : j < 6) : rne (dk (fun k => PP p f q k j) (br (PP p f q) r r 0 i) 6) (2 ^ 20) = (if i = j then uu p f q r i else 0) := by
  rw [dk_row (fun k => PP p f q k j) (br (PP p f q) r r 0 i) hi (bt p r i) (fun k hk => br_is hp1 hp2 hr1 hr2 hi hk)]
  show rne ((if i = j then DD p f q i else 0) * bt p r i) (2 ^ 20) = _
  split
  · rfl
  · rw [Int.zero_mul]; exact rne0 (by decide)
theorem bx_in {i : Nat} (hi : i < 6) (j : Nat) : InV (if i = j then uu p f q r i else 0) := by
  have := uu_in hp1 hp2 hr1 hr2 hf1 hf2 hq1 hq2 hi
  have := DD_in hp1 hp2 hr1 hr2 hf1 hf2 hq1 hq2 hi
  split
  · exact ⟨by omega, by omega⟩
  · exact in0
theorem bv_is {i j : Nat} (hi : i < 6) (hj : j < 6) : rne (dk (fun k => br (PP p f q) r r 0 j k) (arX 6 (br (PP p f q) r r 0) (PP p f q) i) 6) (2 ^ 20) = (if i = j then vv p f q r i else 0) := by
  rw [show dk (fun k => br (PP p f q) r r 0 j k) (arX 6 (br (PP p f q) r r 0) (PP p f q) i) 6 = dk (arX 6 (br (PP p f q) r r 0) (PP p f q) i) (br (PP p f q) r r 0 j) 6 from dk_comm _ _ _,
    dk_row (arX 6 (br (PP p f q) r r 0) (PP p f q) i) (br (PP p f q) r r 0 j) hj (bt p r j) (fun k hk => br_is hp1 hp2 hr1 hr2 hj hk)]
  have e : arX 6 (br (PP p f q) r r 0) (PP p f q) i j = (if i = j then uu p f q r i else 0) := by
    unfold arX; rw [bx_is hp1 hp2 hr1 hr2 hf1 hf2 hq1 hq2 hi hj]; exact cl_id (bx_in hp1 hp2 hr1 hr2 hf1 hf2 hq1 hq2 hi j)
  rw [e]
  by_cases h : i = j
  · subst h; rw [if_pos rfl, if_pos rfl]; rfl
  · rw [if_neg h, if_neg h, Int.zero_mul]; exact rne0 (by decide)
theorem bv_in {i : Nat} (hi : i < 6) (j : Nat) : InV (if i = j then vv p f q r i else 0) := by
  have := vv_in hp1 hp2 hr1 hr2 hf1 hf2 hq1 hq2 hi
  have := DD_in hp1 hp2 hr1 hr2 hf1 hf2 hq1 hq2 hi
  split
  · exact ⟨by omega, by omega⟩
  · exact in0
theorem kv_in (i j : Nat) : InV (if i = j ∧ (i = 0 ∨ i = 3) then gg p r else 0) := by
  have := gg_in hp1 hp2 hr1 hr2
  split
  · exact ⟨by omega, by omega⟩
  · exact in0
def ww (p f q r : Int) (i j : Nat) : Int := if i = j then vv p f q r i + (if i = 0 ∨ i = 3 then gg p r else 0) else 0
omit hp1 hp2 hr1 hr2 hf1 hf2 hq1 hq2 in
theorem ww_even (i j : Nat) : ww p f q r j i = ww p f q r i j := by
  by_cases h : i = j
  · subst h; rfl
  · unfold ww; rw [if_neg h, if_neg (fun e => h e.symm)]
theorem ww_in {i : Nat} (hi : i < 6) (j : Nat) : 0 ≤ ww p f q r i j ∧ ww p f q r i j ≤ 34359738368 := by
  have := gg_in hp1 hp2 hr1 hr2
  have := vv_in hp1 hp2 hr1 hr2 hf1 hf2 hq1 hq2 hi
  have := DD_in hp1 hp2 hr1 hr2 hf1 hf2 hq1 hq2 hi
  unfold ww
  split
  · split <;> omega
  · omega
theorem ws_is {i j : Nat} (hi : i < 6) (hj : j < 6) : arV 6 (br (PP p f q) r r 0) (PP p f q) i j + arV 2 (kr (PP p f q) r r 0) (g2 r 0 r) i j = ww p f q r i j := by
  have e0 : arV 6 (br (PP p f q) r r 0) (PP p f q) i j = (if i = j then vv p f q r i else 0) := by
    unfold arV; rw [bv_is hp1 hp2 hr1 hr2 hf1 hf2 hq1 hq2 hi hj]; exact cl_id (bv_in hp1 hp2 hr1 hr2 hf1 hf2 hq1 hq2 hi j)
  have e1 : arV 2 (kr (PP p f q) r r 0) (g2 r 0 r) i j = (if i = j ∧ (i = 0 ∨ i = 3) then gg p r else 0) := by
    unfold arV; rw [kv_is hp1 hp2 hr1 hr2 hi hj]; exact cl_id (kv_in hp1 hp2 hr1 hr2 hf1 hf2 hq1 hq2 i j)
  rw [e0, e1]
  unfold ww
  by_cases h : i = j
  · rw [if_pos h, if_pos h]
    by_cases h2 : i = 0 ∨ i = 3
    · rw [if_pos ⟨h, h2⟩, if_pos h2]
    · rw [if_neg (fun e => h2 e.2), if_neg h2]
  · rw [if_neg h, if_neg h, if_neg (fun e => h e.1)]; rfl
theorem wN_is {i j : Nat} (hi : i < 6) (hj : j < 6) : wN (PP p f q) r r 0 i j = ww p f q r i j := by
  have := ww_in hp1 hp2 hr1 hr2 hf1 hf2 hq1 hq2 hi j
  unfold wN; rw [ws_is hp1 hp2 hr1 hr2 hf1 hf2 hq1 hq2 hi hj]
  exact cl_id ⟨by omega, by omega⟩
theorem ze_is {i j : Nat} (hi : i < 6) (hj : j < 6) : rne (wN (PP p f q) r r 0 i j + wN (PP p f q) r r 0 j i) (2 ^ 1) = ww p f q r i j := by
  rw [wN_is hp1 hp2 hr1 hr2 hf1 hf2 hq1 hq2 hi hj, wN_is hp1 hp2 hr1 hr2 hf1 hf2 hq1 hq2 hj hi, ww_even i j, show ww p f q r i j + ww p f q r i j = ww p f q r i j * 2 by omega, show (2 : Int) ^ 1 = 2 from rfl]
  exact rne_mul _ 2 (by decide)
theorem zN_is {i j : Nat} (hi : i < 6) (hj : j < 6) : zN (PP p f q) r r 0 i j = ww p f q r i j := by
  have := ww_in hp1 hp2 hr1 hr2 hf1 hf2 hq1 hq2 hi j
  have e : zE (PP p f q) r r 0 i j = ww p f q r i j := by
    unfold zE; rw [ze_is hp1 hp2 hr1 hr2 hf1 hf2 hq1 hq2 hi hj]
    exact cl_id ⟨by omega, by omega⟩
  unfold zN; rw [e, if_neg (fun h => by have := h.2; omega)]
end

theorem any2_no {G : Nat → Nat → Bool} {n m : Nat} (h : ∀ i j, i < n → j < m → G i j = false) : any2 G n m = false := anyb_false.2 fun i hi => anyb_false.2 fun j hj => h i j hi hj

section
variable {p f q r x0 y0 u v x y : Int}
abbrev XX (x0 y0 u v : Int) : Nat → Int := Pd.six x0 u 0 y0 v 0
variable (hp1 : 1048576 ≤ p) (hp2 : p ≤ 17179869184) (hr1 : 1048576 ≤ r) (hr2 : r ≤ 17179869184) (hf1 : 1048576 ≤ f) (hf2 : f ≤ 17179869184) (hq1 : 1048576 ≤ q) (hq2 : q ≤ 17179869184)
  (hx0 : -68719476736 ≤ x0 ∧ x0 ≤ 68719476736) (hy0 : -68719476736 ≤ y0 ∧ y0 ≤ 68719476736) (hx : -68719476736 ≤ x ∧ x ≤ 68719476736) (hy : -68719476736 ≤ y ∧ y ≤ 68719476736) (hu : -68719476736 ≤ u ∧ u ≤ 68719476736) (hv : -68719476736 ≤ v ∧ v ≤ 68719476736)
/-- A part of a number lies between 0 and it. -/
theorem part_mid {k a : Int} (h0 : 0 ≤ k) (h1 : k ≤ 1048576) : min 0 a ≤ rne (k * a) (2 ^ 20) ∧ rne (k * a) (2 ^ 20) ≤ max 0 a := by
  rcases Int.le_total 0 a with c | c
  · have e := part_in c h0 h1
    rw [Int.mul_comm] at e
    omega
  · have e := part_in (a := -a) (by omega) h0 h1
    rw [Int.neg_mul, rne_neg _ _ (by decide), Int.mul_comm] at e
    omega
include hp1 hp2 hr1 hr2 hx0 hy0 hx hy
theorem gap_is : ox (XX x0 y0 u v) x = x - x0 ∧ oy (XX x0 y0 u v) y = y - y0 ∧ og (XX x0 y0 u v) (PP p f q) x y r r 0 = false := by
  have i1 : InV (x - x0) := ⟨by omega, by omega⟩
  have i2 : InV (y - y0) := ⟨by omega, by omega⟩
  have i3 : InV (p + r) := ⟨by omega, by omega⟩
  refine ⟨cl_id i1, cl_id i2, ?_⟩
  show (great (p + r) || great (0 + 0) || great (p + r) || great (x - x0) || great (y - y0)) = false
  rw [gr_id i1, gr_id i2, gr_id i3, show (0 : Int) + 0 = 0 from rfl, gr_id in0]; rfl
/-- How much is added. -/
def ad (p r : Int) (i : Nat) (a b : Int) : Int := if i = 0 then rne (kk p r * a) (2 ^ 20) else if i = 3 then rne (kk p r * b) (2 ^ 20) else 0
theorem ad_is {i : Nat} (hi : i < 6) : rne (dk (kr (PP p f q) r r 0 i) (v2 (ox (XX x0 y0 u v) x) (oy (XX x0 y0 u v) y)) 2) (2 ^ 20) = ad p r i (x - x0) (y - y0) := by
  obtain ⟨a, b, _⟩ := kr_is (f := f) (q := q) hp1 hp2 hr1 hr2 hi
  obtain ⟨g1, g2, _⟩ := gap_is (f := f) (q := q) (u := u) (v := v) hp1 hp2 hr1 hr2 hx0 hy0 hx hy
  have e : dk (kr (PP p f q) r r 0 i) (v2 (ox (XX x0 y0 u v) x) (oy (XX x0 y0 u v) y)) 2 = KK p r i 0 * (x - x0) + KK p r i 1 * (y - y0) := by
    unfold dk dk dk
    rw [a, b, g1, g2]
    unfold v2
    rw [if_pos rfl, if_neg (by decide), Int.zero_add]
  rw [e]
  have k0 : KK p r i 0 = if i = 0 then kk p r else 0 := by
    unfold KK
    by_cases c : i = 0
    · rw [if_pos (Or.inl ⟨c, rfl⟩), if_pos c]
    · rw [if_neg (by omega), if_neg c]
  have k1 : KK p r i 1 = if i = 3 then kk p r else 0 := by
    unfold KK
    by_cases c : i = 3
    · rw [if_pos (Or.inr ⟨c, rfl⟩), if_pos c]
    · rw [if_neg (by omega), if_neg c]
  rw [k0, k1]
  unfold ad
  by_cases i0 : i = 0
  · rw [if_pos i0, if_pos i0, if_neg (by omega), Int.zero_mul, Int.add_zero]
  · rw [if_neg i0, if_neg i0, Int.zero_mul, Int.zero_add]
    by_cases i3 : i = 3
    · rw [if_pos i3, if_pos i3]
    · rw [if_neg i3, if_neg i3, Int.zero_mul]; exact rne0 (by decide)
theorem ad_in (i : Nat) : -137438953472 ≤ ad p r i (x - x0) (y - y0) ∧ ad p r i (x - x0) (y - y0) ≤ 137438953472 := by
  obtain ⟨a, b⟩ := kk_in hp1 hp2 hr1 hr2
  have e1 := part_mid (a := x - x0) a b
  have e2 := part_mid (a := y - y0) a b
  unfold ad
  split
  · omega
  · split <;> omega
theorem dV_is {i : Nat} (hi : i < 6) : dV (XX x0 y0 u v) (PP p f q) x y r r 0 i = ad p r i (x - x0) (y - y0) := by
  have := ad_in hp1 hp2 hr1 hr2 hx0 hy0 hx hy i
  unfold dV; rw [ad_is hp1 hp2 hr1 hr2 hx0 hy0 hx hy hi]; exact cl_id ⟨by omega, by omega⟩
include hu hv
theorem XX_in {i : Nat} (hi : i < 6) : -68719476736 ≤ XX x0 y0 u v i ∧ XX x0 y0 u v i ≤ 68719476736 := by
  match i, hi with
  | 0, _ => exact hx0
  | 1, _ => exact hu
  | 2, _ => exact ⟨by show (-68719476736 : Int) ≤ 0; omega, by show (0 : Int) ≤ 68719476736; omega⟩
  | 3, _ => exact hy0
  | 4, _ => exact hv
  | 5, _ => exact ⟨by show (-68719476736 : Int) ≤ 0; omega, by show (0 : Int) ≤ 68719476736; omega⟩
theorem xN_in {i : Nat} (hi : i < 6) : InV (XX x0 y0 u v i + ad p r i (x - x0) (y - y0)) := by
  have := ad_in hp1 hp2 hr1 hr2 hx0 hy0 hx hy i
  have := XX_in hp1 hp2 hr1 hr2 hx0 hy0 hx hy hu hv hi
  exact ⟨by omega, by omega⟩
theorem xN_is {i : Nat} (hi : i < 6) : xN (XX x0 y0 u v) (PP p f q) x y r r 0 i = XX x0 y0 u v i + ad p r i (x - x0) (y - y0) := by
  unfold xN; rw [dV_is hp1 hp2 hr1 hr2 hx0 hy0 hx hy hi]; exact cl_id (xN_in hp1 hp2 hr1 hr2 hx0 hy0 hx hy hu hv hi)
theorem nA_no : ∀ {k : Nat}, k ≤ 6 → nA false (PP p f q) r r 0 k = false
  | 0, _ => rfl
  | k + 1, h => by
    show (nA false (PP p f q) r r 0 k || ko (PP p f q) r r 0 k || bo0 (PP p f q) r r 0 k || bo3 (PP p f q) r r 0 k) = false
    rw [nA_no (by omega), (kr_is hp1 hp2 hr1 hr2 (by omega : k < 6)).2.2, (bo_is hp1 hp2 hr1 hr2 (by omega : k < 6)).1, (bo_is hp1 hp2 hr1 hr2 (by omega : k < 6)).2]; rfl
theorem nB_no : ∀ {k : Nat}, k ≤ 6 → nB false (XX x0 y0 u v) (PP p f q) x y r r 0 k = false
  | 0, _ => rfl
  | k + 1, h => by
    show (nB false (XX x0 y0 u v) (PP p f q) x y r r 0 k || great (XX x0 y0 u v k + dV (XX x0 y0 u v) (PP p f q) x y r r 0 k)) = false
    rw [nB_no (by omega), dV_is hp1 hp2 hr1 hr2 hx0 hy0 hx hy (by omega : k < 6), gr_id (xN_in hp1 hp2 hr1 hr2 hx0 hy0 hx hy hu hv (by omega : k < 6))]; rfl
include hf1 hf2 hq1 hq2
theorem nO_is : nO (XX x0 y0 u v) (PP p f q) x y r r 0 = false := by
  have a1 := (gap_is (f := f) (q := q) (u := u) (v := v) hp1 hp2 hr1 hr2 hx0 hy0 hx hy).2.2
  have a2 := nA_no (p := p) (f := f) (q := q) (r := r) hp1 hp2 hr1 hr2 hx0 hy0 hx hy hu hv (Nat.le_refl 6)
  have a3 : dO (XX x0 y0 u v) (PP p f q) x y r r 0 = false := anyb_false.2 fun i hi => by
    have := ad_in hp1 hp2 hr1 hr2 hx0 hy0 hx hy i
    show great _ = false
    rw [ad_is hp1 hp2 hr1 hr2 hx0 hy0 hx hy hi]; exact gr_id ⟨by omega, by omega⟩
  have a4 := nB_no (p := p) (f := f) (q := q) (r := r) (x := x) (y := y) hp1 hp2 hr1 hr2 hx0 hy0 hx hy hu hv (Nat.le_refl 6)
  have a5 : arO1 6 6 (br (PP p f q) r r 0) (PP p f q) = false := any2_no fun i j hi hj => by
    show great _ = false
    rw [bx_is hp1 hp2 hr1 hr2 hf1 hf2 hq1 hq2 hi hj]; exact gr_id (bx_in hp1 hp2 hr1 hr2 hf1 hf2 hq1 hq2 hi j)
  have a6 : arO2 6 6 (br (PP p f q) r r 0) (PP p f q) = false := any2_no fun i j hi hj => by
    show great _ = false
    rw [bv_is hp1 hp2 hr1 hr2 hf1 hf2 hq1 hq2 hi hj]; exact gr_id (bv_in hp1 hp2 hr1 hr2 hf1 hf2 hq1 hq2 hi j)
  have a7 : arO1 6 2 (kr (PP p f q) r r 0) (g2 r 0 r) = false := any2_no fun i j hi hj => by
    show great _ = false
    rw [kx_is hp1 hp2 hr1 hr2 hi hj]; exact gr_id (kx_in hp1 hp2 hr1 hr2 i j)
  have a8 : arO2 6 2 (kr (PP p f q) r r 0) (g2 r 0 r) = false := any2_no fun i j hi hj => by
    show great _ = false
    rw [kv_is hp1 hp2 hr1 hr2 hi hj]; exact gr_id (kv_in hp1 hp2 hr1 hr2 hf1 hf2 hq1 hq2 i j)
  have a9 : wO (PP p f q) r r 0 = false := any2_no fun i j hi hj => by
    have := ww_in hp1 hp2 hr1 hr2 hf1 hf2 hq1 hq2 hi j
    show great _ = false
    rw [ws_is hp1 hp2 hr1 hr2 hf1 hf2 hq1 hq2 hi hj]; exact gr_id ⟨by omega, by omega⟩
  have a10 : zO (PP p f q) r r 0 = false := any2_no fun i j hi hj => by
    have := ww_in hp1 hp2 hr1 hr2 hf1 hf2 hq1 hq2 hi j
    show great _ = false
    rw [ze_is hp1 hp2 hr1 hr2 hf1 hf2 hq1 hq2 hi hj]; exact gr_id ⟨by omega, by omega⟩
  unfold nO
  rw [a1, a2, a3, a5, a6, a7, a8, a9, a10]
  show ((((nB false _ _ _ _ _ _ _ 6 || (false || false)) || (false || false)) || false) || false) = false
  rw [a4]; rfl
end

/-- How sure it is then: not less than either was. -/
theorem both {p r k : Int} (hp : 0 < p) (hr : 0 < r) (hs : p + r ≤ 34359738368) (hk0 : 0 ≤ k) (hk1 : k ≤ 1048576) (h1 : 2 * ((p + r) * k) ≤ 2 * (p * 1048576) + (p + r)) (h2 : 2 * (p * 1048576) - (p + r) ≤ 2 * ((p + r) * k))
    {a b c d m : Int} (hm : m = 1048576 - k) (ha : 2 * (1048576 * a) ≤ 2 * (p * m) + 1048576) (hb : 2 * (1048576 * b) ≤ 2 * (a * m) + 1048576) (hc : 2 * (1048576 * c) ≤ 2 * (r * k) + 1048576) (hd : 2 * (1048576 * d) ≤ 2 * (c * k) + 1048576) :
    b + d ≤ p + 3 ∧ b + d ≤ r + 3 := by
  -- m m p + k k r
  have hm0 : 0 ≤ m := by omega
  have hm1 : m ≤ 1048576 := by omega
  have e1 : 2 * (1048576 * a) * m ≤ (2 * (p * m) + 1048576) * m := Int.mul_le_mul_of_nonneg_right ha hm0
  have e2 : 2 * (1048576 * c) * k ≤ (2 * (r * k) + 1048576) * k := Int.mul_le_mul_of_nonneg_right hc hk0
  obtain ⟨T, hT⟩ : ∃ T, T = (p + r) * k - p * 1048576 := ⟨_, rfl⟩
  have hT1 : 2 * T ≤ p + r := by omega
  have hT2 : -(p + r) ≤ 2 * T := by omega
  have key : (p + r) * (p * m * m + r * k * k) = T * T + 1099511627776 * (p * r) := by
    subst hT hm
    have : (1099511627776 : Int) = 1048576 * 1048576 := by decide
    rw [this]
    generalize (1048576 : Int) = N
    simp only [Int.mul_sub, Int.sub_mul, Int.mul_add, Int.add_mul, Int.mul_assoc, Int.mul_comm, Int.mul_left_comm]
    omega
  have hTT : 4 * (T * T) ≤ (p + r) * (p + r) := by
    have h3 : (2 * T) * (2 * T) ≤ (p + r) * (p + r) := by
      rcases Int.le_total 0 T with c1 | c1
      · exact Int.mul_le_mul hT1 hT1 (by omega) (by omega)
      · have h4 : -(2 * T) * -(2 * T) ≤ (p + r) * (p + r) := Int.mul_le_mul (by omega) (by omega) (by omega) (by omega)
        rw [Int.neg_mul_neg] at h4; exact h4
    have e : (2 * T) * (2 * T) = 4 * (T * T) := by rw [Int.mul_assoc, Int.mul_left_comm T 2 T, ← Int.mul_assoc]; rfl
    omega
  obtain ⟨Z, hZ⟩ : ∃ Z, Z = p * m * m + r * k * k := ⟨_, rfl⟩
  rw [← hZ] at key
  have hpr : p * r ≤ (p + r) * p := by rw [Int.add_mul, Int.mul_comm r p]; have := Int.mul_nonneg (Int.le_of_lt hp) (Int.le_of_lt hp); omega
  have hpr2 : p * r ≤ (p + r) * r := by rw [Int.add_mul]; have := Int.mul_nonneg (Int.le_of_lt hr) (Int.le_of_lt hr); omega
  have z1 : 4 * Z ≤ (p + r) + 4398046511104 * p := by
    have : (p + r) * (4 * Z) ≤ (p + r) * ((p + r) + 4398046511104 * p) := by
      rw [Int.mul_add, Int.mul_left_comm (p + r) 4 Z, Int.mul_left_comm (p + r) 4398046511104 p]; omega
    exact Int.le_of_mul_le_mul_left this (by omega)
  have z2 : 4 * Z ≤ (p + r) + 4398046511104 * r := by
    have : (p + r) * (4 * Z) ≤ (p + r) * ((p + r) + 4398046511104 * r) := by
      rw [Int.mul_add, Int.mul_left_comm (p + r) 4 Z, Int.mul_left_comm (p + r) 4398046511104 r]; omega
    exact Int.le_of_mul_le_mul_left this (by omega)
  have f1 : 2 * (1048576 * a) * m = 2097152 * (a * m) := by rw [← Int.mul_assoc, Int.mul_assoc]; rfl
  have f2 : 2 * (1048576 * c) * k = 2097152 * (c * k) := by rw [← Int.mul_assoc, Int.mul_assoc]; rfl
  have f3 : (2 * (p * m) + 1048576) * m = 2 * (p * m * m) + 1048576 * m := by rw [Int.add_mul, Int.mul_assoc 2]
  have f4 : (2 * (r * k) + 1048576) * k = 2 * (r * k * k) + 1048576 * k := by rw [Int.add_mul, Int.mul_assoc 2]
  rw [f1, f3] at e1
  rw [f2, f4] at e2
  omega

section
variable {p f q r : Int} (hp1 : 1048576 ≤ p) (hp2 : p ≤ 17179869184) (hr1 : 1048576 ≤ r) (hr2 : r ≤ 17179869184)
include hp1 hp2 hr1 hr2
theorem ww_mid {i : Nat} (hi : i = 0 ∨ i = 3) : ww p f q r i i ≤ p + 3 ∧ ww p f q r i i ≤ r + 3 := by
  obtain ⟨k0, k1⟩ := kk_in hp1 hp2 hr1 hr2
  have hk := rne_near (p * 2 ^ 20) (d := p + r) (by omega)
  have e : ww p f q r i i = vv p f q r i + gg p r := by unfold ww; rw [if_pos rfl, if_pos hi]
  have eb : bt p r i = 1048576 - kk p r := if_pos hi
  have eD : DD p f q i = p := by rcases hi with rfl | rfl <;> rfl
  rw [e]
  have ha := (rne_near (p * (1048576 - kk p r)) (d := 2 ^ 20) (by decide)).1
  have hu : uu p f q r i = rne (p * (1048576 - kk p r)) (2 ^ 20) := by unfold uu; rw [eb, eD]
  have hb := (rne_near (uu p f q r i * (1048576 - kk p r)) (d := 2 ^ 20) (by decide)).1
  have hv : vv p f q r i = rne (uu p f q r i * (1048576 - kk p r)) (2 ^ 20) := by unfold vv; rw [eb]
  have hc := (rne_near (r * kk p r) (d := 2 ^ 20) (by decide)).1
  have hd := (rne_near (ee p r * kk p r) (d := 2 ^ 20) (by decide)).1
  rw [← hu] at ha
  rw [← hv] at hb
  exact both (p := p) (r := r) (k := kk p r) (a := uu p f q r i) (b := vv p f q r i) (c := ee p r) (d := gg p r) (by omega) (by omega) (by omega) k0 k1 hk.1 hk.2 rfl ha hb hc hd
theorem ww_one {i : Nat} (h : i = 1 ∨ i = 2) : ww p f q r i i = DD p f q i := by
  have hn : ¬ (i = 0 ∨ i = 3) := by omega
  have eb : bt p r i = 1048576 := if_neg hn
  unfold ww
  rw [if_pos rfl, if_neg hn, Int.add_zero]
  unfold vv uu
  rw [eb]
  have := rne_mul (DD p f q i) (2 ^ 20) (by decide)
  rw [show (1048576 : Int) = 2 ^ 20 from rfl, this, this]
end
end Un
end Go.Proofs.Ytlomfjacgomhdaa
