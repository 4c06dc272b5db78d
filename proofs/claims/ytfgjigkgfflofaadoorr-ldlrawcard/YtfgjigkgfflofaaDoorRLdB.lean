/-
  Factors (ldl): each step's number, and whether it was too great: definitions and plain laws.
-/
import Derived.Test.YtfgjigkgfflofaaDoorRQI
import Derived.Test.YtfgjigkgfflofaaDoorRVcA
import Derived.Test.YtfgjigkgfflofaaDoorRPure
set_option linter.unusedSimpArgs false
set_option linter.unusedVariables false
namespace Go.Proofs.YtfgjigkgfflofaaDoorR
namespace Ld
open Qn Dt Vc

/-- A quotient, rounded and bounded; whether it was too great. -/
def divV (a b : Int) (p : Nat) : Int := signed a b (clamp (rne ((a.natAbs : Int) * 2 ^ p) b.natAbs))
def divO (a b : Int) (p : Nat) : Bool := great (rne ((a.natAbs : Int) * 2 ^ p) b.natAbs)
/-- A sum of products, rounded once and bounded. -/
def sumV (a b : Nat → Int) (m : Nat) : Int := clamp (rne (dk a b m) (2 ^ 30))
def sumO (a b : Nat → Int) (m : Nat) : Bool := great (rne (dk a b m) (2 ^ 30))
/-- It is taken off. -/
def lessV (n : Int) (a b : Nat → Int) (m : Nat) : Int := clamp (n - sumV a b m)
def lessO (n : Int) (a b : Nat → Int) (m : Nat) : Bool := sumO a b m || great (n - sumV a b m)
/-- Numbers by weights. -/
def wv (l d : Nat → Int) : Nat → Int := fun k => clamp (rne (l k * d k) (2 ^ 30))
def wg (l d : Nat → Int) : Nat → Bool := fun k => great (rne (l k * d k) (2 ^ 30))

/-- A row of L, its first numbers; noughts behind. -/
def rowV (m : Nat → Int) (L : Nat → Nat → Int) (d : Nat → Int) : Nat → Nat → Int
  | 0 => fun _ => 0
  | j + 1 => fun k => if k = j then divV (lessV (m j) (rowV m L d j) (wv (L j) d) j) (d j) 30 else rowV m L d j k
def rowO (m : Nat → Int) (L : Nat → Nat → Int) (d : Nat → Int) : Nat → Bool
  | 0 => false
  | j + 1 => rowO m L d j || (anyb (wg (L j) d) j || lessO (m j) (rowV m L d j) (wv (L j) d) j || divO (lessV (m j) (rowV m L d j) (wv (L j) d) j) (d j) 30)
/-- The number of D behind a row. -/
def midV (m : Nat → Int) (x d : Nat → Int) (i : Nat) : Int := lessV (m i) x (wv x d) i
def midO (m : Nat → Int) (x d : Nat → Int) (i : Nat) : Bool := anyb (wg x d) i || lessO (m i) x (wv x d) i
/-- L and D, their first rows; noughts behind. -/
def st (F : Nat → Nat → Int) : Nat → (Nat → Nat → Int) × (Nat → Int)
  | 0 => (fun _ _ => 0, fun _ => 0)
  | i + 1 => (fun a b => if a = i then (if b = i then 1073741824 else rowV (F i) (st F i).1 (st F i).2 i b) else (st F i).1 a b,
      fun a => if a = i then midV (F i) (rowV (F i) (st F i).1 (st F i).2 i) (st F i).2 i else (st F i).2 a)
/-- Whether anything of row i was too great. -/
def stO (F : Nat → Nat → Int) (i : Nat) : Bool := rowO (F i) (st F i).1 (st F i).2 i || midO (F i) (rowV (F i) (st F i).1 (st F i).2 i) (st F i).2 i
/-- The number of D of row i. -/
def stD (F : Nat → Nat → Int) (i : Nat) : Int := midV (F i) (rowV (F i) (st F i).1 (st F i).2 i) (st F i).2 i
/-- Row i is fine. -/
def fine (F : Nat → Nat → Int) (i : Nat) : Prop := stO F i = false ∧ 0 < stD F i

theorem divV_bd (a b : Int) (p : Nat) : -4611686018427387903 ≤ divV a b p ∧ divV a b p ≤ 4611686018427387903 := by
  have h := clamp_bd (rne ((a.natAbs : Int) * 2 ^ p) b.natAbs)
  unfold divV signed
  split <;> omega
theorem lessV_bd (n : Int) (a b : Nat → Int) (m : Nat) : -4611686018427387903 ≤ lessV n a b m ∧ lessV n a b m ≤ 4611686018427387903 := clamp_bd _
theorem sumV_bd (a b : Nat → Int) (m : Nat) : -4611686018427387903 ≤ sumV a b m ∧ sumV a b m ≤ 4611686018427387903 := clamp_bd _
theorem wv_bd (l d : Nat → Int) (k : Nat) : -4611686018427387903 ≤ wv l d k ∧ wv l d k ≤ 4611686018427387903 := clamp_bd _
theorem rowV_bd (m : Nat → Int) (L : Nat → Nat → Int) (d : Nat → Int) : ∀ j k, -4611686018427387903 ≤ rowV m L d j k ∧ rowV m L d j k ≤ 4611686018427387903
  | 0, k => by show (-4611686018427387903 : Int) ≤ 0 ∧ (0 : Int) ≤ _; omega
  | j + 1, k => by
    show -4611686018427387903 ≤ (if k = j then _ else _) ∧ (if k = j then _ else _) ≤ _
    split
    · exact divV_bd _ _ _
    · exact rowV_bd m L d j k
theorem rowV_behind (m : Nat → Int) (L : Nat → Nat → Int) (d : Nat → Int) : ∀ {j k : Nat}, j ≤ k → rowV m L d j k = 0
  | 0, k, _ => rfl
  | j + 1, k, h => by
    show (if k = j then _ else _) = _
    rw [if_neg (by omega)]
    exact rowV_behind m L d (by omega)
theorem rowV_keep (m : Nat → Int) (L : Nat → Nat → Int) (d : Nat → Int) : ∀ {i j k : Nat}, k < j → j ≤ i → rowV m L d i k = rowV m L d j k
  | 0, j, k, h1, h2 => by omega
  | i + 1, j, k, h1, h2 => by
    by_cases e : j = i + 1
    · rw [e]
    · show (if k = i then _ else _) = _
      rw [if_neg (by omega)]
      exact rowV_keep m L d h1 (by omega)
theorem st_bdL (F : Nat → Nat → Int) : ∀ i a b, -4611686018427387903 ≤ (st F i).1 a b ∧ (st F i).1 a b ≤ 4611686018427387903
  | 0, a, b => by show (-4611686018427387903 : Int) ≤ 0 ∧ (0 : Int) ≤ _; omega
  | i + 1, a, b => by
    show -4611686018427387903 ≤ (if a = i then (if b = i then (1073741824 : Int) else _) else _) ∧ (if a = i then (if b = i then (1073741824 : Int) else _) else _) ≤ _
    split
    · split
      · omega
      · exact rowV_bd _ _ _ _ _
    · exact st_bdL F i a b
theorem st_bdD (F : Nat → Nat → Int) : ∀ i a, -4611686018427387903 ≤ (st F i).2 a ∧ (st F i).2 a ≤ 4611686018427387903
  | 0, a => by show (-4611686018427387903 : Int) ≤ 0 ∧ (0 : Int) ≤ _; omega
  | i + 1, a => by
    show -4611686018427387903 ≤ (if a = i then _ else _) ∧ (if a = i then _ else _) ≤ _
    split
    · exact lessV_bd _ _ _ _
    · exact st_bdD F i a
theorem b64_of {z : Nat → Int} (h : ∀ k, -4611686018427387903 ≤ z k ∧ z k ≤ 4611686018427387903) : B64 z := fun k => by have := h k; omega
/-- Rows and numbers stay. -/
theorem st_keepL (F : Nat → Nat → Int) : ∀ {n i a b : Nat}, a < i → i ≤ n → (st F n).1 a b = (st F i).1 a b
  | 0, i, a, b, h1, h2 => by omega
  | n + 1, i, a, b, h1, h2 => by
    by_cases e : i = n + 1
    · rw [e]
    · show (if a = n then _ else _) = _
      rw [if_neg (by omega)]
      exact st_keepL F h1 (by omega)
theorem st_keepD (F : Nat → Nat → Int) : ∀ {n i a : Nat}, a < i → i ≤ n → (st F n).2 a = (st F i).2 a
  | 0, i, a, h1, h2 => by omega
  | n + 1, i, a, h1, h2 => by
    by_cases e : i = n + 1
    · rw [e]
    · show (if a = n then _ else _) = _
      rw [if_neg (by omega)]
      exact st_keepD F h1 (by omega)
theorem st_behindL (F : Nat → Nat → Int) : ∀ {i a b : Nat}, i ≤ a → (st F i).1 a b = 0
  | 0, a, b, _ => rfl
  | i + 1, a, b, h => by
    show (if a = i then _ else _) = _
    rw [if_neg (by omega)]
    exact st_behindL F (by omega)
theorem st_behindD (F : Nat → Nat → Int) : ∀ {i a : Nat}, i ≤ a → (st F i).2 a = 0
  | 0, a, _ => rfl
  | i + 1, a, h => by
    show (if a = i then _ else _) = _
    rw [if_neg (by omega)]
    exact st_behindD F (by omega)
theorem st_D (F : Nat → Nat → Int) {n i : Nat} (h : i < n) : (st F n).2 i = stD F i := by
  rw [st_keepD F (i := i + 1) (by omega) (by omega)]
  show (if i = i then _ else _) = _
  rw [if_pos rfl]; rfl
theorem st_one (F : Nat → Nat → Int) {n i : Nat} (h : i < n) : (st F n).1 i i = 1073741824 := by
  rw [st_keepL F (i := i + 1) (by omega) (by omega)]
  show (if i = i then (if i = i then _ else _) else _) = _
  rw [if_pos rfl, if_pos rfl]
theorem st_low (F : Nat → Nat → Int) {n i j : Nat} (h : i < n) (hj : j < i) : (st F n).1 i j = rowV (F i) (st F i).1 (st F i).2 i j := by
  rw [st_keepL F (i := i + 1) (by omega) (by omega)]
  show (if i = i then (if j = i then _ else _) else _) = _
  rw [if_pos rfl, if_neg (by omega)]
theorem st_up (F : Nat → Nat → Int) {n i j : Nat} (h : i < n) (hj : i < j) : (st F n).1 i j = 0 := by
  rw [st_keepL F (i := i + 1) (by omega) (by omega)]
  show (if i = i then (if j = i then _ else _) else _) = _
  rw [if_pos rfl, if_neg (by omega)]
  exact rowV_behind _ _ _ (by omega)

theorem dk_congr {a b a' b' : Nat → Int} : ∀ {n : Nat}, (∀ k, k < n → a k = a' k) → (∀ k, k < n → b k = b' k) → dk a b n = dk a' b' n
  | 0, _, _ => rfl
  | n + 1, h, h' => by
    show dk a b n + a n * b n = dk a' b' n + a' n * b' n
    rw [dk_congr (fun k hk => h k (by omega)) (fun k hk => h' k (by omega)), h n (by omega), h' n (by omega)]
theorem lessV_congr {n : Int} {a b a' b' : Nat → Int} {m : Nat} (h : ∀ k, k < m → a k = a' k) (h' : ∀ k, k < m → b k = b' k) : lessV n a b m = lessV n a' b' m := by
  unfold lessV sumV; rw [dk_congr h h']
theorem lessO_congr {n : Int} {a b a' b' : Nat → Int} {m : Nat} (h : ∀ k, k < m → a k = a' k) (h' : ∀ k, k < m → b k = b' k) : lessO n a b m = lessO n a' b' m := by
  unfold lessO sumO sumV; rw [dk_congr h h']

/-- What is left of a vector (LD2's y), its first parts; noughts behind. -/
def downV (L : Nat → Nat → Int) (v : Nat → Int) : Nat → Nat → Int
  | 0 => fun _ => 0
  | i + 1 => fun k => if k = i then lessV (v i) (L i) (downV L v i) i else downV L v i k
def downO (L : Nat → Nat → Int) (v : Nat → Int) : Nat → Bool
  | 0 => false
  | i + 1 => downO L v i || lessO (v i) (L i) (downV L v i) i
theorem downV_bd (L : Nat → Nat → Int) (v : Nat → Int) : ∀ j k, -4611686018427387903 ≤ downV L v j k ∧ downV L v j k ≤ 4611686018427387903
  | 0, k => by show (-4611686018427387903 : Int) ≤ 0 ∧ (0 : Int) ≤ _; omega
  | j + 1, k => by
    show -4611686018427387903 ≤ (if k = j then _ else _) ∧ (if k = j then _ else _) ≤ _
    split
    · exact lessV_bd _ _ _ _
    · exact downV_bd L v j k
theorem downV_keep (L : Nat → Nat → Int) (v : Nat → Int) : ∀ {i j k : Nat}, k < j → j ≤ i → downV L v i k = downV L v j k
  | 0, j, k, h1, h2 => by omega
  | i + 1, j, k, h1, h2 => by
    by_cases e : j = i + 1
    · rw [e]
    · show (if k = i then _ else _) = _
      rw [if_neg (by omega)]
      exact downV_keep L v h1 (by omega)
/-- Each by its number of D (z). -/
def byV (y d : Nat → Int) : Nat → Int := fun k => divV (y k) (d k) 20
def byO (y d : Nat → Int) : Nat → Bool := fun k => divO (y k) (d k) 20
/-- x, from the last one on: t of n parts. -/
def upV (L : Nat → Nat → Int) (z : Nat → Int) (n : Nat) : Nat → Nat → Int
  | 0 => z
  | t + 1 => fun k => if k = n - 1 - t then lessV (z (n - 1 - t)) (fun j => L (n - t + j) (n - 1 - t)) (fun j => upV L z n t (n - t + j)) t else upV L z n t k
def upO (L : Nat → Nat → Int) (z : Nat → Int) (n : Nat) : Nat → Bool
  | 0 => false
  | t + 1 => upO L z n t || lessO (z (n - 1 - t)) (fun j => L (n - t + j) (n - 1 - t)) (fun j => upV L z n t (n - t + j)) t
/-- How far it is: the first parts together. -/
def farV (y d : Nat → Int) : Nat → Int
  | 0 => 0
  | i + 1 => clamp (farV y d i + divV (clamp (rne (y i * y i) (2 ^ 20))) (d i) 20)
def farO (y d : Nat → Int) : Nat → Bool
  | 0 => false
  | i + 1 => farO y d i || (great (rne (y i * y i) (2 ^ 20)) || divO (clamp (rne (y i * y i) (2 ^ 20))) (d i) 20 || great (farV y d i + divV (clamp (rne (y i * y i) (2 ^ 20))) (d i) 20))
theorem farV_bd (y d : Nat → Int) : ∀ i, -4611686018427387903 ≤ farV y d i ∧ farV y d i ≤ 4611686018427387903
  | 0 => by show (-4611686018427387903 : Int) ≤ 0 ∧ (0 : Int) ≤ _; omega
  | i + 1 => clamp_bd _

end Ld
end Go.Proofs.YtfgjigkgfflofaaDoorR
