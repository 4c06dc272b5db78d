/-
  Turning step by step: the numbers of the steps, how great they become.
-/
import Derived.Test.YtefgkeeeanakeaaDoorBase
set_option linter.unusedSimpArgs false
set_option linter.unusedVariables false
namespace Go.Proofs.YtefgkeeeanakeaaDoor
namespace Tg

/-- The steps' angles. -/
def angs : List Int := [576460752303423488, 340304653033718298, 179807632645220259, 91273161881380487, 45813697873323707, 22929182573009054, 11467389120678282, 5734044481687724, 2867065987018958, 1433538461969102, 716769914547871, 358385042719534, 179192532040472, 89596267355325, 44798133844548, 22399066943135, 11199533474175, 5599766737413, 2799883368747, 1399941684379, 699970842190, 349985421095, 174992710548, 87496355274, 43748177637, 21874088818, 10937044409, 5468522205, 2734261102, 1367130551, 683565276, 341782638, 170891319, 85445659, 42722830, 21361415, 10680707, 5340354, 2670177, 1335088]
def ang (k : Nat) : Int := angs.getD k 0
theorem ang_bd {k : Nat} (h : k < 40) : 0 < ang k ∧ ang k ≤ 576460752303423488 := by
  have : ∀ j, j < 40 → 0 < ang j ∧ ang j ≤ 576460752303423488 := by decide
  exact this k h

/-- By a power of two, cut down. -/
def fl (n : Int) (k : Nat) : Int := n / 2 ^ k
theorem fl_zero (n : Int) : fl n 0 = n := by unfold fl; rw [Int.pow_zero, Int.ediv_one]
theorem fl_succ (n : Int) (k : Nat) : fl n (k + 1) = fl n k / 2 := by
  unfold fl
  have h : (0 : Int) < 2 ^ k := Int.pow_pos (by omega)
  rw [Int.ediv_ediv, if_neg (fun h => absurd h.1 (by omega)), Int.sub_zero, Int.pow_succ]
theorem fl_bd {n B : Int} (k : Nat) (h0 : -B ≤ n) (h1 : n ≤ B) : -(fl B k + 1) ≤ fl n k ∧ fl n k ≤ fl B k := by
  induction k with
  | zero => rw [fl_zero, fl_zero]; omega
  | succ k ih => rw [fl_succ, fl_succ]; omega

/-- How great a pair's numbers may be, ahead of step k. -/
def gr : Nat → Int
  | 0 => 1152921504606846976
  | k + 1 => gr k + fl (gr k) k + 1
theorem gr_le {k : Nat} (h : k ≤ 40) : 0 ≤ gr k ∧ gr k ≤ 5600000000000000000 := by
  have : ∀ j, j < 41 → 0 ≤ gr j ∧ gr j ≤ 5600000000000000000 := by decide
  exact this k (by omega)

/-- A step of a pair, and of what is left of an angle. -/
structure St where
  x : Int
  y : Int
  z : Int
deriving DecidableEq

def lf (k : Nat) (s : St) : St := ⟨s.x - fl s.y k, s.y + fl s.x k, s.z - ang k⟩
def rt (k : Nat) (s : St) : St := ⟨s.x + fl s.y k, s.y - fl s.x k, s.z + ang k⟩

/-- Both's, ahead of step k. -/
def bst (s : St) : Nat → St
  | 0 => s
  | k + 1 => if 0 ≤ (bst s k).z then lf k (bst s k) else rt k (bst s k)
/-- Angle's, ahead of step k. -/
def vst (s : St) : Nat → St
  | 0 => s
  | k + 1 => if 0 < (vst s k).y then rt k (vst s k) else lf k (vst s k)

/-- How great what is left may be. -/
def zs : Nat → Int
  | 0 => 576460752303423488
  | k + 1 => zs k + ang k
theorem zs_le {k : Nat} (h : k ≤ 40) : 0 ≤ zs k ∧ zs k ≤ 2000000000000000000 := by
  have : ∀ j, j < 41 → 0 ≤ zs j ∧ zs j ≤ 2000000000000000000 := by decide
  exact this k (by omega)

/-- A state whose numbers are not too great. -/
structure Ok (k : Nat) (s : St) : Prop where
  x0 : -gr k ≤ s.x
  x1 : s.x ≤ gr k
  y0 : -gr k ≤ s.y
  y1 : s.y ≤ gr k
  z0 : -zs k ≤ s.z
  z1 : s.z ≤ zs k
theorem Ok.lf {k : Nat} {s : St} (h : Ok k s) (hk : k < 40) : Ok (k + 1) (lf k s) := by
  obtain ⟨x0, x1, y0, y1, z0, z1⟩ := h
  have a := fl_bd k x0 x1
  have b := fl_bd k y0 y1
  have c := ang_bd hk
  have d := gr_le (k := k) (by omega)
  have e : gr (k + 1) = gr k + fl (gr k) k + 1 := rfl
  have f : zs (k + 1) = zs k + ang k := rfl
  constructor <;> simp only [Tg.lf] <;> omega
theorem Ok.rt {k : Nat} {s : St} (h : Ok k s) (hk : k < 40) : Ok (k + 1) (rt k s) := by
  obtain ⟨x0, x1, y0, y1, z0, z1⟩ := h
  have a := fl_bd k x0 x1
  have b := fl_bd k y0 y1
  have c := ang_bd hk
  have d := gr_le (k := k) (by omega)
  have e : gr (k + 1) = gr k + fl (gr k) k + 1 := rfl
  have f : zs (k + 1) = zs k + ang k := rfl
  constructor <;> simp only [Tg.rt] <;> omega
theorem Ok.bst {s : St} (h : Ok 0 s) : ∀ {k : Nat}, k ≤ 40 → Ok k (bst s k)
  | 0, _ => h
  | k + 1, hk => by
    have := Ok.bst h (k := k) (by omega)
    unfold Tg.bst
    split
    · exact this.lf (by omega)
    · exact this.rt (by omega)
theorem Ok.vst {s : St} (h : Ok 0 s) : ∀ {k : Nat}, k ≤ 40 → Ok k (vst s k)
  | 0, _ => h
  | k + 1, hk => by
    have := Ok.vst h (k := k) (by omega)
    unfold Tg.vst
    split
    · exact this.rt (by omega)
    · exact this.lf (by omega)
/-- All that is reckoned of a state is a number of 64 bits. -/
theorem Ok.bd {k : Nat} {s : St} (h : Ok k s) (hk : k ≤ 40) : (-5600000000000000000 ≤ s.x ∧ s.x ≤ 5600000000000000000) ∧ (-5600000000000000000 ≤ s.y ∧ s.y ≤ 5600000000000000000) ∧ (-2000000000000000000 ≤ s.z ∧ s.z ≤ 2000000000000000000) := by
  obtain ⟨x0, x1, y0, y1, z0, z1⟩ := h
  have d := gr_le hk
  have e := zs_le hk
  omega
end Tg
end Go.Proofs.YtefgkeeeanakeaaDoor
