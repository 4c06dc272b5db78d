/-
  What is proved: whatever number, and whatever numbers of L and D it is given, the law LdlRaw of layer 9 returns true, ends without a panic, and leaves what was there as it was; its condition: the library's variable errors.errorType holds what it is laid with.
-/
import Derived.Test.YtfgjigkgfflofaaDoorRLdS
import Derived.Test.YtfgjigkgfflofaaDoorRErrA
import Derived.Test.YtfgjigkgfflofaaDoorRFLdlRaw
import Derived.Deep.CutRange
import Derived.Deep.DeepCutAuto
set_option linter.unusedSimpArgs false
set_option linter.unusedVariables false
namespace Go.Proofs.YtfgjigkgfflofaaDoorR
open Go.RowKit Vc Mt St Qn Dt Ld

namespace Ld
def inr (n : Int) : Bool := decide (1 ≤ n ∧ n ≤ 6)
/-- May the first k of L be? -/
def fL (N : Nat) (z : Nat → Int) : Nat → Bool
  | 0 => true
  | k + 1 => fL N z k && okL N (z k) (k / N) (k % N)
def fD (N : Nat) (d : Nat → Int) : Nat → Bool
  | 0 => true
  | k + 1 => fD N d k && okD N (d k) k
theorem fL_true {N : Nat} {z : Nat → Int} : ∀ {t : Nat}, fL N z t = true ↔ ∀ k, k < t → okL N (z k) (k / N) (k % N) = true
  | 0 => ⟨fun _ k hk => by omega, fun _ => rfl⟩
  | t + 1 => by
    unfold fL
    rw [Bool.and_eq_true, fL_true]
    refine ⟨fun h k hk => ?_, fun h => ⟨fun k hk => h k (by omega), h t (by omega)⟩⟩
    rcases Nat.lt_or_ge k t with c | c
    · exact h.1 k c
    · obtain rfl : k = t := by omega
      exact h.2
theorem fD_true {N : Nat} {d : Nat → Int} : ∀ {t : Nat}, fD N d t = true ↔ ∀ k, k < t → okD N (d k) k = true
  | 0 => ⟨fun _ k hk => by omega, fun _ => rfl⟩
  | t + 1 => by
    unfold fD
    rw [Bool.and_eq_true, fD_true]
    refine ⟨fun h k hk => ?_, fun h => ⟨fun k hk => h k (by omega), h t (by omega)⟩⟩
    rcases Nat.lt_or_ge k t with c | c
    · exact h.1 k c
    · obtain rfl : k = t := by omega
      exact h.2
theorem fL_false {N : Nat} {z : Nat → Int} {k t : Nat} (h : fL N z k = false) (hk : k ≤ t) : fL N z t = false := by
  cases e : fL N z t with
  | false => rfl
  | true =>
    have := fL_true.2 (fun j hj => fL_true.1 e j (by omega) : ∀ j, j < k → okL N (z j) (j / N) (j % N) = true)
    rw [h] at this; cases this
theorem fD_false {N : Nat} {d : Nat → Int} {k t : Nat} (h : fD N d k = false) (hk : k ≤ t) : fD N d t = false := by
  cases e : fD N d t with
  | false => rfl
  | true =>
    have := fD_true.2 (fun j hj => fD_true.1 e j (by omega) : ∀ j, j < k → okD N (d j) j = true)
    rw [h] at this; cases this
theorem may_f {n : Int} {z d : Nat → Int} : FMay n z d ↔ ((inr n && fL n.toNat z 36) && fD n.toNat d 6) = true := by
  rw [Bool.and_eq_true, Bool.and_eq_true, fL_true, fD_true]
  unfold inr FMay
  rw [decide_eq_true_iff]
  exact ⟨fun h => ⟨⟨⟨h.1, h.2.1⟩, h.2.2.2⟩, h.2.2.1⟩, fun h => ⟨h.1.1.1, h.1.1.2, h.2, h.1.2⟩⟩
/-- Factors that may be, by rows. -/
theorem may_rows {n : Int} {z d : Nat → Int} (h : FMay n z d) : ∃ (N : Nat) (L : Nat → Nat → Int), n = N ∧ fvals n z d = fvals N (mz N N L) d ∧ FMay N (mz N N L) d ∧ ∀ a, B64 (L a) := by
  obtain ⟨N, rfl⟩ : ∃ N : Nat, n = N := ⟨n.toNat, by have := h.1; omega⟩
  have hN : 1 ≤ N ∧ N ≤ 6 := by have := h.1; have := h.2.1; omega
  obtain ⟨L, hL⟩ : ∃ L : Nat → Nat → Int, L = fun i j => if i < N ∧ j < N then z (i * N + j) else 0 := ⟨_, rfl⟩
  have hok := h.2.2.2
  rw [Int.toNat_natCast] at hok
  have ez : ∀ k, k < 36 → z k = mz N N L k := fun k hk => by
    have o := hok k hk
    by_cases e : N * N ≤ k
    · rw [mz_behind e]
      have e1 : N ≤ k / N := (Nat.le_div_iff_mul_le (by omega)).2 e
      unfold okL at o
      rw [if_pos (Or.inl e1)] at o
      simpa using o
    · have e1 : k / N < N := (Nat.div_lt_iff_lt_mul (by omega)).2 (by omega)
      have e2 : k % N < N := Nat.mod_lt _ (by omega)
      have e3 : k / N * N + k % N = k := by rw [Nat.mul_comm]; exact Nat.div_add_mod k N
      have e4 := mz_at (n := N) (c := N) (F := L) e1 e2
      rw [e3, hL] at e4
      rw [hL, e4]
      show z k = if k / N < N ∧ k % N < N then z (k / N * N + k % N) else 0
      rw [if_pos ⟨e1, e2⟩, e3]
  refine ⟨N, L, rfl, fvals_congr ez (fun _ _ => rfl), ⟨h.1, h.2.1, h.2.2.1, fun k hk => by rw [← ez k hk]; exact h.2.2.2 k hk⟩, fun a b => ?_⟩
  rw [hL]
  show -9223372036854775808 ≤ (if a < N ∧ b < N then z (a * N + b) else 0) ∧ (if a < N ∧ b < N then z (a * N + b) else 0) ≤ _
  by_cases e : a < N ∧ b < N
  · rw [if_pos e]
    have e36 := size_le hN.2 hN.2
    have o := hok (a * N + b) (by have := place_lt e.1 e.2; omega)
    rw [place_div e.2, place_mod e.2] at o
    unfold okL at o
    by_cases c1 : N ≤ a ∨ a < b
    · rw [if_pos c1] at o
      have : z (a * N + b) = 0 := by simpa using o
      omega
    · rw [if_neg c1] at o
      by_cases c2 : b = a
      · rw [if_pos c2] at o
        have : z (a * N + b) = 1073741824 := by simpa using o
        omega
      · rw [if_neg c2] at o
        have : great (z (a * N + b)) = false := by simpa using o
        have := great_iff.1 this
        omega
  · rw [if_neg e]; omega
theorem b64_zero : B64 (fun _ => 0) := fun k => ⟨by show (-9223372036854775808 : Int) ≤ 0; omega, by show (0 : Int) ≤ 9223372036854775807; omega⟩
theorem notgreat (x : Int) : (!great x) = (decide (x ≥ -4611686018427387903) && decide (x ≤ 4611686018427387903)) := by
  unfold great
  by_cases a : 4611686018427387903 < x
  · rw [decide_eq_true a, decide_eq_false (show ¬ x ≤ 4611686018427387903 by omega)]; simp
  · rw [decide_eq_false a, decide_eq_true (show x ≤ 4611686018427387903 by omega)]
    by_cases b : x < -4611686018427387903
    · rw [decide_eq_true b, decide_eq_false (show ¬ x ≥ -4611686018427387903 by omega)]; rfl
    · rw [decide_eq_false b, decide_eq_true (show x ≥ -4611686018427387903 by omega)]; rfl
end Ld

theorem isrow9 {w : World} {a : Option Addr} {len cap : Nat} {z : List Int} (h : FLdlRaw.IsRow .i64 w a len cap z) : Sl w a len cap (fun k => z.getD k 0) := by
  rcases h with ⟨rfl, rfl, rfl, rfl⟩ | ⟨x, rfl, h1, h2, h3, h4, h5⟩
  · exact Sl.none _ _
  · exact ⟨h1, h2, fun k hk => ⟨x, rfl, h4 k (by omega)⟩⟩

set_option maxRecDepth 20000 in
set_option maxHeartbeats 4000000 in
theorem lraw_any (n : Int) (vo uo : Option Addr) (l1 c1 l2 c2 : Nat) (z1 z2 : List Int) (w : World) (hn0 : -9223372036854775808 ≤ n) (hn1 : n ≤ 9223372036854775807) (hv : Sl w vo l1 c1 (fun k => z1.getD k 0)) (hu : Sl w uo l2 c2 (fun k => z2.getD k 0)) (hE : ErrTab w) :
    Calls Tryd.prog 3 #[.int .i64 n, .slice vo l1 c1, .slice uo l2 c2] w fun e w' => e = .returned (.bool true) ∧ Below w.heap.size w w' := by
  obtain ⟨xv, hvo, hvc⟩ := hv.get
  obtain ⟨xu, huo, huc⟩ := hu.get
  have m1 := hv.le
  have m2 := hv.cap
  have m3 := hu.le
  have m4 := hu.cap
  have HVO := Hid.mkV hvo
  have HVC := Hid.mkV hvc
  have HUO := Hid.mkV huo
  have HUC := Hid.mkV huc
  have HE := Hid.mkV hE
  obtain ⟨g, hg⟩ : ∃ g, g = w.heap.size := ⟨_, rfl⟩
  have HG := Hid.mkV hg
  clear hv hvo hvc hu huo huc hE hg
  go_enter Tryd.func3, Tryd.ntmps3
  go_upto_region 1 with fail
  go_cut [7] (fun p wx => p = .pointer (some ⟨g, 0, none⟩) ∧ FRow wx g n (fun _ => 0) (fun _ => 0) ∧ Below w.heap.size w wx)
  case first =>
    as_aux_lemma =>
      go_wp2_with (first
        | (refine wpList_buildF1 (by rfl) _ (by rfl) _ (by rfl) ?_)
        | (rw [zeroF]; refine St.wpList_storeNew isF rfl _ _ (by rfl) _ _ _ (by rfl) (by rfl) (fvals_len _ _ _) (fvals_len _ _ _) (one_fvals _ _ _) ?_; intro w1 m1 k1)
        | fail)
      go_meet
      exact ⟨by rw [HG.out], by rw [HG.out]; exact m1, k1⟩
  obtain ⟨rfl, r1, k1⟩ := hcut
  go_step
  go_step
  go_cut [8] (fun _ wx => (∃ z : Nat → Int, FRow wx g n z (fun _ => 0)) ∧ Below w.heap.size w wx)
  case first =>
    as_aux_lemma =>
      go_wp2
      go_loopw [8] (fun i wr => ∃ k : Nat, k ≤ l1 ∧ k ≤ 36 ∧ i = .int .i64 (k : Int) ∧ (∃ z : Nat → Int, FRow wr g n z (fun _ => 0)) ∧ Below w.heap.size w wr) (fun i _ => 36 - (intOf i).toNat)
      case atStart => exact ⟨0, by omega, by omega, rfl, ⟨_, r1⟩, k1⟩
      case round =>
        rename World => wo
        obtain ⟨k, hk, hk2, rfl, ⟨y, mk⟩, kB⟩ := hrel
        by_cases h : k < l1
        · have e1 : decide ((k : Int) < (l1 : Int)) = true := decide_eq_true (by omega)
          by_cases h2 : k < 36
          · have e2 : decide ((k : Int) < 36) = true := decide_eq_true (by omega)
            obtain rfl := HVO.out (by omega)
            have c1 := keep_cell kB (HVC.out k h)
            have c2 := FRow.z mk (k := k) (o := 1 + k) h2 (by omega)
            have f2 := CRow.free mk (1 + k)
            have HMK := Hid.mkV mk
            obtain ⟨V, hV⟩ : ∃ V, V = ((z1).getD k 0) := ⟨_, rfl⟩
            rw [← hV] at c1
            clear mk hV
            go_wp2
            go_roundw
            case rel =>
              exact ⟨k + 1, by omega, by omega, by go_num, ⟨_, FRow.setz HMK.out (k := k) h2 (by omega) V⟩, kB.trans (St.below_set kB.size (by show w.heap.size ≤ g; rw [HG.out]; exact Nat.le_refl _) _)⟩
            case measure => simp [intOf]; omega
          · have e2 : decide ((k : Int) < 36) = false := decide_eq_false (by omega)
            go_wp2
            go_meet
            exact ⟨⟨_, mk⟩, kB⟩
        · have e1 : decide ((k : Int) < (l1 : Int)) = false := decide_eq_false (by omega)
          go_wp2
          go_meet
          exact ⟨⟨_, mk⟩, kB⟩
  obtain ⟨⟨z, r2⟩, k2⟩ := hcut
  clear r1 k1
  go_step
  go_step
  go_cut [9] (fun _ wx => (∃ d : Nat → Int, FRow wx g n z d) ∧ Below w.heap.size w wx)
  case first =>
    as_aux_lemma =>
      go_wp2
      go_loopw [9] (fun i wr => ∃ k : Nat, k ≤ l2 ∧ k ≤ 6 ∧ i = .int .i64 (k : Int) ∧ (∃ d : Nat → Int, FRow wr g n z d) ∧ Below w.heap.size w wr) (fun i _ => 6 - (intOf i).toNat)
      case atStart => exact ⟨0, by omega, by omega, rfl, ⟨_, r2⟩, k2⟩
      case round =>
        rename World => wo
        obtain ⟨k, hk, hk2, rfl, ⟨y, mk⟩, kB⟩ := hrel
        by_cases h : k < l2
        · have e1 : decide ((k : Int) < (l2 : Int)) = true := decide_eq_true (by omega)
          by_cases h2 : k < 6
          · have e2 : decide ((k : Int) < 6) = true := decide_eq_true (by omega)
            obtain rfl := HUO.out (by omega)
            have c1 := keep_cell kB (HUC.out k h)
            have c2 := FRow.d mk (k := k) (o := 37 + k) h2 (by omega)
            have f2 := CRow.free mk (37 + k)
            have HMK := Hid.mkV mk
            obtain ⟨V, hV⟩ : ∃ V, V = ((z2).getD k 0) := ⟨_, rfl⟩
            rw [← hV] at c1
            clear mk hV
            go_wp2
            go_roundw
            case rel =>
              exact ⟨k + 1, by omega, by omega, by go_num, ⟨_, FRow.setd HMK.out (k := k) (by omega) V⟩, kB.trans (St.below_set kB.size (by show w.heap.size ≤ g; rw [HG.out]; exact Nat.le_refl _) _)⟩
            case measure => simp [intOf]; omega
          · have e2 : decide ((k : Int) < 6) = false := decide_eq_false (by omega)
            go_wp2
            go_meet
            exact ⟨⟨_, mk⟩, kB⟩
        · have e1 : decide ((k : Int) < (l2 : Int)) = false := decide_eq_false (by omega)
          go_wp2
          go_meet
          exact ⟨⟨_, mk⟩, kB⟩
  obtain ⟨⟨d, r3⟩, k3⟩ := hcut
  rename World => w3
  have HR3 := Hid.mkV r3
  have HK3 := Hid.mkV k3
  clear r2 k2 HVO HVC HUO HUC
  go_upto_region 10 with fail
  go_cut [10] (fun f wx => f = .bool (inr n) ∧ w3 = wx)
  case first =>
    as_aux_lemma =>
      by_cases h1 : 1 ≤ n
      · have e1 : decide (n ≥ 1) = true := decide_eq_true h1
        by_cases h2 : n ≤ 6
        · have e2 : decide (n ≤ 6) = true := decide_eq_true h2
          have e5 : inr n = true := decide_eq_true ⟨h1, h2⟩
          go_wp2
          go_meet
          exact ⟨by rw [e5], rfl⟩
        · have e2 : decide (n ≤ 6) = false := decide_eq_false h2
          have e5 : inr n = false := decide_eq_false (fun h => h2 h.2)
          go_wp2
          go_meet
          exact ⟨by rw [e5], rfl⟩
      · have e1 : decide (n ≥ 1) = false := decide_eq_false h1
        have e5 : inr n = false := decide_eq_false (fun h => h1 h.1)
        go_wp2
        go_meet
        exact ⟨by rw [e5], rfl⟩
  obtain ⟨rfl, rfl⟩ := hcut
  go_step
  go_step
  obtain ⟨fb, hfb⟩ : ∃ fb, fb = (inr n && fL n.toNat z 36) := ⟨_, rfl⟩
  have HFB := Hid.mkV hfb
  clear hfb
  go_cut [10, 11] (fun f _ wx => f = .bool fb ∧ (∃ t, wx = w3.drewN t))
  case first =>
    as_aux_lemma =>
      go_wp2
      go_loopw [10, 11] (fun f i wr => ∃ k : Nat, k ≤ 36 ∧ i = .int .i64 (k : Int) ∧ f = .bool (inr n && fL n.toNat z k) ∧ ∃ t, wr = w3.drewN t) (fun _ i _ => 36 - (intOf i).toNat)
      case atStart => exact ⟨0, by omega, rfl, by show _ = Value.bool (inr n && true); rw [Bool.and_true], 0, by first | rfl | trivial⟩
      case round =>
        rename World => wo
        obtain ⟨k, hk, rfl, rfl, t, hwt⟩ := hrel
        have HRo : Hid (FRow wo g n z d) := by rw [hwt]; exact HR3.out
        have HT0 := Hid.mkV hwt
        clear hwt
        obtain ⟨T, hT⟩ : ∃ T, T = (inr n && fL n.toNat z k) := ⟨_, rfl⟩
        rw [← hT]
        by_cases h : k < 36
        · have e1 : decide ((k : Int) < 36) = true := decide_eq_true (by omega)
          cases T
          · have HT := Hid.mkV hT
            clear hT
            go_wp2
            go_meet
            refine ⟨?_, t, HT0.out⟩
            rw [HFB.out]
            have e := HT.out
            cases es : inr n with
            | false => rfl
            | true =>
              rw [es] at e
              rw [fL_false (show fL n.toNat z k = false from e.symm) hk]
              rfl
          · have hb : inr n = true ∧ fL n.toNat z k = true := by
              have := hT.symm
              rw [Bool.and_eq_true] at this
              exact this
            have hin : 1 ≤ n ∧ n ≤ 6 := by
              have hs := hb.1
              unfold inr at hs
              rw [decide_eq_true_iff] at hs
              exact hs
            obtain ⟨N, rfl⟩ : ∃ N : Nat, n = N := ⟨n.toNat, by omega⟩
            have HB := Hid.mkV hb
            clear hb hT
            have q1 : Int.tdiv (k : Int) (N : Int) = ((k / N : Nat) : Int) := rfl
            have q2 : Int.tmod (k : Int) (N : Int) = ((k % N : Nat) : Int) := rfl
            have q3 : k / N ≤ k := Nat.div_le_self _ _
            have q4 : k % N ≤ k := Nat.mod_le _ _
            have q5 : ((N : Int) == 0) = false := by simp; omega
            have q8 : ¬ (N : Int) = 0 := by omega
            have q9 : ¬ N = 0 := by omega
            have q10 : IntKind.i64.wrap (N : Int) = (N : Int) := by rw [IntKind.wrap_i64]; omega
            have hPi : N * N ≤ k ↔ N ≤ k / N := (Nat.le_div_iff_mul_le (by omega)).symm
            have h36 := size_le (show N ≤ 6 by omega) (show N ≤ 6 by omega)
            obtain ⟨i, hi⟩ : ∃ i, i = k / N := ⟨_, rfl⟩
            obtain ⟨j, hj⟩ : ∃ j, j = k % N := ⟨_, rfl⟩
            obtain ⟨P, hP⟩ : ∃ P, P = N * N := ⟨_, rfl⟩
            have q11 : IntKind.i64.wrap ((N : Int) * (N : Int)) = (P : Int) := by
              have : ((N * N : Nat) : Int) = (N : Int) * (N : Int) := by push_cast; rfl
              rw [← this, ← hP, IntKind.wrap_i64]; omega
            have HI := Hid.mkV hi
            have HJ := Hid.mkV hj
            rw [← hi] at q1 q3 hPi
            rw [← hj] at q2 q4
            rw [← hP] at hPi h36
            clear hi hj hP
            have q6 : IntKind.i64.wrap (i : Int) = (i : Int) := by rw [IntKind.wrap_i64]; omega
            have q7 : IntKind.i64.wrap (j : Int) = (j : Int) := by rw [IntKind.wrap_i64]; omega
            have cc := FRow.z HRo.out (k := k) (o := 1 + k) h (by omega)
            obtain ⟨y, hy⟩ : ∃ y, y = z k := ⟨_, rfl⟩
            rw [← hy] at cc
            have HY := Hid.mkV hy
            have HPi := Hid.mkV hPi
            clear hy hPi
            have i0 : (0 : Int) ≤ (k : Int) := by omega
            have i1 : (k : Int) < 36 := by omega
            go_upto_region 15 with fail
            go_cut [13, 14] (fun a b wx => a = .int .i64 (i : Int) ∧ b = .int .i64 (j : Int) ∧ ∃ t, wx = w3.drewN t)
            case first =>
              go_wp2
              go_quiet (fail)
              go_wp2
              go_meet
              exact ⟨rfl, rfl, t + nq, by rw [HT0.out]; simp⟩
            obtain ⟨rfl, rfl, t2, hw2⟩ := hcut
            have HT2 := Hid.mkV hw2
            clear hw2 cc HRo HT0
            have endr : ∀ b : Bool, okL N y i j = b → Value.bool b = Value.bool (inr (N : Int) && fL ((N : Int)).toNat z (k + 1)) := fun b hb => by
              show _ = Value.bool (inr (N : Int) && (fL ((N : Int)).toNat z k && okL ((N : Int)).toNat (z k) (k / ((N : Int)).toNat) (k % ((N : Int)).toNat)))
              rw [HB.out.1, HB.out.2, Int.toNat_natCast, ← HY.out, ← HI.out, ← HJ.out, hb]
              rfl
            have HEnd := Hid.mkV endr
            clear endr
            by_cases hp : P ≤ k
            · have e2 : decide ((k : Int) ≥ (P : Int)) = true := decide_eq_true (by omega)
              have eo : Hid (okL N y i j = (y == 0)) := by unfold okL; exact if_pos (Or.inl (HPi.out.1 hp))
              go_wp2
              go_roundw
              case rel => exact ⟨k + 1, by omega, by go_num, HEnd.out _ eo.out, t2, HT2.out⟩
              case measure => simp [intOf]; omega
            · have e2 : decide ((k : Int) ≥ (P : Int)) = false := decide_eq_false (by omega)
              have hpi : ¬ N ≤ i := fun h => hp (HPi.out.2 h)
              by_cases hji : i < j
              · have e3 : decide ((j : Int) > (i : Int)) = true := decide_eq_true (by omega)
                have eo : Hid (okL N y i j = (y == 0)) := by unfold okL; exact if_pos (Or.inr hji)
                go_wp2
                go_roundw
                case rel => exact ⟨k + 1, by omega, by go_num, HEnd.out _ eo.out, t2, HT2.out⟩
                case measure => simp [intOf]; omega
              · have e3 : decide ((j : Int) > (i : Int)) = false := decide_eq_false (by omega)
                by_cases hij : i = j
                · have e4 : ((i : Int) == (j : Int)) = true := by simp; omega
                  have eo := Hid.mkV (show okL N y i j = (y == 1073741824) by unfold okL; rw [if_neg (by omega), if_pos hij.symm])
                  clear hij
                  go_wp2
                  go_roundw
                  case rel => exact ⟨k + 1, by omega, by go_num, HEnd.out _ eo.out, t2, HT2.out⟩
                  case measure => simp [intOf]; omega
                · have e4 : ((i : Int) == (j : Int)) = false := by simp; omega
                  have eo := Hid.mkV (show okL N y i j = (decide (y ≥ -4611686018427387903) && decide (y ≤ 4611686018427387903)) by unfold okL; rw [if_neg (by omega), if_neg (fun h => hij h.symm), notgreat])
                  clear hij
                  by_cases hy1 : y ≥ -4611686018427387903
                  · have e5 : decide (y ≥ -4611686018427387903) = true := decide_eq_true hy1
                    rw [e5] at eo
                    go_wp2
                    go_roundw
                    case rel => exact ⟨k + 1, by omega, by go_num, HEnd.out _ (by rw [eo.out, Bool.true_and]), t2, HT2.out⟩
                    case measure => simp [intOf]; omega
                  · have e5 : decide (y ≥ -4611686018427387903) = false := decide_eq_false hy1
                    rw [e5] at eo
                    go_wp2
                    go_roundw
                    case rel => exact ⟨k + 1, by omega, by go_num, HEnd.out _ (by rw [eo.out, Bool.false_and]), t2, HT2.out⟩
                    case measure => simp [intOf]; omega
        · obtain rfl : k = 36 := by omega
          have e1 : decide (((36 : Nat) : Int) < 36) = false := by decide
          have HT := Hid.mkV hT
          clear hT
          go_wp2
          go_meet
          exact ⟨by rw [HFB.out, ← HT.out], t, HT0.out⟩
  obtain ⟨rfl, t4, hw4⟩ := hcut
  rename World => w4
  have HR4 : Hid (FRow w4 g n z d) := by rw [hw4]; exact HR3.out
  have HK4 : Hid (Below w.heap.size w w4) := by rw [hw4]; exact Vc.below_drewN HK3.out _
  clear hw4 HR3 HK3 r3 k3
  go_step
  go_step
  obtain ⟨ff, hff⟩ : ∃ ff, ff = (fb && fD n.toNat d 6) := ⟨_, rfl⟩
  have HFF := Hid.mkV hff
  have HIN : Hid (fb = true → 1 ≤ n ∧ n ≤ 6) := fun h => by
    have := HFB.out
    rw [h] at this
    have := this.symm
    rw [Bool.and_eq_true] at this
    have := this.1
    unfold inr at this
    rw [decide_eq_true_iff] at this
    exact this
  clear hff
  go_cut [10, 15] (fun f _ wx => f = .bool ff ∧ w4 = wx)
  case first =>
    as_aux_lemma =>
      go_wp2
      go_loopw [10, 15] (fun f i wr => ∃ k : Nat, k ≤ 6 ∧ i = .int .i64 (k : Int) ∧ f = .bool (fb && fD n.toNat d k) ∧ wr = w4) (fun _ i _ => 6 - (intOf i).toNat)
      case atStart => exact ⟨0, by omega, rfl, by show _ = Value.bool (fb && true); rw [Bool.and_true], by first | rfl | trivial⟩
      case round =>
        obtain ⟨k, hk, rfl, rfl, rfl⟩ := hrel
        obtain ⟨T, hT⟩ : ∃ T, T = (fb && fD n.toNat d k) := ⟨_, rfl⟩
        rw [← hT]
        by_cases h : k < 6
        · have e1 : decide ((k : Int) < 6) = true := decide_eq_true (by omega)
          cases T
          · have HT := Hid.mkV hT
            clear hT
            go_wp2
            go_meet
            refine ⟨?_, rfl⟩
            rw [HFF.out]
            have e := HT.out
            cases es : fb with
            | false => rfl
            | true =>
              rw [es] at e
              rw [fD_false (show fD n.toNat d k = false from e.symm) hk]
              rfl
          · have hb : fb = true ∧ fD n.toNat d k = true := by
              have := hT.symm
              rw [Bool.and_eq_true] at this
              exact this
            have hin := HIN.out hb.1
            obtain ⟨N, rfl⟩ : ∃ N : Nat, n = N := ⟨n.toNat, by omega⟩
            have HB := Hid.mkV hb
            clear hb hT
            have cc := FRow.d HR4.out (k := k) (o := 37 + k) h (by omega)
            obtain ⟨y, hy⟩ : ∃ y, y = d k := ⟨_, rfl⟩
            rw [← hy] at cc
            have HY := Hid.mkV hy
            clear hy
            have i0 : (0 : Int) ≤ (k : Int) := by omega
            have i1 : (k : Int) < 6 := by omega
            have endr : ∀ b : Bool, okD N y k = b → Value.bool b = Value.bool (fb && fD ((N : Int)).toNat d (k + 1)) := fun b hb => by
              show _ = Value.bool (fb && (fD ((N : Int)).toNat d k && okD ((N : Int)).toNat (d k) k))
              rw [HB.out.1, HB.out.2, Int.toNat_natCast, ← HY.out, hb]
              rfl
            have HEnd := Hid.mkV endr
            clear endr
            by_cases hkN : k < N
            · have e2 : decide ((k : Int) < (N : Int)) = true := decide_eq_true (by omega)
              have e3 : decide ((k : Int) ≥ (N : Int)) = false := decide_eq_false (by omega)
              have eo : Hid (okD N y k = (decide (1 ≤ y) && decide (y ≤ 4611686018427387903))) := by unfold okD; exact if_neg (by omega)
              by_cases hy1 : 1 ≤ y
              · have e4 : decide (y ≥ 1) = true := decide_eq_true hy1
                by_cases hy2 : y ≤ 4611686018427387903
                · have e5 : decide (y ≤ 4611686018427387903) = true := decide_eq_true hy2
                  go_wp2
                  go_roundw
                  case rel => exact ⟨k + 1, by omega, by go_num, HEnd.out true (by rw [eo.out, decide_eq_true hy1, e5]; rfl), by first | rfl | trivial⟩
                  case measure => simp [intOf]; omega
                · have e5 : decide (y ≤ 4611686018427387903) = false := decide_eq_false hy2
                  go_wp2
                  go_roundw
                  case rel => exact ⟨k + 1, by omega, by go_num, HEnd.out false (by rw [eo.out, e5, Bool.and_false]), by first | rfl | trivial⟩
                  case measure => simp [intOf]; omega
              · have e4 : decide (y ≥ 1) = false := decide_eq_false hy1
                go_wp2
                go_roundw
                case rel => exact ⟨k + 1, by omega, by go_num, HEnd.out false (by rw [eo.out, decide_eq_false hy1, Bool.false_and]), by first | rfl | trivial⟩
                case measure => simp [intOf]; omega
            · have e2 : decide ((k : Int) < (N : Int)) = false := decide_eq_false (by omega)
              have e3 : decide ((k : Int) ≥ (N : Int)) = true := decide_eq_true (by omega)
              have eo : Hid (okD N y k = (y == 0)) := by unfold okD; exact if_pos (by omega)
              go_wp2
              go_roundw
              case rel => exact ⟨k + 1, by omega, by go_num, HEnd.out _ eo.out, by first | rfl | trivial⟩
              case measure => simp [intOf]; omega
        · obtain rfl : k = 6 := by omega
          have e1 : decide (((6 : Nat) : Int) < 6) = false := by decide
          have HT := Hid.mkV hT
          clear hT
          go_wp2
          go_meet
          exact ⟨by rw [HFF.out, ← HT.out], rfl⟩
  obtain ⟨rfl, rfl⟩ := hcut
  have HM : Hid (FMay n z d ↔ ff = true) := by
    show FMay n z d ↔ ff = true
    rw [may_f, HFF.out, HFB.out]
  clear HFF HFB HIN
  have K0 := HK4.out
  have m0 := HR4.out
  clear HK4 HR4
  cases ff
  · have hM : ¬ FMay n z d := fun h => by have := HM.out.1 h; cases this
    have HN := Hid.mkV hM
    have HC := fcheck_any n z d w4
    rw [resC_no hM] at HC
    have HCh := Hid.mkV HC
    clear hM HC
    go_wp2_with (first
      | (refine St.wpList_load isF (by rfl) _ (by rfl) _ _ (by rfl) (by with_reducible exact m0) (fvals_len _ _ _) ?_)
      | fail)
    refine HCh.out.mono ?_
    rintro e wa ⟨rfl, ka⟩
    have K1 := below_tr K0 ka
    have m1' := CRow.keep m0 ka
    go_wp2_with fail
    refine (num_err 1 _ (HE.out.below K1)).mono ?_
    rintro e wb ⟨rfl, kb⟩
    have K2 := below_tr K1 kb
    have m2' := CRow.keep m1' kb
    clear K0 K1 m0 m1' ka kb HCh
    have hm : ∃ m : Nat, max 0 (min n 6) = (m : Int) ∧ m ≤ 6 := ⟨(max 0 (min n 6)).toNat, by omega, by omega⟩
    obtain ⟨m, em, hm6⟩ := hm
    obtain ⟨q, hq⟩ : ∃ q, q = min n 6 := ⟨_, rfl⟩
    have eq' := hq.symm
    rw [eq'] at em
    clear hq
    obtain ⟨i0, hi, hz0, hz1, hz2⟩ := info_parts infoI64
    go_wp2_with (at_make; refine wpList_make_full _ rfl _ _ 22 rfl wb.heap.size 2 i0 (.int .i64 0) 1 Tryd.underlying22 hi hz0 hz1 _ _ _ _ m rfl rfl (by omega) (by omega) (by rw [hz2]; omega) (by unfold maxLen; omega) (Nat.le_refl _) ?_)
    intro w5 hown hgrow
    have hO := own_made hown hgrow (Nat.le_refl _)
    have K5 := below_tr K2 hO.below
    have m5 := CRow.keep m2' hO.below
    clear hown hgrow hO K2 m2'
    go_wp2_with (first
      | (refine St.wpList_load isF (by rfl) _ (by rfl) _ _ (by rfl) (by with_reducible exact m5) (fvals_len _ _ _) ?_)
      | fail)
    refine (lsolve_no n z d _ _ _ _ HN.out).mono ?_
    rintro e w6 ⟨rfl, k6⟩
    have m6 := CRow.keep m5 k6
    have K6 := below_tr K5 k6
    clear m5 K5 k6
    go_wp2_with (first
      | (refine St.wpList_load isF (by rfl) _ (by rfl) _ _ (by rfl) (by with_reducible exact m6) (fvals_len _ _ _) ?_)
      | fail)
    refine (lfar_no n z d _ _ _ _ HN.out).mono ?_
    rintro e w7 ⟨rfl, k7⟩
    have m7 := CRow.keep m6 k7
    have K7 := below_tr K6 k7
    clear m6 K6 k7
    go_wp2_with (first
      | (refine St.wpList_load isF (by rfl) _ (by rfl) _ _ (by rfl) (by with_reducible exact m7) (fvals_len _ _ _) ?_)
      | fail)
    refine (llog_no n z d _ HN.out).mono ?_
    rintro e w8 ⟨rfl, k8⟩
    have m8 := CRow.keep m7 k8
    have K8 := below_tr K7 k8
    clear m7 K7 k8
    go_wp2_with fail
    refine (num_err 1 _ (HE.out.below K8)).mono ?_
    rintro e w9 ⟨rfl, k9⟩
    have K9 := below_tr K8 k9
    clear K8 k9
    go_wp2_with fail
    refine (num_err 1 _ (HE.out.below K9)).mono ?_
    rintro e w10 ⟨rfl, k10⟩
    have K10 := below_tr K9 k10
    clear K9 k10
    go_wp2_with fail
    refine (num_err 1 _ (HE.out.below K10)).mono ?_
    rintro e w11 ⟨rfl, k11⟩
    have K11 := below_tr K10 k11
    clear K10 k11
    go_wp2_with fail
    refine (lsure_any _).mono ?_
    rintro e w12 ⟨rfl, k12⟩
    have K12 := below_tr K11 k12
    go_wp2
    go_ret
    exact ⟨rfl, K12⟩
  · have hM : FMay n z d := HM.out.2 rfl
    have HC := fcheck_any n z d w4
    rw [resC_yes hM] at HC
    have HCh := Hid.mkV HC
    obtain ⟨N, L, rfl, ef, hM', bL⟩ := may_rows hM
    have hN := FMay.n hM'
    rw [ef] at HCh
    have m0' : FRow w4 g N (mz N N L) d := by unfold FRow CRow at m0 ⊢; rw [← ef]; exact m0
    have HS := Hid.mkV (fun vo vc W (hv : Sl W vo N vc (fun _ => 0)) => lsolve_any N vo vc (fun _ => 0) L d W hM' hv b64_zero bL)
    have HF := Hid.mkV (fun vo vc W (hv : Sl W vo N vc (fun _ => 0)) => lfar_any N vo vc (fun _ => 0) L d W hM' hv b64_zero bL)
    have HL := Hid.mkV (fun W => llog_any N (mz N N L) d W hM')
    obtain ⟨y, hy⟩ : ∃ y, y = mz N N L := ⟨_, rfl⟩
    rw [← hy] at HCh m0' HS HF HL
    clear hM HC ef m0 hM' bL hy HM
    go_wp2_with (first
      | (refine St.wpList_load isF (by rfl) _ (by rfl) _ _ (by rfl) (by with_reducible exact m0') (fvals_len _ _ _) ?_)
      | fail)
    refine HCh.out.mono ?_
    rintro e wa ⟨rfl, ka⟩
    have K1 := below_tr K0 ka
    have m1' := CRow.keep m0' ka
    clear K0 m0' ka HCh
    have em1 : min (N : Int) 6 = (N : Int) := by omega
    have em2 : max 0 (N : Int) = (N : Int) := by omega
    obtain ⟨i0, hi, hz0, hz1, hz2⟩ := info_parts infoI64
    go_wp2_with (at_make; refine wpList_make_full _ rfl _ _ 22 rfl wa.heap.size 2 i0 (.int .i64 0) 1 Tryd.underlying22 hi hz0 hz1 _ _ _ _ N rfl rfl (by omega) (by omega) (by rw [hz2]; omega) (by unfold maxLen; omega) (Nat.le_refl _) ?_)
    intro w5 hown hgrow
    have hO := own_made hown hgrow (Nat.le_refl _)
    have K5 := below_tr K1 hO.below
    have m5 := CRow.keep m1' hO.below
    obtain ⟨ao, ca, ea, sl5⟩ := hO.sl
    cases ea
    clear hown hgrow hO K1 m1'
    go_wp2_with (first
      | (refine St.wpList_load isF (by rfl) _ (by rfl) _ _ (by rfl) (by with_reducible exact m5) (fvals_len _ _ _) ?_)
      | fail)
    refine (HS.out _ _ _ sl5).mono ?_
    rintro e w6 ⟨bb, rfl, _, _, k6⟩
    have m6 := CRow.keep m5 k6
    have K6 := below_tr K5 k6
    have sl6 := sl5.keep k6
    clear m5 K5 k6 sl5
    go_wp2_with (first
      | (refine St.wpList_load isF (by rfl) _ (by rfl) _ _ (by rfl) (by with_reducible exact m6) (fvals_len _ _ _) ?_)
      | fail)
    refine (HF.out _ _ _ sl6).mono ?_
    rintro e w7 ⟨rfl, k7⟩
    have m7 := CRow.keep m6 k7
    have K7 := below_tr K6 k7
    clear m6 K6 k7 sl6
    go_wp2_with (first
      | (refine St.wpList_load isF (by rfl) _ (by rfl) _ _ (by rfl) (by with_reducible exact m7) (fvals_len _ _ _) ?_)
      | fail)
    refine (HL.out _).mono ?_
    rintro e w8 ⟨rfl, k8⟩
    have K8 := below_tr K7 k8
    clear m7 K7 k8
    go_wp2_with fail
    refine (lsure_any _).mono ?_
    rintro e w12 ⟨rfl, k12⟩
    have K12 := below_tr K8 k12
    go_wp2
    go_ret
    exact ⟨rfl, K12⟩

theorem walk9 : FLdlRaw.Walk := by
  intro a0 a1 len1 cap1 z1 a2 len2 cap2 z2 w h0 h1 h2 hE
  have h0' := bounds_i64 h0
  exact lraw_any a0 a1 a2 len1 cap1 len2 cap2 z1 z2 w h0'.1 h0'.2 (isrow9 h1) (isrow9 h2) hE

theorem ldlRaw_holds : Rows.LdlRawCardSaid := FLdlRaw.card walk9

end Go.Proofs.YtfgjigkgfflofaaDoorR
