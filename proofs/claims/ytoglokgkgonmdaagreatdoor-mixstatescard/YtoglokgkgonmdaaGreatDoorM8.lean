/-
  The document's answer of layer 8 (radomeref08): May, Eye, Turn, Alike, Apply, Mul.
-/
import Derived.Test.YtoglokgkgonmdaaGreatDoorM7
import Derived.Test.YtoglokgkgonmdaaGreatDoorM5
import Derived.Deep.RegionHeld3
import Derived.Deep.CutRange
import Derived.Deep.DeepCutAuto
import Derived.Test.YtoglokgkgonmdaaGreatDoorM3
import Derived.Test.YtoglokgkgonmdaaGreatDoorM1
import Derived.Test.YtoglokgkgonmdaaGreatDoorM2
import Derived.BigQuiet
set_option linter.unusedSimpArgs false
set_option linter.unusedVariables false
namespace Go.Proofs.YtoglokgkgonmdaaGreatDoor
open Go.RowKit Vc Mt Dt
set_option maxRecDepth 10000 in
set_option maxHeartbeats 1000000 in
theorem rmay_yes (n m cm : Nat) (lo : Option Addr) (A : Nat → Option Addr) (C : Nat → Nat) (w : World) (h : Sls w lo n cm A (fun _ => m) C) (h1 : 1 ≤ n) (h2 : n ≤ 6) (h3 : 1 ≤ m) (h4 : m ≤ 6) :
  Calls Tryz.prog 100 #[.slice lo n cm] w fun e w' => e = .returned (.bool true) ∧ Below w.heap.size w w' := by
 obtain ⟨x, hlo, hcl⟩ := h.get
 obtain rfl := hlo (by omega)
 have c0 : w.cell? x = some (.slice (A 0) m (C 0)) := hcl 0 (by omega)
 have l1 := h.le
 have l2 := h.cap
 have HC := Hid.mkV hcl
 have e1 : decide ((n : Int) < 1) = false := decide_eq_false (by omega)
 have e2 : decide ((n : Int) > 6) = false := decide_eq_false (by omega)
 have e3 : decide ((m : Int) < 1) = false := decide_eq_false (by omega)
 have e4 : decide ((m : Int) > 6) = false := decide_eq_false (by omega)
 clear h hlo hcl
 go_enter Tryz.func100, Tryz.ntmps100
 go_wp2
 go_loopw [3] (fun i wr => ∃ k : Nat, k ≤ n ∧ i = .int .i64 (k : Int) ∧ Below w.heap.size w wr) (fun i _ => n - (intOf i).toNat)
 case atStart => exact ⟨0, by omega, rfl, Below.refl _ _⟩
 case round =>
  obtain ⟨k, hk, rfl, hbel⟩ := hrel
  by_cases h : k < n
  ·have c1 := keep_cell hbel (HC.out k h)
   have c0' := keep_cell hbel c0
   go_wp2
   go_quiet (fail)
   go_wp2
   go_roundw
   case rel => exact ⟨k + 1, by omega, by go_num, Vc.below_drewN hbel _⟩
   case measure => simp [intOf]; omega
  ·obtain rfl : k = n := by omega
   go_wp2
   go_ret
   exact ⟨rfl, hbel⟩
set_option maxRecDepth 10000 in
set_option maxHeartbeats 1000000 in
theorem rmay_rows (n cm : Nat) (lo : Option Addr) (w : World) (hn : n ≤ 9223372036854775807) (h : n < 1 ∨ 6 < n) :
    Calls Tryz.prog 100 #[.slice lo n cm] w fun e w' => e = .returned (.bool false) ∧ Below w.heap.size w w' := by
  by_cases h0 : n < 1
  · have e1 : decide ((n : Int) < 1) = true := decide_eq_true (by omega)
    go_enter Tryz.func100, Tryz.ntmps100
    go_wp2
    go_ret
    exact ⟨rfl, Below.refl _ _⟩
  · have e1 : decide ((n : Int) < 1) = false := decide_eq_false (by omega)
    have e2 : decide ((n : Int) > 6) = true := decide_eq_true (by omega)
    clear h h0
    go_enter Tryz.func100, Tryz.ntmps100
    go_wp2
    go_ret
    exact ⟨rfl, Below.refl _ _⟩
set_option maxRecDepth 10000 in
set_option maxHeartbeats 1000000 in
theorem rmay_cols (n cm : Nat) (lo : Option Addr) (A : Nat → Option Addr) (L C : Nat → Nat) (w : World) (h : Sls w lo n cm A L C) (h1 : 1 ≤ n) (h2 : n ≤ 6) (hL : L 0 ≤ 9223372036854775807) (hb : L 0 < 1 ∨ 6 < L 0) :
    Calls Tryz.prog 100 #[.slice lo n cm] w fun e w' => e = .returned (.bool false) ∧ Below w.heap.size w w' := by
  obtain ⟨x, hlo, hcl⟩ := h.get
  obtain rfl := hlo (by omega)
  have c0 : w.cell? x = some (.slice (A 0) (L 0) (C 0)) := hcl 0 (by omega)
  have l1 := h.le
  have l2 := h.cap
  have e1 : decide ((n : Int) < 1) = false := decide_eq_false (by omega)
  have e2 : decide ((n : Int) > 6) = false := decide_eq_false (by omega)
  obtain ⟨m, hm⟩ : ∃ m, m = L 0 := ⟨_, rfl⟩
  rw [← hm] at c0 hL hb
  clear h hlo hcl hm
  by_cases h0 : m < 1
  · have e3 : decide ((m : Int) < 1) = true := decide_eq_true (by omega)
    clear h0 hb
    go_enter Tryz.func100, Tryz.ntmps100
    go_wp2
    go_ret
    exact ⟨rfl, Below.refl _ _⟩
  · have e3 : decide ((m : Int) < 1) = false := decide_eq_false (by omega)
    have e4 : decide ((m : Int) > 6) = true := decide_eq_true (by omega)
    clear h0 hb
    go_enter Tryz.func100, Tryz.ntmps100
    go_wp2
    go_ret
    exact ⟨rfl, Below.refl _ _⟩
set_option maxRecDepth 10000 in
set_option maxHeartbeats 1000000 in
theorem rmay_other (n cm q : Nat) (lo : Option Addr) (A : Nat → Option Addr) (L C : Nat → Nat) (w : World) (h : Sls w lo n cm A L C) (h1 : 1 ≤ n) (h2 : n ≤ 6) (h3 : 1 ≤ L 0) (h4 : L 0 ≤ 6) (hl : ∀ k, k < n → L k ≤ 9223372036854775807) (hq : q < n) (hbad : L q ≠ L 0) (hok : ∀ k, k < q → L k = L 0) :
  Calls Tryz.prog 100 #[.slice lo n cm] w fun e w' => e = .returned (.bool false) ∧ Below w.heap.size w w' := by
 obtain ⟨x, hlo, hcl⟩ := h.get
 obtain rfl := hlo (by omega)
 have c0 : w.cell? x = some (.slice (A 0) (L 0) (C 0)) := hcl 0 (by omega)
 have l1 := h.le
 have l2 := h.cap
 have HC := Hid.mkV hcl
 have HL := Hid.mkV hl
 have HBAD := Hid.mkV hbad
 have HOK := Hid.mkV hok
 obtain ⟨m, hm⟩ : ∃ m, m = L 0 := ⟨_, rfl⟩
 rw [← hm] at c0 h3 h4
 have HN := Hid.mkV hm
 have e1 : decide ((n : Int) < 1) = false := decide_eq_false (by omega)
 have e2 : decide ((n : Int) > 6) = false := decide_eq_false (by omega)
 have e3 : decide ((m : Int) < 1) = false := decide_eq_false (by omega)
 have e4 : decide ((m : Int) > 6) = false := decide_eq_false (by omega)
 clear h hlo hcl hm hl hbad hok
 go_enter Tryz.func100, Tryz.ntmps100
 go_wp2
 go_loopw [3] (fun i wr => ∃ k : Nat, k ≤ q ∧ i = .int .i64 (k : Int) ∧ Below w.heap.size w wr) (fun i _ => n - (intOf i).toNat)
 case atStart => exact ⟨0, by omega, rfl, Below.refl _ _⟩
 case round =>
  obtain ⟨k, hk, rfl, hbel⟩ := hrel
  have h : k < n := by omega
  have c1 := keep_cell hbel (HC.out k h)
  have c0' := keep_cell hbel c0
  have b1 := HL.out k h
  by_cases hkq : k = q
  ·have hh := HBAD.out
   rw [← HN.out, ← hkq] at hh
   obtain ⟨l, hl⟩ : ∃ l, l = L k := ⟨_, rfl⟩
   rw [← hl] at c1 b1 hh
   have e4 : (((l : Nat) : Int) != ((m : Nat) : Int)) = true := by rw [bne_iff_ne]; omega
   clear hl hkq hh
   go_wp2
   go_quiet (fail)
   go_wp2
   go_ret
   exact ⟨rfl, Vc.below_drewN hbel _⟩
  ·have hh := HOK.out k (by omega)
   rw [hh, ← HN.out] at c1
   clear hh
   go_wp2
   go_quiet (fail)
   go_wp2
   go_roundw
   case rel => exact ⟨k + 1, by omega, by go_num, Vc.below_drewN hbel _⟩
   case measure => simp [intOf]; omega
end Go.Proofs.YtoglokgkgonmdaaGreatDoor
namespace Go.Proofs.YtoglokgkgonmdaaGreatDoor
open Go.RowKit Vc Mt Dt
set_option maxRecDepth 10000 in
set_option maxHeartbeats 1000000 in
theorem rmadd_no (n m ca cb : Nat) (ao bo : Option Addr) (F G : Nat → Nat → Int) (w : World) (h1 : 1 ≤ n) (h2 : n ≤ 6) (h3 : 1 ≤ m) (h4 : m ≤ 6) (ga : Grid w ao n ca m F) (gb : Grid w bo n cb m G) (hF : B2 F) (hG : B2 G) :
    Calls Tryz.prog 34 #[.slice ao n ca, .slice bo n cb, .bool false] w fun e w' => ∃ lo cm, e = .returned (.tuple #[.slice lo n cm, .bool (any2 (fun i j => Qn.great (F i j + G i j)) n m)]) ∧ Grid w' lo n cm m (fun i j => Qn.clamp (F i j + G i j)) ∧ Below w.heap.size w w' := by
  obtain ⟨A, C, h, hz⟩ := ga
  obtain ⟨x, hlo, hcl⟩ := h.get
  obtain rfl := hlo (by omega)
  have l1 := h.le
  have l2 := h.cap
  have HC := Hid.mkV hcl
  obtain ⟨A', C', h', hz'⟩ := gb
  obtain ⟨x', hlo', hcl'⟩ := h'.get
  obtain rfl := hlo' (by omega)
  have l1' := h'.le
  have l2' := h'.cap
  have HC' := Hid.mkV hcl'
  have HM : Hid (∀ i, i < n → ∀ W, Below w.heap.size w W → Calls Tryz.prog 32 #[.slice (A i) m (C i), .slice (A' i) m (C' i), .bool false] W fun e w' =>
      ∃ co cc, e = .returned (.tuple #[.slice co m cc, .bool (anyb ((fun i j => Qn.great (F i j + G i j)) i) m)]) ∧ Own W.heap.size W w' (.slice co m cc) m ((fun i j => Qn.clamp (F i j + G i j)) i)) :=
    fun i hi W b => radd_no_own m (C i) (C' i) (A i) (A' i) (F i) (G i) W h4 ((hz i hi).keep b) ((hz' i hi).keep b) (hF i) (hG i)
  obtain ⟨R, hR⟩ : ∃ R : Nat → Nat → Int, R = fun i j => Qn.clamp (F i j + G i j) := ⟨_, rfl⟩
  obtain ⟨H, hH⟩ : ∃ H : Nat → Nat → Bool, H = fun i j => Qn.great (F i j + G i j) := ⟨_, rfl⟩
  rw [← hR, ← hH] at HM
  rw [← hR, ← hH]
  clear hR hH h hlo hcl hz h' hlo' hcl' hz' hF hG
  go_enter Tryz.func34, Tryz.ntmps34
  go_wp2
  go_loopw [8, 9, 10] (fun out an i wr => ∃ k : Nat, k ≤ n ∧ i = .int .i64 (k : Int) ∧ an = .bool (any2 H k m) ∧ Lst w.heap.size w wr out k m R) (fun _ _ i _ => n - (intOf i).toNat)
  case atStart => exact ⟨0, by omega, rfl, rfl, Lst.nil (Below.refl _ _) (Nat.le_refl _) _ _⟩
  case round =>
    rename World => wo
    obtain ⟨k, hk, rfl, rfl, hL⟩ := hrel
    have kk := hL.below
    by_cases h : k < n
    · have c1 := keep_cell kk (HC.out k h)
      have c2 := keep_cell kk (HC'.out k h)
      have HA := Hid.mkV (any2_row H k m)
      have HCC := Hid.mkV (fun W (b : Below wo.heap.size wo W) => HM.out k h W (below_tr kk b))
      obtain ⟨g, hg⟩ : ∃ g, g = anyb (H k) m := ⟨_, rfl⟩
      obtain ⟨T, hT⟩ : ∃ T, T = any2 H k m := ⟨_, rfl⟩
      obtain ⟨ak, hak⟩ : ∃ ak, ak = A k := ⟨_, rfl⟩
      obtain ⟨ck, hck⟩ : ∃ ck, ck = C k := ⟨_, rfl⟩
      obtain ⟨bk, hbk⟩ : ∃ bk, bk = A' k := ⟨_, rfl⟩
      obtain ⟨dk', hdk⟩ : ∃ dk', dk' = C' k := ⟨_, rfl⟩
      rw [← hg, ← hak, ← hck, ← hbk, ← hdk] at HCC
      rw [← hak, ← hck] at c1
      rw [← hbk, ← hdk] at c2
      rw [← hT, ← hg] at HA
      rw [← hT]
      clear hg hT hak hck hbk hdk
      go_wp2
      go_region_held3 (fun w' => w'.cell? (x.add k) = some (.slice ak m ck) ∧ w'.cell? (x'.add k) = some (.slice bk m dk'))
        (first
          | (refine ⟨keep_cell (W := wo) ?_ c1, keep_cell (W := wo) ?_ c2⟩ <;> first | with_reducible exact Below.refl _ _ | with_reducible exact Vc.below_drew' _ | with_reducible exact kq))
        (first
          | (go_at_call 32; refine (HCC.out _ (Vc.below_drew' _)).mono ?_; rintro e w2 ⟨co, cc, rfl, ho⟩
             have kq : Below wo.heap.size wo w2 := below_tr (Vc.below_drew' _) ho.below
             have hL2 := hL.keep kq
             obtain ⟨co', cc', e1, s2, f2⟩ := own_fresh ho
             injection e1 with ea _ ec
             subst ea ec
             have HS := Hid.mkV s2
             have HAP := Hid.mkV (hL.apart (Vc.below_drew' _).size f2)
             clear s2 f2 ho))
      all_goals cases T
      all_goals go_wp2_with (at_builtin; refine wpList_pushS (by rfl) (.tmp 32) (.tmp 34) (by rfl) w.heap.size w _ k m R (by rfl) hL2 (by omega) (by omega) _ _ HS.out HAP.out (by rfl) ?_)
      all_goals intro v' w' hL'
      all_goals go_wp2
      all_goals go_roundw
      all_goals first
        | (simp [intOf]; omega)
        | exact ⟨k + 1, by omega, by go_num, by rw [← HA.out]; first | rfl | simp, hL'⟩
    · obtain rfl : k = n := by omega
      obtain ⟨lo, cm, rfl, hG⟩ := hL.grid
      go_wp2
      go_ret2
      exact ⟨lo, cm, rfl, hG, kk⟩
namespace Mt
theorem run_bit (x : Addr) (n ca i : Nat) (w : World) (hi : i < n) (hn : n ≤ ca) : (Instr.slice 22 (.slice (some x) n ca) (some (.int .i64 (i : Int))) (some (.int .i64 ((i : Int) + 1))) none).run Tryz.prog w = .ok (.slice (some (x.add i)) 1 (ca - i)) w := by
  have hu : Tryz.prog.underlying 22 = some (.slice (Tryz.prog.elem 22)) := by kernel_rfl
  have he : Tryz.prog.elem 22 = 2 := by kernel_rfl
  rw [run_slice_lh w 22 (some x) n ca hu .i64 .i64 _ _ (by omega) (by omega) (by omega), he, run_size8]
  have e1 : ((i : Int) + 1).toNat = i + 1 := by omega
  simp only [Result.andThen_ok, sliced, Int.toNat_natCast, e1, Nat.mul_one]
  have e2 : i + 1 - i = 1 := by omega
  rw [e2]
  first
    | rfl
    | (rw [if_neg (by omega)]; rfl)
    | simp [show ca ≠ i by omega]
theorem Sl.bit {w : World} {x : Addr} {n ca i : Nat} {z : Nat → Int} (h : Sl w (some x) n ca z) (hi : i < n) : Sl w (some (x.add i)) 1 (ca - i) (fun _ => z i) := by
  have h1 := h.le
  have h2 := h.cap
  refine ⟨by omega, by omega, fun k hk => ⟨_, rfl, ?_⟩⟩
  obtain rfl : k = 0 := by omega
  obtain ⟨y, hy, hc⟩ := h.at' i hi
  cases hy
  exact hc
end Mt
set_option maxRecDepth 10000 in
set_option maxHeartbeats 1000000 in
theorem router_any (n m ca cb : Nat) (ao bo : Option Addr) (a b : Nat → Int) (w : World) (h1 : 1 ≤ n) (h2 : n ≤ 6) (h3 : 1 ≤ m) (h4 : m ≤ 6) (ha : Sl w ao n ca a) (hb : Sl w bo m cb b) (ba : B64 a) (bb : B64 b) :
    Calls Tryz.prog 33 #[.slice ao n ca, .slice bo m cb] w fun e w' => ∃ lo cm, e = .returned (.tuple #[.slice lo n cm, .bool (any2 (fun i j => Qn.great (Qn.rne (a i * b j) (2 ^ 20))) n m)]) ∧ Grid w' lo n cm m (fun i j => Qn.clamp (Qn.rne (a i * b j) (2 ^ 20))) ∧ Below w.heap.size w w' := by
  obtain ⟨x, hao, hca⟩ := ha.get
  obtain ⟨y, hbo, hcb⟩ := hb.get
  obtain rfl := hao (by omega)
  obtain rfl := hbo (by omega)
  have l1 := ha.le
  have l2 := ha.cap
  have l3 := hb.le
  have l4 := hb.cap
  have HD : Hid (∀ i j, i < n → j < m → ∀ W, Below w.heap.size w W → Calls Tryz.prog 65 #[.slice (some (x.add i)) 1 (ca - i), .slice (some (y.add j)) 1 (cb - j), .int .i64 20] W fun e w' => e = .returned (.tuple #[.int .i64 ((fun i j => Qn.clamp (Qn.rne (a i * b j) (2 ^ 20))) i j), .bool ((fun i j => Qn.great (Qn.rne (a i * b j) (2 ^ 20))) i j)]) ∧ Below W.heap.size W w') := by
    intro i j hi hj W k
    have h := ldot_sl _ _ 1 _ _ (fun _ => a i) (fun _ => b j) 20 20 W rfl (by omega) (Sl.bit (ha.keep k) hi) (Sl.bit (hb.keep k) hj) (fun _ => ba i) (fun _ => bb j) (by omega)
    have e1 : dk (fun _ => a i) (fun _ => b j) 1 = a i * b j := by show 0 + a i * b j = _; omega
    rw [e1] at h
    exact h
  obtain ⟨R, hR⟩ : ∃ R : Nat → Nat → Int, R = fun i j => Qn.clamp (Qn.rne (a i * b j) (2 ^ 20)) := ⟨_, rfl⟩
  obtain ⟨H, hH⟩ : ∃ H : Nat → Nat → Bool, H = fun i j => Qn.great (Qn.rne (a i * b j) (2 ^ 20)) := ⟨_, rfl⟩
  rw [← hR, ← hH] at HD
  rw [← hR, ← hH]
  clear hR hH hao hbo hca hcb ha hb ba bb
  go_enter Tryz.func33, Tryz.ntmps33
  go_wp2
  go_loopw [6, 7, 8] (fun out an i wr => ∃ k : Nat, k ≤ n ∧ i = .int .i64 (k : Int) ∧ an = .bool (any2 H k m) ∧ Lst w.heap.size w wr out k m R) (fun _ _ i _ => n - (intOf i).toNat)
  case atStart => exact ⟨0, by omega, rfl, rfl, Lst.nil (Below.refl _ _) (Nat.le_refl _) _ _⟩
  case round =>
    rename World => wo
    obtain ⟨k, hk, rfl, rfl, hL⟩ := hrel
    have kk := hL.below
    by_cases h : k < n
    · have e1 := fun W => run_bit x n ca k W h l1
      have e3 : IntKind.i64.wrap ((k : Int) + 1) = (k : Int) + 1 := by rw [IntKind.wrap_i64]; omega
      go_wp2
      go_loopw [7, 9, 10] (fun an ps j ws => ∃ t : Nat, t ≤ m ∧ j = .int .i64 (t : Int) ∧ an = .bool (any2 H k m || anyb (H k) t) ∧ Own wo.heap.size wo ws ps t (R k)) (fun _ _ j _ => m - (intOf j).toNat)
      case atStart => exact ⟨0, by omega, rfl, by show _ = Value.bool (any2 H k m || false); rw [Bool.or_false], Own.nil (Below.refl _ _) (Nat.le_refl _) _⟩
      case round =>
        rename World => wi
        obtain ⟨t, ht, rfl, rfl, hown⟩ := hrel
        obtain ⟨T, hT⟩ : ∃ T, T = (any2 H k m || anyb (H k) t) := ⟨_, rfl⟩
        have kk2 := below_tr kk hown.below
        by_cases h5 : t < m
        · have e2 := fun W => run_bit y m cb t W h5 l3
          have e4 : IntKind.i64.wrap ((t : Int) + 1) = (t : Int) + 1 := by rw [IntKind.wrap_i64]; omega
          have HA := Hid.mkV (any2_col H k t m)
          have HCC := Hid.mkV (fun W (b : Below wi.heap.size wi W) => HD.out k t h h5 W (below_tr kk2 b))
          obtain ⟨r, hr⟩ : ∃ r, r = R k t := ⟨_, rfl⟩
          obtain ⟨g, hg⟩ : ∃ g, g = H k t := ⟨_, rfl⟩
          rw [← hr, ← hg] at HCC
          rw [← hT, ← hg] at HA
          rw [← hT]
          have HR := Hid.mkV hr
          clear hr hg hT
          go_wp2
          go_region_held3 (fun w' => True) (exact trivial)
            (first
              | (go_at_call 65; refine (HCC.out _ (Vc.below_drew' _)).mono ?_; rintro e w2 ⟨rfl, k2⟩
                 have kq : Below wi.heap.size wi w2 := below_tr (Vc.below_drew' _) k2
                 have hown2 := hown.keep kq))
          all_goals cases T
          all_goals go_wp2_with (at_builtin; refine wpList_push (by rfl) (.tmp 39) (.tmp 41) (by rfl) wo.heap.size wo _ t (R k) (by rfl) hown2 (by omega) r (by exact HR.out) (by rfl) ?_)
          all_goals intro v' w' hown'
          all_goals go_wp2
          all_goals go_roundw
          all_goals first
            | (simp [intOf]; omega)
            | exact ⟨t + 1, by omega, by go_num, by rw [HA.out]; first | rfl | simp, hown'⟩
        · obtain rfl : t = m := by omega
          obtain ⟨po, pc, rfl, hps, hpf⟩ := own_fresh hown
          have hL2 := hL.keep hown.below
          have HS := Hid.mkV hps
          have HAP := Hid.mkV (hL.apart (Nat.le_refl _) hpf)
          rw [← hT]
          have HT := Hid.mkV hT
          clear hps hpf hown hT
          go_wp2_with (at_builtin; refine wpList_pushS (by rfl) (.tmp 47) (.tmp 49) (by rfl) w.heap.size w _ k _ R (by rfl) hL2 (by omega) (by omega) po pc HS.out HAP.out (by rfl) ?_)
          intro v' w' hL'
          go_wp2
          go_roundw
          case rel => exact ⟨k + 1, by omega, by go_num, by rw [HT.out, any2_row], hL'⟩
          case measure => simp [intOf]; omega
    · obtain rfl : k = n := by omega
      obtain ⟨lo, cm, rfl, hG⟩ := hL.grid
      go_wp2
      go_ret2
      exact ⟨lo, cm, rfl, hG, kk⟩
namespace Mt
theorem dk_duo (a b : Int) : dk (fun k => if k = 0 then a else b) (fun k => if k = 0 then 1 else 1) 2 = a + b := by
  show 0 + a * 1 + b * 1 = a + b
  omega
theorem sl_two {w : World} {x : Addr} {a b : Int} (h : w.cell? x = some (.int .i64 a)) (h2 : w.cell? (x.add 1) = some (.int .i64 b)) : Sl w (some x) 2 2 (fun k => if k = 0 then a else b) :=
  ⟨Nat.le_refl _, by omega, fun k hk => ⟨x, rfl, by
    match k, hk with
    | 0, _ => exact h
    | 1, _ => exact h2⟩⟩
end Mt
theorem rhalf_any (a b : Int) (x y : Addr) (w : World) (ca : w.cell? x = some (.int .i64 a)) (cb : w.cell? (x.add 1) = some (.int .i64 b)) (d0 : w.cell? y = some (.int .i64 1)) (d1 : w.cell? (y.add 1) = some (.int .i64 1)) (ha0 : -9223372036854775808 ≤ a) (ha1 : a ≤ 9223372036854775807) (hb0 : -9223372036854775808 ≤ b) (hb1 : b ≤ 9223372036854775807) :
    Calls Tryz.prog 65 #[.slice (some x) 2 2, .slice (some y) 2 2, .int .i64 1] w fun e w' => e = .returned (.tuple #[.int .i64 (Qn.clamp (Qn.rne (a + b) (2 ^ 1))), .bool (Qn.great (Qn.rne (a + b) (2 ^ 1)))]) ∧ Below w.heap.size w w' := by
  have h := ldot_sl (some x) (some y) 2 2 2 (fun k => if k = 0 then a else b) (fun k => if k = 0 then 1 else 1) 1 1 w rfl (by omega) (sl_two ca cb) (sl_two d0 d1) (fun k => by show _ ≤ (if k = 0 then a else b) ∧ (if k = 0 then a else b) ≤ _; split <;> exact ⟨by assumption, by assumption⟩) (fun k => by show _ ≤ (if k = 0 then (1 : Int) else 1) ∧ (if k = 0 then (1 : Int) else 1) ≤ _; split <;> omega) (by omega)
  rw [dk_duo a b] at h
  exact h
end Go.Proofs.YtoglokgkgonmdaaGreatDoor
namespace Go.Proofs.YtoglokgkgonmdaaGreatDoor
open Go.RowKit Vc Mt Dt
set_option maxRecDepth 10000 in
set_option maxHeartbeats 1000000 in
theorem reven_own (n cm : Nat) (lo : Option Addr) (F : Nat → Nat → Int) (w : World) (h1 : 1 ≤ n) (h2 : n ≤ 6) (hg : Grid w lo n cm n F) (hF : B2 F) :
    Calls Tryz.prog 35 #[.slice lo n cm] w fun e w' => ∃ L' cm' G' C', e = .returned (.tuple #[.slice (some ⟨L', 0, none⟩) n cm', .bool (any2 (fun i j => Qn.great (Qn.rne (F i j + F j i) (2 ^ 1))) n n)]) ∧ RwcAt w.heap.size w w' L' cm' G' C' n n (fun i j => Qn.clamp (Qn.rne (F i j + F j i) (2 ^ 1))) := by
  obtain ⟨A, C, h, hz⟩ := hg
  obtain ⟨x, hlo, hcl⟩ := h.get
  obtain rfl := hlo (by omega)
  have l1 := h.le
  have l2 := h.cap
  have HC := Hid.mkV hcl
  have HZ := Hid.mkV hz
  have HD := Hid.mkV (fun i j p q W ca cb d0 d1 => rhalf_any (F i j) (F j i) p q W ca cb d0 d1 (hF i j).1 (hF i j).2 (hF j i).1 (hF j i).2)
  obtain ⟨R, hR⟩ : ∃ R : Nat → Nat → Int, R = fun i j => Qn.clamp (Qn.rne (F i j + F j i) (2 ^ 1)) := ⟨_, rfl⟩
  obtain ⟨H, hH⟩ : ∃ H : Nat → Nat → Bool, H = fun i j => Qn.great (Qn.rne (F i j + F j i) (2 ^ 1)) := ⟨_, rfl⟩
  have HD' : Hid (∀ (i j : Nat) (p q : Addr) (W : World), W.cell? p = some (.int .i64 (F i j)) → W.cell? (p.add 1) = some (.int .i64 (F j i)) → W.cell? q = some (.int .i64 1) → W.cell? (q.add 1) = some (.int .i64 1) →
      Calls Tryz.prog 65 #[.slice (some p) 2 2, .slice (some q) 2 2, .int .i64 1] W fun e w' => e = .returned (.tuple #[.int .i64 (R i j), .bool (H i j)]) ∧ Below W.heap.size W w') := by rw [hR, hH]; exact HD.out
  rw [← hR, ← hH]
  clear hR hH HD h hlo hcl hz hF
  go_enter Tryz.func35, Tryz.ntmps35
  go_wp2
  go_loopw [4, 5, 6] (fun out an i wr => ∃ k : Nat, k ≤ n ∧ i = .int .i64 (k : Int) ∧ an = .bool (any2 H k n) ∧ Rwc w.heap.size w wr out k n R) (fun _ _ i _ => n - (intOf i).toNat)
  case atStart => exact ⟨0, by omega, rfl, rfl, Rwc.nil (Below.refl _ _) (Nat.le_refl _) _ _⟩
  case round =>
    rename World => wo
    obtain ⟨k, hk, rfl, rfl, hL⟩ := hrel
    have kk := hL.below
    by_cases h : k < n
    · go_wp2
      go_loopw [5, 7, 8] (fun an ps j ws => ∃ t : Nat, t ≤ n ∧ j = .int .i64 (t : Int) ∧ an = .bool (any2 H k n || anyb (H k) t) ∧ Own wo.heap.size wo ws ps t (R k)) (fun _ _ j _ => n - (intOf j).toNat)
      case atStart => exact ⟨0, by omega, rfl, by show _ = Value.bool (any2 H k n || false); rw [Bool.or_false], Own.nil (Below.refl _ _) (Nat.le_refl _) _⟩
      case round =>
        rename World => wi
        obtain ⟨t, ht, rfl, rfl, hown⟩ := hrel
        obtain ⟨T, hT⟩ : ∃ T, T = (any2 H k n || anyb (H k) t) := ⟨_, rfl⟩
        have kk2 := below_tr kk hown.below
        by_cases h5 : t < n
        · have c1 := keep_cell kk2 (HC.out k h)
          have c2 := keep_cell kk2 (HC.out t h5)
          obtain ⟨ya, hya, hyc⟩ := (HZ.out k h).get
          obtain ⟨yb, hyb, hyd⟩ := (HZ.out t h5).get
          have d1 := keep_cell kk2 (hyc t h5)
          have d2 := keep_cell kk2 (hyd k h)
          rw [hya (by omega)] at c1
          rw [hyb (by omega)] at c2
          have l5 := (HZ.out k h).le
          have l6 := (HZ.out k h).cap
          have l7 := (HZ.out t h5).le
          have l8 := (HZ.out t h5).cap
          have HA := Hid.mkV (any2_col H k t n)
          have HCC := Hid.mkV (HD'.out k t)
          obtain ⟨r, hr⟩ : ∃ r, r = R k t := ⟨_, rfl⟩
          obtain ⟨g, hg⟩ : ∃ g, g = H k t := ⟨_, rfl⟩
          obtain ⟨u, hu⟩ : ∃ u, u = F k t := ⟨_, rfl⟩
          obtain ⟨v, hv⟩ : ∃ v, v = F t k := ⟨_, rfl⟩
          obtain ⟨ck, hck⟩ : ∃ ck, ck = C k := ⟨_, rfl⟩
          obtain ⟨ct, hct⟩ : ∃ ct, ct = C t := ⟨_, rfl⟩
          rw [← hr, ← hg, ← hu, ← hv] at HCC
          rw [← hu] at d1
          rw [← hv] at d2
          rw [← hck] at c1 l5 l6
          rw [← hct] at c2 l7 l8
          rw [← hT, ← hg] at HA
          rw [← hT]
          have HR := Hid.mkV hr
          clear hr hg hu hv hck hct hT hya hyb hyc hyd
          go_upto_region 10 with fail
          go_cut [9, 10] (fun p q wx => p = .int .i64 r ∧ q = .bool g ∧ Below wi.heap.size wi wx)
          case first =>
            go_region_held3 (fun w' => w'.cell? (x.add k) = some (.slice (some ya) n ck) ∧ w'.cell? (x.add t) = some (.slice (some yb) n ct) ∧ w'.cell? (ya.add t) = some (.int .i64 u) ∧ w'.cell? (yb.add k) = some (.int .i64 v))
              (first
                | (refine ⟨keep_cell (W := wi) ?_ c1, keep_cell (W := wi) ?_ c2, keep_cell (W := wi) ?_ d1, keep_cell (W := wi) ?_ d2⟩ <;> first | with_reducible exact Below.refl _ _ | with_reducible exact Vc.below_drew' _ | with_reducible exact below_al (Vc.below_drew' _) _ | with_reducible exact below_al (below_al (Vc.below_drew' _) _) _ | with_reducible exact below_al (Below.refl _ _) _ | with_reducible exact (below_al (Below.refl _ _) _).drew | with_reducible exact (below_al (Vc.below_drew' _) _).drew | with_reducible exact below_al (below_al (Below.refl _ _) _) _ | with_reducible exact (below_al (below_al (Below.refl _ _) _) _).drew | with_reducible exact below_al (below_al (Below.refl _ _) _).drew _ | with_reducible exact (below_al (below_al (Below.refl _ _) _).drew _).drew | with_reducible exact (below_al (below_al (Vc.below_drew' _) _) _).drew | with_reducible exact below_al (below_al (Vc.below_drew' _) _).drew _ | with_reducible exact kq))
              (first
                | (go_at_call 65; refine (HCC.out _ _ _ (by go_simp) (by rw [Addr.add_lit]; go_simp) (by go_simp) (by rw [Addr.add_lit]; go_simp)).mono ?_; rintro e w2 ⟨rfl, k2⟩
                   have kq : Below wi.heap.size wi w2 := by refine below_tr ?_ k2; repeat (first | with_reducible exact Below.refl _ _ | with_reducible refine below_al ?_ _ | with_reducible refine Below.drew ?_)))
            all_goals go_wp2_with fail
            all_goals go_meet
            all_goals exact ⟨rfl, rfl, kq⟩
          case rest =>
            obtain ⟨rfl, rfl, kq⟩ := hcut
            have hown2 := hown.keep kq
            cases T
            all_goals go_wp2_with (at_builtin; refine wpList_push (by rfl) (.tmp 43) (.tmp 45) (by rfl) wo.heap.size wo _ t (R k) (by rfl) hown2 (by omega) r (by exact HR.out) (by rfl) ?_)
            all_goals intro v' w' hown'
            all_goals go_wp2
            all_goals go_roundw
            all_goals first
              | (simp [intOf]; omega)
              | exact ⟨t + 1, by omega, by go_num, by rw [HA.out]; first | rfl | simp, hown'⟩
        · obtain rfl : t = n := by omega
          obtain ⟨g0, pc, rfl, hgb, hpc, hpc2, hps⟩ := own_open hown (by omega)
          have HS := Hid.mkV hps
          have HB := Hid.mkV hown.below
          have HL := Hid.mkV hL
          rw [← hT]
          have HT := Hid.mkV hT
          clear hps hown hT
          go_wp2_with (at_builtin; refine wpList_pushC (by rfl) (.tmp 51) (.tmp 53) (by rfl) w.heap.size w _ k _ R (by rfl) HL.out HB.out (by omega) g0 pc HS.out ⟨hpc, hpc2⟩ hgb (by rfl) ?_)
          intro v' w' hL'
          go_wp2
          go_roundw
          case rel => exact ⟨k + 1, by omega, by go_num, by rw [HT.out, any2_row], hL'⟩
          case measure => simp [intOf]; omega
    · obtain rfl : k = n := by omega
      obtain ⟨L', cm', G', C', rfl, hA⟩ := hL.open (by omega)
      go_wp2
      go_ret2
      exact ⟨L', cm', G', C', rfl, hA⟩
end Go.Proofs.YtoglokgkgonmdaaGreatDoor
namespace Go.Proofs.YtoglokgkgonmdaaGreatDoor
open Go.RowKit Vc St Mt Dt
attribute [local go_sem ↓] Go.wp_at_zero Go.wp_at_succ
namespace Pr
theorem isRs : Is 54 2 := ⟨by kernel_rfl, ⟨_, Tryz.underlying54, rfl⟩⟩
theorem cl_b2 (R : Nat → Nat → Int) : B2 (fun i j => Qn.clamp (R i j)) := fun i j => by show _ ≤ Qn.clamp (R i j) ∧ Qn.clamp (R i j) ≤ _; unfold Qn.clamp; constructor <;> (repeat' split) <;> omega
def nD (E : Nat → Nat → Int) (k : Nat) : Nat → Nat → Int := fun i j => if i = j ∧ i < k ∧ E i j < 0 then 0 else E i j
theorem nD_zero (E : Nat → Nat → Int) (i j : Nat) : E i j = nD E 0 i j := by unfold nD; rw [if_neg (by omega)]
theorem nD_skip (E : Nat → Nat → Int) (k : Nat) (h : ¬ E k k < 0) (i j : Nat) : nD E k i j = nD E (k + 1) i j := by
  unfold nD
  by_cases e : i = j ∧ i < k ∧ E i j < 0
  · rw [if_pos e, if_pos ⟨e.1, by omega, e.2.2⟩]
  · rw [if_neg e, if_neg]
    rintro ⟨a, b, c⟩
    by_cases q : i = k
    · subst q; subst a; exact h c
    · exact e ⟨a, by omega, c⟩
theorem nD_put (E : Nat → Nat → Int) (k : Nat) (h : E k k < 0) (i j : Nat) : put2 (nD E k) k k 0 i j = nD E (k + 1) i j := by
  unfold put2 nD
  by_cases q : i = k ∧ j = k
  · obtain ⟨rfl, rfl⟩ := q
    rw [if_pos ⟨rfl, rfl⟩, if_pos ⟨rfl, by omega, h⟩]
  · rw [if_neg q]
    by_cases e : i = j ∧ i < k ∧ E i j < 0
    · rw [if_pos e, if_pos ⟨e.1, by omega, e.2.2⟩]
    · rw [if_neg e, if_neg]
      rintro ⟨a, b, c⟩
      exact e ⟨a, by omega, c⟩
theorem nD_at (E : Nat → Nat → Int) (k : Nat) : nD E k k k = E k k := by unfold nD; rw [if_neg (by omega)]
theorem nD_end (E : Nat → Nat → Int) {i : Nat} (j : Nat) (hi : i < 6) : nD E 6 i j = if i = j ∧ E i j < 0 then 0 else E i j := by
  unfold nD
  by_cases e : i = j ∧ E i j < 0
  · rw [if_pos ⟨e.1, hi, e.2⟩, if_pos e]
  · rw [if_neg (fun q => e ⟨q.1, q.2.2⟩), if_neg e]
end Pr
open Pr
end Go.Proofs.YtoglokgkgonmdaaGreatDoor
namespace Go.Proofs.YtoglokgkgonmdaaGreatDoor
open Vc Cn Pr Dt Mt Qn
namespace Mx
theorem cl_inV (n : Int) : InV (Qn.clamp n) := by unfold InV Qn.clamp; split <;> (try split) <;> omega
def wt (n : Nat) (z : Nat → Int) (R : Nat → Nat → Int) (t : Nat) : Nat → Int := fun i => if i < n then z i * R i t else 0
def shr (n : Nat) (z : Nat → Int) (R : Nat → Nat → Int) (t : Nat) : Nat → Int := fun k => if k < n then (if tot (wt n z R t) n = 0 then (if k = t then 1073741824 else 0) else sh 1073741824 (wt n z R t) n k) else 0
theorem shr_is {n : Nat} {z : Nat → Int} {R : Nat → Nat → Int} {t k : Nat} (hk : k < n) : shr n z R t k = if tot (wt n z R t) n = 0 then (if k = t then 1073741824 else 0) else sh 1073741824 (wt n z R t) n k := by unfold shr; rw [if_pos hk]
section
variable {n m : Nat} {z : Nat → Int} {L : Nat → Nat} {R : Nat → Nat → Int} (h : MayX n z m L R)
include h
theorem wt_in {t : Nat} (ht : t < n) (i : Nat) : 0 ≤ wt n z R t i ∧ wt n z R t i ≤ 1152921504606846976 := by
  unfold wt
  by_cases hi : i < n
  · rw [if_pos hi]
    have a1 := h.ch.nn hi
    have a2 := (h.row i hi).2.nn ht
    exact ⟨Int.mul_nonneg a1.1 a2.1, Int.mul_le_mul a1.2 a2.2 a2.1 (by omega)⟩
  · rw [if_neg hi]; omega
theorem wt_may {t : Nat} (ht : t < n) : MayW n (wt n z R t) 0 := ⟨h.ch.one, h.ch.four, by omega, by omega, fun k _ => by have := wt_in h ht k; omega⟩
theorem shr_ch {t : Nat} (ht : t < n) : Ch n (shr n z R t) 0 := by
  have t0 := tot_nn (a := wt n z R t) (n := n) (fun k _ => (wt_in h ht k).1)
  refine ⟨h.ch.one, h.ch.four, by omega, by omega, fun k hk => ?_, ?_⟩
  · rw [shr_is hk]
    by_cases e : tot (wt n z R t) n = 0
    · rw [if_pos e]; split <;> omega
    · rw [if_neg e]
      exact sh_nn (by omega) (fun i _ => (wt_in h ht i).1) (by omega) hk
  · by_cases e : tot (wt n z R t) n = 0
    · have q : tot (shr n z R t) n = tot (fun k => if k = t then 1073741824 else (fun _ => (0 : Int)) k) n := tot_congr fun k hk => by rw [shr_is hk, if_pos e]
      rw [q, tot_set (a := fun _ => (0 : Int)) 1073741824 ht, tot_const]; omega
    · have q : tot (shr n z R t) n = tot (sh 1073741824 (wt n z R t) n) n := tot_congr fun k hk => by rw [shr_is hk, if_neg e]
      rw [q]; exact sh_tot (by omega)
theorem shr_b64 {t : Nat} (ht : t < n) (k : Nat) : -9223372036854775808 ≤ shr n z R t k ∧ shr n z R t k ≤ 9223372036854775807 := by
  by_cases hk : k < n
  · have := (shr_ch h ht).nn hk; omega
  · unfold shr; rw [if_neg hk]; omega
end
section
variable (n : Nat) (c : Nat → Int) (X : Nat → Nat → Int) (P : Nat → Nat → Nat → Int)
def jx (p : Nat) : Int := Qn.rne (dk (fun k => X k p) c n) (2 ^ 30)
def jX : Nat → Int := fun p => Qn.clamp (jx n c X p)
def jXo : Bool := anyb (fun p => Qn.great (jx n c X p)) 6
def jd (k : Nat) : Nat → Int := fun p => Qn.clamp (X k p - jX n c X p)
def jdo (k : Nat) : Bool := anyb (fun p => Qn.great (X k p - jX n c X p)) 6
def ju (k : Nat) : Nat → Nat → Int := fun i j => Qn.clamp (Qn.rne (jd n c X k i * jd n c X k j) (2 ^ 20))
def juo (k : Nat) : Bool := any2 (fun i j => Qn.great (Qn.rne (jd n c X k i * jd n c X k j) (2 ^ 20))) 6 6
def jm (k : Nat) : Nat → Nat → Int := fun i j => Qn.clamp (P k i j + ju n c X k i j)
def jmo (k : Nat) : Bool := any2 (fun i j => Qn.great (P k i j + ju n c X k i j)) 6 6
def ja : Nat → Nat → Int := fun i j => Qn.clamp (Qn.rne (dk (fun k => jm n c X P k i j) c n) (2 ^ 30))
def jao (i : Nat) : Bool := anyb (fun j => Qn.great (Qn.rne (dk (fun k => jm n c X P k i j) c n) (2 ^ 30))) 6
def je : Nat → Nat → Int := fun i j => Qn.clamp (Qn.rne (ja n c X P i j + ja n c X P j i) (2 ^ 1))
def jeo : Bool := any2 (fun i j => Qn.great (Qn.rne (ja n c X P i j + ja n c X P j i) (2 ^ 1))) 6 6
def jP : Nat → Nat → Int := fun i j => if i = j ∧ je n c X P i j < 0 then 0 else je n c X P i j
def jko (k : Nat) : Bool := anyb (fun k => jdo n c X k || juo n c X k || jmo n c X P k) k
def jO : Bool := ((jXo n c X || jko n c X P n) || anyb (jao n c X P) 6) || jeo n c X P
theorem je_even (i j : Nat) : je n c X P i j = je n c X P j i := by unfold je; rw [Int.add_comm]
theorem jP_even (i j : Nat) : jP n c X P i j = jP n c X P j i := by
  unfold jP
  by_cases e : i = j
  · rw [e]
  · rw [if_neg (fun q => e q.1), if_neg (fun q => e q.1.symm), je_even]
theorem jP_in (i j : Nat) : InV (jP n c X P i j) := by
  unfold jP
  split
  · unfold InV; omega
  · exact cl_inV _
theorem jP_nn (i : Nat) : 0 ≤ jP n c X P i i := by
  unfold jP
  by_cases e : je n c X P i i < 0
  · rw [if_pos ⟨rfl, e⟩]; omega
  · rw [if_neg (fun q => e q.2)]; omega
theorem join_may : MayV (jX n c X) (jP n c X P) := fun i _ => ⟨cl_inV _, jP_nn n c X P i, fun j _ => ⟨jP_in n c X P i j, jP_even n c X P i j⟩⟩
end
def aO (n : Nat) (z : Nat → Int) (R : Nat → Nat → Int) (X : Nat → Nat → Int) (P : Nat → Nat → Nat → Int) : Bool := anyb (fun t => jO n (shr n z R t) X P) n
section
variable {n : Nat} {c : Nat → Int} {X : Nat → Nat → Int} {P : Nat → Nat → Nat → Int} {X0 : Nat → Int} {P0 : Nat → Nat → Int} (hc : Ch n c 0) (h0 : MayV X0 P0)
  (hX : ∀ k, k < n → c k ≠ 0 → ∀ i, i < 6 → X k i = X0 i) (hP : ∀ k, k < n → c k ≠ 0 → ∀ i j, i < 6 → j < 6 → P k i j = P0 i j)
include hc
include h0 hX
include hP
end
end Mx
end Go.Proofs.YtoglokgkgonmdaaGreatDoor
namespace Go.Proofs.YtoglokgkgonmdaaGreatDoor
open Go.RowKit Vc St Mt Dt
attribute [local go_sem ↓] Go.wp_at_zero Go.wp_at_succ
open Pr
set_option maxRecDepth 10000 in
set_option maxHeartbeats 1000000 in
theorem rin12_any (z : Int) (w : World) : Calls Tryz.prog 64 #[.int .i64 z] w fun e w' => e = .returned (.bool (decide (InV z))) ∧ w' = w := by
  by_cases h1 : -4611686018427387903 ≤ z
  · by_cases h2 : z ≤ 4611686018427387903
    · have e0 : decide (InV z) = true := decide_eq_true ⟨h1, h2⟩
      have e1 : decide (z ≥ -4611686018427387903) = true := decide_eq_true h1
      have e2 : decide (z ≤ 4611686018427387903) = true := decide_eq_true h2
      rw [e0]
      go_enter Tryz.func64, Tryz.ntmps64
      go_wp2
      go_ret
      exact ⟨rfl, rfl⟩
    · have e0 : decide (InV z) = false := decide_eq_false (fun h => h2 h.2)
      have e1 : decide (z ≥ -4611686018427387903) = true := decide_eq_true h1
      have e2 : decide (z ≤ 4611686018427387903) = false := decide_eq_false h2
      rw [e0]
      go_enter Tryz.func64, Tryz.ntmps64
      go_wp2
      go_ret
      exact ⟨rfl, rfl⟩
  · have e0 : decide (InV z) = false := decide_eq_false (fun h => h1 h.1)
    have e1 : decide (z ≥ -4611686018427387903) = false := decide_eq_false h1
    rw [e0]
    go_enter Tryz.func64, Tryz.ntmps64
    go_wp2
    go_ret
    exact ⟨rfl, rfl⟩
set_option maxRecDepth 10000 in
set_option maxHeartbeats 1000000 in
theorem rsix12_not (n cm : Nat) (lo : Option Addr) (w : World) (h : Calls Tryz.prog 100 #[.slice lo n cm] w fun e w' => e = .returned (.bool false) ∧ Below w.heap.size w w') :
    Calls Tryz.prog 63 #[.slice lo n cm] w fun e w' => e = .returned (.bool false) ∧ Below w.heap.size w w' := by
  have H := Hid.mkQ h
  clear h
  go_enter Tryz.func63, Tryz.ntmps63
  go_wp2_with fail
  refine H.out.mono ?_
  rintro e w1 ⟨rfl, k1⟩
  go_wp2
  go_ret
  exact ⟨rfl, k1⟩
set_option maxRecDepth 10000 in
set_option maxHeartbeats 1000000 in
theorem rsix12_grid (n m cm : Nat) (lo : Option Addr) (F : Nat → Nat → Int) (w : World) (h1 : 1 ≤ n) (h2 : n ≤ 6) (h3 : 1 ≤ m) (h4 : m ≤ 6) (hF : Grid w lo n cm m F) :
  Calls Tryz.prog 63 #[.slice lo n cm] w fun e w' => e = .returned (.bool (decide (n = 6 ∧ m = 6))) ∧ Below w.heap.size w w' := by
 obtain ⟨A, C, hS, hR⟩ := hF
 have H := Hid.mkQ (rmay_yes n m cm lo A C w hS h1 h2 h3 h4)
 have HS := Hid.mkQ hS
 clear hS hR
 by_cases e6 : n = 6
 ·subst e6
  by_cases m6 : m = 6
  ·subst m6
   have e0 : decide ((6 : Nat) = 6 ∧ (6 : Nat) = 6) = true := by decide
   rw [e0]
   go_enter Tryz.func63, Tryz.ntmps63
   go_wp2_with fail
   refine H.out.mono ?_
   rintro e w1 ⟨rfl, k1⟩
   obtain ⟨x, hlo, hcl⟩ := (HS.out.keep k1).get
   obtain rfl := hlo (by omega)
   have c0 : w1.cell? x = some (.slice (A 0) 6 (C 0)) := hcl 0 (by omega)
   clear hcl hlo
   go_wp2
   go_ret
   exact ⟨rfl, k1⟩
  ·have e0 : decide ((6 : Nat) = 6 ∧ m = 6) = false := decide_eq_false (fun h => m6 h.2)
   have e1 : ((m : Int) == 6) = false := by rw [beq_eq_false_iff_ne]; omega
   have e2 : decide ((m : Int) = 6) = false := decide_eq_false (by omega)
   rw [e0]
   go_enter Tryz.func63, Tryz.ntmps63
   go_wp2_with fail
   refine H.out.mono ?_
   rintro e w1 ⟨rfl, k1⟩
   obtain ⟨x, hlo, hcl⟩ := (HS.out.keep k1).get
   obtain rfl := hlo (by omega)
   have c0 : w1.cell? x = some (.slice (A 0) m (C 0)) := hcl 0 (by omega)
   clear hcl hlo
   go_wp2
   go_ret
   exact ⟨rfl, k1⟩
 ·have e0 : decide (n = 6 ∧ m = 6) = false := decide_eq_false (fun h => e6 h.1)
  have e1 : ((n : Int) == 6) = false := by rw [beq_eq_false_iff_ne]; omega
  have e2 : decide ((n : Int) = 6) = false := decide_eq_false (by omega)
  rw [e0]
  go_enter Tryz.func63, Tryz.ntmps63
  go_wp2_with fail
  refine H.out.mono ?_
  rintro e w1 ⟨rfl, k1⟩
  go_wp2
  go_ret
  exact ⟨rfl, k1⟩
set_option maxRecDepth 10000 in
set_option maxHeartbeats 1000000 in
theorem rmay12_not (xo po : Option Addr) (n xc pc : Nat) (w : World) (h : ∀ W, Below w.heap.size w W → Calls Tryz.prog 63 #[.slice po n pc] W fun e w' => e = .returned (.bool false) ∧ Below W.heap.size W w') :
    Calls Tryz.prog 30 #[.agg #[.slice xo 6 xc, .slice po n pc]] w fun e w' => e = .returned (.bool false) ∧ Below w.heap.size w w' := by
  have m0 := crow_new w 54 [.slice xo 6 xc, .slice po n pc]
  have B0 : Below w.heap.size w (w.alloc (.cells [.slice xo 6 xc, .slice po n pc].toArray 54)) := below_al (Below.refl _ _) _
  have H := Hid.mkQ (h _ B0)
  obtain ⟨W, hW⟩ : ∃ W, W = w.alloc (.cells [.slice xo 6 xc, .slice po n pc].toArray 54) := ⟨_, rfl⟩
  rw [← hW] at m0 B0 H
  have HW := Hid.mkQ hW
  have c0 : W.cell? ⟨w.heap.size, 0, none⟩ = some (.slice xo 6 xc) := CRow.cell m0 (k := 0) rfl rfl
  have c1 : W.cell? ⟨w.heap.size, 1, none⟩ = some (.slice po n pc) := CRow.cell m0 (k := 1) rfl rfl
  clear hW h m0
  go_enter Tryz.func30, Tryz.ntmps30
  go_wp2_with (first | (rw [← HW.out]) | fail)
  refine H.out.mono ?_
  rintro e w1 ⟨rfl, k1⟩
  go_wp2
  go_ret
  exact ⟨rfl, below_tr B0 k1⟩
set_option maxRecDepth 10000 in
set_option maxHeartbeats 4000000 in
theorem rmay12_grid (b : Bool) (xo po : Option Addr) (xc pc : Nat) (X : Nat → Int) (P : Nat → Nat → Int) (w : World) (hX : Sl w xo 6 xc X) (hP : Grid w po 6 pc 6 P) (hb : b = true ↔ MayV X P) :
  Calls Tryz.prog 30 #[.agg #[.slice xo 6 xc, .slice po 6 pc]] w fun e w' => e = .returned (.bool b) ∧ Below w.heap.size w w' := by
 have m0 := crow_new w 54 [.slice xo 6 xc, .slice po 6 pc]
 have B0 : Below w.heap.size w (w.alloc (.cells [.slice xo 6 xc, .slice po 6 pc].toArray 54)) := below_al (Below.refl _ _) _
 obtain ⟨W, hW⟩ : ∃ W, W = w.alloc (.cells [.slice xo 6 xc, .slice po 6 pc].toArray 54) := ⟨_, rfl⟩
 rw [← hW] at m0 B0
 have HW := Hid.mkQ hW
 have x0 := hX.keep B0
 have p0 := hP.keep B0
 have H : Hid (Calls Tryz.prog 63 #[.slice po 6 pc] W fun e w' => e = .returned (.bool true) ∧ Below W.heap.size W w') := rsix12_grid 6 6 pc po P W (by omega) (by omega) (by omega) (by omega) p0
 have c0 : W.cell? ⟨w.heap.size, 0, none⟩ = some (.slice xo 6 xc) := CRow.cell m0 (k := 0) rfl rfl
 have c1 : W.cell? ⟨w.heap.size, 1, none⟩ = some (.slice po 6 pc) := CRow.cell m0 (k := 1) rfl rfl
 have HN : Hid (¬ MayV X P → b = false) := fun h => by
  cases b with
  | false => rfl
  | true => exact absurd (hb.1 rfl) h
 have HY : Hid (MayV X P → b = true) := fun h => hb.2 h
 have HM := Hid.mkQ m0
 have HX := Hid.mkQ x0
 have HP := Hid.mkQ p0
 clear hW m0 hX hP x0 p0 hb
 go_enter Tryz.func30, Tryz.ntmps30
 go_wp2_with (first | (rw [← HW.out]) | fail)
 refine H.out.mono ?_
 rintro e w1 ⟨rfl, k1⟩
 clear c0 c1 H
 go_wp2
 go_loopw [3] (fun v wr => ∃ k : Nat, k ≤ 6 ∧ v = .int .i64 (k : Int) ∧ Below W.heap.size W wr ∧ Hid (∀ i, i < k → InV (X i) ∧ 0 ≤ P i i ∧ ∀ j, j < 6 → InV (P i j) ∧ P i j = P j i)) (fun v _ => 6 - (intOf v).toNat)
 case atStart => exact ⟨0, by omega, rfl, k1, fun i hi => by omega⟩
 case round =>
  rename World => wo
  obtain ⟨k, hk, rfl, hB, hok⟩ := hrel
  by_cases h : k < 6
  ·have m1 := CRow.keep HM.out hB
   have c0 : wo.cell? ⟨w.heap.size, 0, none⟩ = some (.slice xo 6 xc) := CRow.cell m1 (k := 0) rfl rfl
   have c1 : wo.cell? ⟨w.heap.size, 1, none⟩ = some (.slice po 6 pc) := CRow.cell m1 (k := 1) rfl rfl
   have x1 := HX.out.keep hB
   obtain ⟨A, C, s1, r1⟩ := HP.out.keep hB
   obtain ⟨xa, hxa, hxc⟩ := x1.get
   obtain ⟨pa, hpa, hpc⟩ := s1.get
   obtain rfl := hxa (by omega)
   obtain rfl := hpa (by omega)
   have c2 := hxc k h
   have c3 := hpc k h
   obtain ⟨ra, hra, hrc⟩ := (r1 k h).get
   have c4 := hrc k h
   rw [hra (by omega)] at c3
   have l1 := x1.le
   have l2 := x1.cap
   have l3 := s1.le
   have l4 := s1.cap
   have l5 := (r1 k h).le
   have l6 := (r1 k h).cap
   obtain ⟨ck, hck⟩ : ∃ c, c = C k := ⟨_, rfl⟩
   rw [← hck] at c3 l5 l6
   have HIn := Hid.mkQ (rin12_any (X k) wo)
   obtain ⟨xk, hxk⟩ : ∃ z, z = X k := ⟨_, rfl⟩
   rw [← hxk] at c2 HIn
   obtain ⟨pk, hpk⟩ : ∃ z, z = P k k := ⟨_, rfl⟩
   rw [← hpk] at c4
   have EX := Hid.mkQ hxk
   have EP := Hid.mkQ hpk
   clear m1 x1 s1 r1 hxa hpa hxc hpc hra hrc hck hxk hpk
   go_wp2_with fail
   refine HIn.out.mono ?_
   rintro e w2 ⟨rfl, rfl⟩
   by_cases i1 : InV xk
   ·rw [decide_eq_true i1]
    by_cases i2 : pk < 0
    ·have d2 : decide (pk < 0) = true := decide_eq_true i2
     go_wp2
     go_ret
     exact ⟨by rw [HN.out (fun q => by have := (q k h).2.1; rw [← EP.out] at this; omega)]; rfl, below_tr B0 hB⟩
    ·have d2 : decide (pk < 0) = false := decide_eq_false i2
     have HI1 := Hid.mkQ i1
     clear i1
     go_wp2
     clear c2 c3 c4 l5 l6 HIn
     go_loopw [4] (fun v wr => ∃ j : Nat, j ≤ 6 ∧ v = .int .i64 (j : Int) ∧ Below W.heap.size W wr ∧ Hid (∀ i, i < j → InV (P k i) ∧ P k i = P i k)) (fun v _ => 6 - (intOf v).toNat)
     case atStart => exact ⟨0, by omega, rfl, hB, fun i hi => by omega⟩
     case round =>
      rename World => wi
      obtain ⟨j, hj, rfl, hB2, hok2⟩ := hrel
      clear c0 c1
      by_cases h5 : j < 6
      ·have m1 := CRow.keep HM.out hB2
       have c1 : wi.cell? ⟨w.heap.size, 1, none⟩ = some (.slice (some pa) 6 pc) := CRow.cell m1 (k := 1) rfl rfl
       obtain ⟨A, C, s1, r1⟩ := HP.out.keep hB2
       obtain ⟨pa', hpa, hpc⟩ := s1.get
       obtain rfl : pa = pa' := by have := hpa (by omega); injection this
       have c3 := hpc k h
       have c5 := hpc j h5
       obtain ⟨ra, hra, hrc⟩ := (r1 k h).get
       obtain ⟨sa, hsa, hsc⟩ := (r1 j h5).get
       have c4 := hrc j h5
       have c6 := hsc k h
       rw [hra (by omega)] at c3
       rw [hsa (by omega)] at c5
       have l5 := (r1 k h).le
       have l6 := (r1 k h).cap
       have l7 := (r1 j h5).le
       have l8 := (r1 j h5).cap
       obtain ⟨ck, hck⟩ : ∃ c, c = C k := ⟨_, rfl⟩
       rw [← hck] at c3 l5 l6
       obtain ⟨cj, hcj⟩ : ∃ c, c = C j := ⟨_, rfl⟩
       rw [← hcj] at c5 l7 l8
       obtain ⟨u, hu⟩ : ∃ z, z = P k j := ⟨_, rfl⟩
       rw [← hu] at c4
       obtain ⟨v, hv⟩ : ∃ z, z = P j k := ⟨_, rfl⟩
       rw [← hv] at c6
       have EU := Hid.mkQ hu
       have EV := Hid.mkQ hv
       have HIn2 : Hid (∀ W, Calls Tryz.prog 64 #[.int .i64 u] W fun e w' => e = .returned (.bool (decide (InV u))) ∧ w' = W) := fun W => rin12_any u W
       clear m1 s1 r1 hpa hpc hra hrc hsa hsc hck hcj hu hv
       by_cases i3 : InV u
       ·rw [decide_eq_true i3] at HIn2
        have HI3 := Hid.mkQ i3
        clear i3
        by_cases i4 : u = v
        ·subst i4
         go_wp2
         go_quiet (first | (go_at_call 64; refine Calls.quiet_of_same (HIn2.out _)))
         go_wp2
         go_roundw
         case rel => exact ⟨j + 1, by omega, by go_num, below_drewN hB2 _, fun q hq => by
           rcases Nat.lt_or_ge q j with c | c
           ·exact hok2.out q c
           ·obtain rfl : q = j := by omega
            rw [← EV.out, ← EU.out]
            exact ⟨HI3.out, rfl⟩⟩
         case measure => simp [intOf]; omega
        ·have d4 : decide (u = v) = false := decide_eq_false i4
         go_wp2
         go_quiet (first | (go_at_call 64; refine Calls.quiet_of_same (HIn2.out _)))
         go_wp2
         go_ret
         exact ⟨by rw [HN.out (fun q => by have := ((q k h).2.2 j h5).2; rw [← EU.out, ← EV.out] at this; exact i4 this)]; rfl, below_drewN (below_tr B0 hB2) _⟩
       ·rw [decide_eq_false i3] at HIn2
        have HI3 := Hid.mkQ i3
        clear i3
        go_wp2
        go_quiet (first | (go_at_call 64; refine Calls.quiet_of_same (HIn2.out _)))
        go_wp2
        go_ret
        exact ⟨by rw [HN.out (fun q => by have := ((q k h).2.2 j h5).1; rw [← EU.out] at this; exact HI3.out this)]; rfl, below_drewN (below_tr B0 hB2) _⟩
      ·obtain rfl : j = 6 := by omega
       go_wp2
       go_roundw
       case rel => exact ⟨k + 1, by omega, by go_num, hB2, fun q hq => by
         rcases Nat.lt_or_ge q k with c | c
         ·exact hok.out q c
         ·obtain rfl : q = k := by omega
          exact ⟨by rw [← EX.out]; exact HI1.out, by rw [← EP.out]; omega, fun j hj => hok2.out j hj⟩⟩
       case measure => simp [intOf]; omega
   ·rw [decide_eq_false i1]
    have HI1 := Hid.mkQ i1
    clear i1
    go_wp2
    go_ret
    exact ⟨by rw [HN.out (fun q => by have := (q k h).1; rw [← EX.out] at this; exact HI1.out this)]; rfl, below_tr B0 hB⟩
  ·obtain rfl : k = 6 := by omega
   go_wp2
   go_ret
   exact ⟨by rw [HY.out (fun q hq => hok.out q hq)]; rfl, below_tr B0 hB⟩
end Go.Proofs.YtoglokgkgonmdaaGreatDoor
namespace Go.Proofs.YtoglokgkgonmdaaGreatDoor
open Go.RowKit Vc Mt Dt
set_option maxRecDepth 10000 in
set_option maxHeartbeats 1000000 in
theorem rjoin_own (n : Nat) (lo ho : Option Addr) (m cm hc : Nat) (A : Nat → Option Addr) (C : Nat → Nat) (Z : Nat → Nat → Int) (c : Nat → Int) (w : World) (h : Sls w lo m cm A (fun _ => n) C) (hz : ∀ k, k < m → Sl w (A k) n (C k) (Z k)) (hn : n ≤ 6) (hm0 : 0 < m) (hm : m ≤ 4)
  (hch : Sl w ho m hc c) (bz : ∀ k, B64 (Z k)) (bc : B64 c) :
  Calls Tryz.prog 31 #[.slice lo m cm, .slice ho m hc] w fun e w' => ∃ co cc, e = .returned (.tuple #[.slice co n cc, .bool (anyb (fun p => Qn.great (Qn.rne (dk (fun k => Z k p) c m) (2 ^ 30))) n)]) ∧ Own w.heap.size w w' (.slice co n cc) n (fun p => Qn.clamp (Qn.rne (dk (fun k => Z k p) c m) (2 ^ 30))) := by
 obtain ⟨x, hlo, hcl⟩ := h.get
 obtain rfl := hlo hm0
 have c0 : w.cell? x = some (.slice (A 0) n (C 0)) := hcl 0 (by omega)
 have l1 := h.le
 have l2 := h.cap
 have l3 := hch.le
 have l4 := hch.cap
 have HC := Hid.mkV hcl
 have HZ := Hid.mkV hz
 have HM : Hid (∀ p ao ca W, Below w.heap.size w W → Sl W ao m ca (fun k => Z k p) → Calls Tryz.prog 65 #[.slice ao m ca, .slice ho m hc, .int .i64 30] W fun e w' =>
   e = .returned (.tuple #[.int .i64 (Qn.clamp (Qn.rne (dk (fun k => Z k p) c m) (2 ^ 30))), .bool (Qn.great (Qn.rne (dk (fun k => Z k p) c m) (2 ^ 30)))]) ∧ Below W.heap.size W w') := fun p ao ca W b hs => ldot_sl ao ho m ca hc _ c 30 30 W rfl (by omega) hs (hch.keep b) (fun k => bz k p) bc (by omega)
 obtain ⟨r, hr⟩ : ∃ r : Nat → Int, r = fun p => Qn.clamp (Qn.rne (dk (fun k => Z k p) c m) (2 ^ 30)) := ⟨_, rfl⟩
 obtain ⟨g, hg⟩ : ∃ g : Nat → Bool, g = fun p => Qn.great (Qn.rne (dk (fun k => Z k p) c m) (2 ^ 30)) := ⟨_, rfl⟩
 have HM' : Hid (∀ p ao ca W, Below w.heap.size w W → Sl W ao m ca (fun k => Z k p) → Calls Tryz.prog 65 #[.slice ao m ca, .slice ho m hc, .int .i64 30] W fun e w' =>
   e = .returned (.tuple #[.int .i64 (r p), .bool (g p)]) ∧ Below W.heap.size W w') := by rw [hr, hg]; exact HM
 rw [← hr, ← hg]
 clear hr hg HM h hlo hcl hz hch bz bc
 go_enter Tryz.func31, Tryz.ntmps31
 go_wp2
 go_loopw [6, 7, 8] (fun out an i wr => ∃ k : Nat, k ≤ n ∧ i = .int .i64 (k : Int) ∧ an = .bool (anyb g k) ∧ Own w.heap.size w wr out k r) (fun _ _ i _ => n - (intOf i).toNat)
 case atStart => exact ⟨0, by omega, rfl, rfl, Own.nil (Below.refl _ _) (Nat.le_refl _) _⟩
 case round =>
  rename World => wo
  obtain ⟨k, hk, rfl, rfl, hown⟩ := hrel
  have c0' := keep_cell hown.below c0
  have HA : Hid (anyb g (k + 1) = (anyb g k || g k)) := rfl
  obtain ⟨T, hT⟩ : ∃ T, T = anyb g k := ⟨_, rfl⟩
  rw [← hT] at HA
  rw [← hT]
  have HT := Hid.mkV hT
  clear hT
  by_cases h : k < n
  ·go_wp2
   go_loopw [9, 10] (fun ps j ws => ∃ t : Nat, t ≤ m ∧ j = .int .i64 (t : Int) ∧ Own wo.heap.size wo ws ps t (fun i => Z i k)) (fun _ j _ => m - (intOf j).toNat)
   case atStart => exact ⟨0, by omega, rfl, Own.nil (Below.refl _ _) (Nat.le_refl _) _⟩
   case round =>
    obtain ⟨t, ht, rfl, hown2⟩ := hrel
    by_cases h2 : t < m
    ·have kk := below_tr hown.below hown2.below
     have c1 := keep_cell kk (HC.out t h2)
     obtain ⟨ya, hya, hyc⟩ := (HZ.out t h2).get
     have c2 := keep_cell kk (hyc k h)
     rw [hya (by omega)] at c1
     have l5 := (HZ.out t h2).le
     have l6 := (HZ.out t h2).cap
     obtain ⟨V, hV⟩ : ∃ V, V = Z t k := ⟨_, rfl⟩
     obtain ⟨cc, hcc⟩ : ∃ cc, cc = C t := ⟨_, rfl⟩
     rw [← hV] at c2
     rw [← hcc] at c1 l5 l6
     have HV := Hid.mkV hV
     clear hV hcc hya hyc
     go_wp2_with (at_builtin; refine wpList_push (by rfl) (.tmp 27) (.tmp 35) (by rfl) wo.heap.size wo _ t (fun i => Z i k) (by rfl) hown2 (by omega) V (by exact HV.out) (by rfl) ?_)
     intro v' w' hown'
     go_wp2
     go_roundw
     case rel => exact ⟨t + 1, by omega, by go_num, hown'⟩
     case measure => simp [intOf]; omega
    ·obtain rfl : t = m := by omega
     obtain ⟨po, pc, rfl, hps⟩ := hown2.sl
     have hbb := hown2.below
     have hownB := hown.keep hbb
     have HCC := Hid.mkV (HM'.out k po pc _ (below_tr hown.below hbb) hps)
     obtain ⟨R, hR⟩ : ∃ R, R = r k := ⟨_, rfl⟩
     obtain ⟨G, hG⟩ : ∃ G, G = g k := ⟨_, rfl⟩
     rw [← hR, ← hG] at HCC
     rw [← hG] at HA
     have HR := Hid.mkV hR
     clear hR hG
     go_wp2_with fail
     refine HCC.out.mono ?_
     rintro e w2 ⟨rfl, k2⟩
     have hownC := hownB.keep k2
     cases T
     all_goals go_wp2_with (at_builtin; refine wpList_push (by rfl) (.tmp 43) (.tmp 45) (by rfl) w.heap.size w _ k r (by rfl) hownC (by omega) R (by exact HR.out) (by rfl) ?_)
     all_goals intro v' w' hown'
     all_goals go_wp2
     all_goals go_roundw
     all_goals first
      | (simp [intOf]; omega)
      | exact ⟨k + 1, by omega, by go_num, by rw [HA.out]; first | rfl | simp, hown'⟩
  ·obtain rfl : k = n := by omega
   obtain ⟨co, cc, rfl, hs⟩ := hown.sl
   go_wp2
   go_ret2
   exact ⟨_, _, by rw [← HT.out]; rfl, hown⟩
set_option maxRecDepth 10000 in
set_option maxHeartbeats 1000000 in
theorem rmadd_own (n m ca cb : Nat) (ao bo : Option Addr) (F G : Nat → Nat → Int) (w : World) (h1 : 1 ≤ n) (h2 : n ≤ 6) (h3 : 1 ≤ m) (h4 : m ≤ 6) (ga : Grid w ao n ca m F) (gb : Grid w bo n cb m G) (hF : B2 F) (hG : B2 G) :
    Calls Tryz.prog 34 #[.slice ao n ca, .slice bo n cb, .bool false] w fun e w' => ∃ L' cm' G' C', e = .returned (.tuple #[.slice (some ⟨L', 0, none⟩) n cm', .bool (any2 (fun i j => Qn.great (F i j + G i j)) n m)]) ∧ RwcAt w.heap.size w w' L' cm' G' C' n m (fun i j => Qn.clamp (F i j + G i j)) := by
  obtain ⟨A, C, h, hz⟩ := ga
  obtain ⟨x, hlo, hcl⟩ := h.get
  obtain rfl := hlo (by omega)
  have l1 := h.le
  have l2 := h.cap
  have HC := Hid.mkV hcl
  obtain ⟨A', C', h', hz'⟩ := gb
  obtain ⟨x', hlo', hcl'⟩ := h'.get
  obtain rfl := hlo' (by omega)
  have l1' := h'.le
  have l2' := h'.cap
  have HC' := Hid.mkV hcl'
  have HM : Hid (∀ i, i < n → ∀ W, Below w.heap.size w W → Calls Tryz.prog 32 #[.slice (A i) m (C i), .slice (A' i) m (C' i), .bool false] W fun e w' =>
      ∃ co cc, e = .returned (.tuple #[.slice co m cc, .bool (anyb ((fun i j => Qn.great (F i j + G i j)) i) m)]) ∧ Own W.heap.size W w' (.slice co m cc) m ((fun i j => Qn.clamp (F i j + G i j)) i)) :=
    fun i hi W b => radd_no_own m (C i) (C' i) (A i) (A' i) (F i) (G i) W h4 ((hz i hi).keep b) ((hz' i hi).keep b) (hF i) (hG i)
  obtain ⟨R, hR⟩ : ∃ R : Nat → Nat → Int, R = fun i j => Qn.clamp (F i j + G i j) := ⟨_, rfl⟩
  obtain ⟨H, hH⟩ : ∃ H : Nat → Nat → Bool, H = fun i j => Qn.great (F i j + G i j) := ⟨_, rfl⟩
  rw [← hR, ← hH] at HM
  rw [← hR, ← hH]
  clear hR hH h hlo hcl hz h' hlo' hcl' hz' hF hG
  go_enter Tryz.func34, Tryz.ntmps34
  go_wp2
  go_loopw [8, 9, 10] (fun out an i wr => ∃ k : Nat, k ≤ n ∧ i = .int .i64 (k : Int) ∧ an = .bool (any2 H k m) ∧ Rwc w.heap.size w wr out k m R) (fun _ _ i _ => n - (intOf i).toNat)
  case atStart => exact ⟨0, by omega, rfl, rfl, Rwc.nil (Below.refl _ _) (Nat.le_refl _) _ _⟩
  case round =>
    rename World => wo
    obtain ⟨k, hk, rfl, rfl, hL⟩ := hrel
    have kk := hL.below
    by_cases h : k < n
    · have c1 := keep_cell kk (HC.out k h)
      have c2 := keep_cell kk (HC'.out k h)
      have HA := Hid.mkV (any2_row H k m)
      have HCC := Hid.mkV (fun W (b : Below wo.heap.size wo W) => HM.out k h W (below_tr kk b))
      obtain ⟨g, hg⟩ : ∃ g, g = anyb (H k) m := ⟨_, rfl⟩
      obtain ⟨T, hT⟩ : ∃ T, T = any2 H k m := ⟨_, rfl⟩
      obtain ⟨ak, hak⟩ : ∃ ak, ak = A k := ⟨_, rfl⟩
      obtain ⟨ck, hck⟩ : ∃ ck, ck = C k := ⟨_, rfl⟩
      obtain ⟨bk, hbk⟩ : ∃ bk, bk = A' k := ⟨_, rfl⟩
      obtain ⟨dk', hdk⟩ : ∃ dk', dk' = C' k := ⟨_, rfl⟩
      rw [← hg, ← hak, ← hck, ← hbk, ← hdk] at HCC
      rw [← hak, ← hck] at c1
      rw [← hbk, ← hdk] at c2
      rw [← hT, ← hg] at HA
      rw [← hT]
      clear hg hT hak hck hbk hdk
      go_wp2
      go_region_held3 (fun w' => w'.cell? (x.add k) = some (.slice ak m ck) ∧ w'.cell? (x'.add k) = some (.slice bk m dk'))
        (first
          | (refine ⟨keep_cell (W := wo) ?_ c1, keep_cell (W := wo) ?_ c2⟩ <;> first | with_reducible exact Below.refl _ _ | with_reducible exact Vc.below_drew' _ | with_reducible exact kq))
        (first
          | (go_at_call 32; refine (HCC.out _ (Vc.below_drew' _)).mono ?_; rintro e w2 ⟨co, cc, rfl, ho⟩
             have kq : Below wo.heap.size wo w2 := below_tr (Vc.below_drew' _) ho.below
             obtain ⟨g0, pc, e1, hgb, hpc, hpc2, hps⟩ := own_open ho (by omega)
             injection e1 with ea _ ec
             subst ea ec
             have HS := Hid.mkV hps
             have HB := Hid.mkV kq
             have HL := Hid.mkV hL
             have hgb' := Nat.le_trans (Vc.below_drew' wo).size hgb
             clear hps ho))
      all_goals cases T
      all_goals go_wp2_with (at_builtin; refine wpList_pushC (by rfl) (.tmp 32) (.tmp 34) (by rfl) w.heap.size w _ k m R (by rfl) HL.out HB.out (by omega) g0 cc HS.out ⟨hpc, hpc2⟩ hgb' (by rfl) ?_)
      all_goals intro v' w' hL'
      all_goals go_wp2
      all_goals go_roundw
      all_goals first
        | (simp [intOf]; omega)
        | exact ⟨k + 1, by omega, by go_num, by rw [← HA.out]; first | rfl | simp, hL'⟩
    · obtain rfl : k = n := by omega
      obtain ⟨L', cm', G', C', rfl, hA⟩ := hL.open (by omega)
      go_wp2
      go_ret2
      exact ⟨L', cm', G', C', rfl, hA⟩
end Go.Proofs.YtoglokgkgonmdaaGreatDoor
