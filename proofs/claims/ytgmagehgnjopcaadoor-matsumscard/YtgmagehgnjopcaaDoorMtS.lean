/-
  The document's answer of layer 8 (radomeref08): Add, less or not; Outer; Even. (By py/MtS.py.)
-/
import Derived.Test.YtgmagehgnjopcaaDoorMtR
import Derived.Test.YtgmagehgnjopcaaDoorVcQ
import Derived.Deep.RegionHeld3
import Derived.Deep.CutRange
import Derived.Deep.DeepCutAuto
set_option linter.unusedSimpArgs false
set_option linter.unusedVariables false
namespace Go.Proofs.YtgmagehgnjopcaaDoor
open Go.RowKit Vc Mt Dt

set_option maxRecDepth 10000 in
set_option maxHeartbeats 1000000 in
theorem rmadd_no (n m ca cb : Nat) (ao bo : Option Addr) (F G : Nat → Nat → Int) (w : World) (h1 : 1 ≤ n) (h2 : n ≤ 6) (h3 : 1 ≤ m) (h4 : m ≤ 6) (ga : Grid w ao n ca m F) (gb : Grid w bo n cb m G) (hF : B2 F) (hG : B2 G) :
    Calls Tryd.prog 28 #[.slice ao n ca, .slice bo n cb, .bool false] w fun e w' => ∃ lo cm, e = .returned (.tuple #[.slice lo n cm, .bool (any2 (fun i j => Qn.great (F i j + G i j)) n m)]) ∧ Grid w' lo n cm m (fun i j => Qn.clamp (F i j + G i j)) ∧ Below w.heap.size w w' := by
  obtain ⟨A, C, h, hz⟩ := ga
  obtain ⟨x, hlo, hcl⟩ := h.get
  obtain rfl := hlo (by omega)
  have l1 := h.le
  have l2 := h.cap
  have HC := Hid.mkV hcl
  obtain ⟨A', C', h', hz'⟩ := gb
  obtain ⟨x', hlo', hcl'⟩ := h'.get
  obtain rfl := hlo' (by omega)
  have l1' := h'.le
  have l2' := h'.cap
  have HC' := Hid.mkV hcl'
  have HM : Hid (∀ i, i < n → ∀ W, Below w.heap.size w W → Calls Tryd.prog 49 #[.slice (A i) m (C i), .slice (A' i) m (C' i), .bool false] W fun e w' =>
      ∃ co cc, e = .returned (.tuple #[.slice co m cc, .bool (anyb ((fun i j => Qn.great (F i j + G i j)) i) m)]) ∧ Own W.heap.size W w' (.slice co m cc) m ((fun i j => Qn.clamp (F i j + G i j)) i)) :=
    fun i hi W b => radd_no_own m (C i) (C' i) (A i) (A' i) (F i) (G i) W h4 ((hz i hi).keep b) ((hz' i hi).keep b) (hF i) (hG i)
  obtain ⟨R, hR⟩ : ∃ R : Nat → Nat → Int, R = fun i j => Qn.clamp (F i j + G i j) := ⟨_, rfl⟩
  obtain ⟨H, hH⟩ : ∃ H : Nat → Nat → Bool, H = fun i j => Qn.great (F i j + G i j) := ⟨_, rfl⟩
  rw [← hR, ← hH] at HM
  rw [← hR, ← hH]
  clear hR hH h hlo hcl hz h' hlo' hcl' hz' hF hG
  go_enter Tryd.func28, Tryd.ntmps28
  go_wp2
  go_loopw [8, 9, 10] (fun out an i wr => ∃ k : Nat, k ≤ n ∧ i = .int .i64 (k : Int) ∧ an = .bool (any2 H k m) ∧ Lst w.heap.size w wr out k m R) (fun _ _ i _ => n - (intOf i).toNat)
  case atStart => exact ⟨0, by omega, rfl, rfl, Lst.nil (Below.refl _ _) (Nat.le_refl _) _ _⟩
  case round =>
    rename World => wo
    obtain ⟨k, hk, rfl, rfl, hL⟩ := hrel
    have kk := hL.below
    by_cases h : k < n
    · have c1 := keep_cell kk (HC.out k h)
      have c2 := keep_cell kk (HC'.out k h)
      have HA := Hid.mkV (any2_row H k m)
      have HCC := Hid.mkV (fun W (b : Below wo.heap.size wo W) => HM.out k h W (below_tr kk b))
      obtain ⟨g, hg⟩ : ∃ g, g = anyb (H k) m := ⟨_, rfl⟩
      obtain ⟨T, hT⟩ : ∃ T, T = any2 H k m := ⟨_, rfl⟩
      obtain ⟨ak, hak⟩ : ∃ ak, ak = A k := ⟨_, rfl⟩
      obtain ⟨ck, hck⟩ : ∃ ck, ck = C k := ⟨_, rfl⟩
      obtain ⟨bk, hbk⟩ : ∃ bk, bk = A' k := ⟨_, rfl⟩
      obtain ⟨dk', hdk⟩ : ∃ dk', dk' = C' k := ⟨_, rfl⟩
      rw [← hg, ← hak, ← hck, ← hbk, ← hdk] at HCC
      rw [← hak, ← hck] at c1
      rw [← hbk, ← hdk] at c2
      rw [← hT, ← hg] at HA
      rw [← hT]
      clear hg hT hak hck hbk hdk
      go_wp2
      go_region_held3 (fun w' => w'.cell? (x.add k) = some (.slice ak m ck) ∧ w'.cell? (x'.add k) = some (.slice bk m dk'))
        (first
          | (refine ⟨keep_cell (W := wo) ?_ c1, keep_cell (W := wo) ?_ c2⟩ <;> first | with_reducible exact Below.refl _ _ | with_reducible exact Vc.below_drew' _ | with_reducible exact kq))
        (first
          | (go_at_call 49; refine (HCC.out _ (Vc.below_drew' _)).mono ?_; rintro e w2 ⟨co, cc, rfl, ho⟩
             have kq : Below wo.heap.size wo w2 := below_tr (Vc.below_drew' _) ho.below
             have hL2 := hL.keep kq
             obtain ⟨co', cc', e1, s2, f2⟩ := own_fresh ho
             injection e1 with ea _ ec
             subst ea ec
             have HS := Hid.mkV s2
             have HAP := Hid.mkV (hL.apart (Vc.below_drew' _).size f2)
             clear s2 f2 ho))
      all_goals cases T
      all_goals go_wp2_with (at_builtin; refine wpList_pushS (by rfl) (.tmp 32) (.tmp 34) (by rfl) w.heap.size w _ k m R (by rfl) hL2 (by omega) (by omega) _ _ HS.out HAP.out (by rfl) ?_)
      all_goals intro v' w' hL'
      all_goals go_wp2
      all_goals go_roundw
      all_goals first
        | (simp [intOf]; omega)
        | exact ⟨k + 1, by omega, by go_num, by rw [← HA.out]; first | rfl | simp, hL'⟩
    · obtain rfl : k = n := by omega
      obtain ⟨lo, cm, rfl, hG⟩ := hL.grid
      go_wp2
      go_ret2
      exact ⟨lo, cm, rfl, hG, kk⟩

set_option maxRecDepth 10000 in
set_option maxHeartbeats 1000000 in
theorem rmadd_yes (n m ca cb : Nat) (ao bo : Option Addr) (F G : Nat → Nat → Int) (w : World) (h1 : 1 ≤ n) (h2 : n ≤ 6) (h3 : 1 ≤ m) (h4 : m ≤ 6) (ga : Grid w ao n ca m F) (gb : Grid w bo n cb m G) (hF : B2 F) (hG : B2 G) :
    Calls Tryd.prog 28 #[.slice ao n ca, .slice bo n cb, .bool true] w fun e w' => ∃ lo cm, e = .returned (.tuple #[.slice lo n cm, .bool (any2 (fun i j => Qn.great (F i j - G i j)) n m)]) ∧ Grid w' lo n cm m (fun i j => Qn.clamp (F i j - G i j)) ∧ Below w.heap.size w w' := by
  obtain ⟨A, C, h, hz⟩ := ga
  obtain ⟨x, hlo, hcl⟩ := h.get
  obtain rfl := hlo (by omega)
  have l1 := h.le
  have l2 := h.cap
  have HC := Hid.mkV hcl
  obtain ⟨A', C', h', hz'⟩ := gb
  obtain ⟨x', hlo', hcl'⟩ := h'.get
  obtain rfl := hlo' (by omega)
  have l1' := h'.le
  have l2' := h'.cap
  have HC' := Hid.mkV hcl'
  have HM : Hid (∀ i, i < n → ∀ W, Below w.heap.size w W → Calls Tryd.prog 49 #[.slice (A i) m (C i), .slice (A' i) m (C' i), .bool true] W fun e w' =>
      ∃ co cc, e = .returned (.tuple #[.slice co m cc, .bool (anyb ((fun i j => Qn.great (F i j - G i j)) i) m)]) ∧ Own W.heap.size W w' (.slice co m cc) m ((fun i j => Qn.clamp (F i j - G i j)) i)) :=
    fun i hi W b => radd_yes_own m (C i) (C' i) (A i) (A' i) (F i) (G i) W h4 ((hz i hi).keep b) ((hz' i hi).keep b) (hF i) (hG i)
  obtain ⟨R, hR⟩ : ∃ R : Nat → Nat → Int, R = fun i j => Qn.clamp (F i j - G i j) := ⟨_, rfl⟩
  obtain ⟨H, hH⟩ : ∃ H : Nat → Nat → Bool, H = fun i j => Qn.great (F i j - G i j) := ⟨_, rfl⟩
  rw [← hR, ← hH] at HM
  rw [← hR, ← hH]
  clear hR hH h hlo hcl hz h' hlo' hcl' hz' hF hG
  go_enter Tryd.func28, Tryd.ntmps28
  go_wp2
  go_loopw [8, 9, 10] (fun out an i wr => ∃ k : Nat, k ≤ n ∧ i = .int .i64 (k : Int) ∧ an = .bool (any2 H k m) ∧ Lst w.heap.size w wr out k m R) (fun _ _ i _ => n - (intOf i).toNat)
  case atStart => exact ⟨0, by omega, rfl, rfl, Lst.nil (Below.refl _ _) (Nat.le_refl _) _ _⟩
  case round =>
    rename World => wo
    obtain ⟨k, hk, rfl, rfl, hL⟩ := hrel
    have kk := hL.below
    by_cases h : k < n
    · have c1 := keep_cell kk (HC.out k h)
      have c2 := keep_cell kk (HC'.out k h)
      have HA := Hid.mkV (any2_row H k m)
      have HCC := Hid.mkV (fun W (b : Below wo.heap.size wo W) => HM.out k h W (below_tr kk b))
      obtain ⟨g, hg⟩ : ∃ g, g = anyb (H k) m := ⟨_, rfl⟩
      obtain ⟨T, hT⟩ : ∃ T, T = any2 H k m := ⟨_, rfl⟩
      obtain ⟨ak, hak⟩ : ∃ ak, ak = A k := ⟨_, rfl⟩
      obtain ⟨ck, hck⟩ : ∃ ck, ck = C k := ⟨_, rfl⟩
      obtain ⟨bk, hbk⟩ : ∃ bk, bk = A' k := ⟨_, rfl⟩
      obtain ⟨dk', hdk⟩ : ∃ dk', dk' = C' k := ⟨_, rfl⟩
      rw [← hg, ← hak, ← hck, ← hbk, ← hdk] at HCC
      rw [← hak, ← hck] at c1
      rw [← hbk, ← hdk] at c2
      rw [← hT, ← hg] at HA
      rw [← hT]
      clear hg hT hak hck hbk hdk
      go_wp2
      go_region_held3 (fun w' => w'.cell? (x.add k) = some (.slice ak m ck) ∧ w'.cell? (x'.add k) = some (.slice bk m dk'))
        (first
          | (refine ⟨keep_cell (W := wo) ?_ c1, keep_cell (W := wo) ?_ c2⟩ <;> first | with_reducible exact Below.refl _ _ | with_reducible exact Vc.below_drew' _ | with_reducible exact kq))
        (first
          | (go_at_call 49; refine (HCC.out _ (Vc.below_drew' _)).mono ?_; rintro e w2 ⟨co, cc, rfl, ho⟩
             have kq : Below wo.heap.size wo w2 := below_tr (Vc.below_drew' _) ho.below
             have hL2 := hL.keep kq
             obtain ⟨co', cc', e1, s2, f2⟩ := own_fresh ho
             injection e1 with ea _ ec
             subst ea ec
             have HS := Hid.mkV s2
             have HAP := Hid.mkV (hL.apart (Vc.below_drew' _).size f2)
             clear s2 f2 ho))
      all_goals cases T
      all_goals go_wp2_with (at_builtin; refine wpList_pushS (by rfl) (.tmp 32) (.tmp 34) (by rfl) w.heap.size w _ k m R (by rfl) hL2 (by omega) (by omega) _ _ HS.out HAP.out (by rfl) ?_)
      all_goals intro v' w' hL'
      all_goals go_wp2
      all_goals go_roundw
      all_goals first
        | (simp [intOf]; omega)
        | exact ⟨k + 1, by omega, by go_num, by rw [← HA.out]; first | rfl | simp, hL'⟩
    · obtain rfl : k = n := by omega
      obtain ⟨lo, cm, rfl, hG⟩ := hL.grid
      go_wp2
      go_ret2
      exact ⟨lo, cm, rfl, hG, kk⟩

namespace Mt
theorem run_bit (x : Addr) (n ca i : Nat) (w : World) (hi : i < n) (hn : n ≤ ca) : (Instr.slice 41 (.slice (some x) n ca) (some (.int .i64 (i : Int))) (some (.int .i64 ((i : Int) + 1))) none).run Tryd.prog w = .ok (.slice (some (x.add i)) 1 (ca - i)) w := by
  have hu : Tryd.prog.underlying 41 = some (.slice (Tryd.prog.elem 41)) := by kernel_rfl
  have he : Tryd.prog.elem 41 = 2 := by kernel_rfl
  rw [run_slice_lh w 41 (some x) n ca hu .i64 .i64 _ _ (by omega) (by omega) (by omega), he, run_size8]
  have e1 : ((i : Int) + 1).toNat = i + 1 := by omega
  simp only [Result.andThen_ok, sliced, Int.toNat_natCast, e1, Nat.mul_one]
  have e2 : i + 1 - i = 1 := by omega
  rw [e2]
  first
    | rfl
    | (rw [if_neg (by omega)]; rfl)
    | simp [show ca ≠ i by omega]
theorem Sl.bit {w : World} {x : Addr} {n ca i : Nat} {z : Nat → Int} (h : Sl w (some x) n ca z) (hi : i < n) : Sl w (some (x.add i)) 1 (ca - i) (fun _ => z i) := by
  have h1 := h.le
  have h2 := h.cap
  refine ⟨by omega, by omega, fun k hk => ⟨_, rfl, ?_⟩⟩
  obtain rfl : k = 0 := by omega
  obtain ⟨y, hy, hc⟩ := h.at' i hi
  cases hy
  exact hc
end Mt

set_option maxRecDepth 10000 in
set_option maxHeartbeats 1000000 in
theorem router_any (n m ca cb : Nat) (ao bo : Option Addr) (a b : Nat → Int) (w : World) (h1 : 1 ≤ n) (h2 : n ≤ 6) (h3 : 1 ≤ m) (h4 : m ≤ 6) (ha : Sl w ao n ca a) (hb : Sl w bo m cb b) (ba : B64 a) (bb : B64 b) :
    Calls Tryd.prog 32 #[.slice ao n ca, .slice bo m cb] w fun e w' => ∃ lo cm, e = .returned (.tuple #[.slice lo n cm, .bool (any2 (fun i j => Qn.great (Qn.rne (a i * b j) (2 ^ 20))) n m)]) ∧ Grid w' lo n cm m (fun i j => Qn.clamp (Qn.rne (a i * b j) (2 ^ 20))) ∧ Below w.heap.size w w' := by
  obtain ⟨x, hao, hca⟩ := ha.get
  obtain ⟨y, hbo, hcb⟩ := hb.get
  obtain rfl := hao (by omega)
  obtain rfl := hbo (by omega)
  have l1 := ha.le
  have l2 := ha.cap
  have l3 := hb.le
  have l4 := hb.cap
  have HD : Hid (∀ i j, i < n → j < m → ∀ W, Below w.heap.size w W → Calls Tryd.prog 43 #[.slice (some (x.add i)) 1 (ca - i), .slice (some (y.add j)) 1 (cb - j), .int .i64 20] W fun e w' => e = .returned (.tuple #[.int .i64 ((fun i j => Qn.clamp (Qn.rne (a i * b j) (2 ^ 20))) i j), .bool ((fun i j => Qn.great (Qn.rne (a i * b j) (2 ^ 20))) i j)]) ∧ Below W.heap.size W w') := by
    intro i j hi hj W k
    have h := ldot_sl _ _ 1 _ _ (fun _ => a i) (fun _ => b j) 20 20 W rfl (by omega) (Sl.bit (ha.keep k) hi) (Sl.bit (hb.keep k) hj) (fun _ => ba i) (fun _ => bb j) (by omega)
    have e1 : dk (fun _ => a i) (fun _ => b j) 1 = a i * b j := by show 0 + a i * b j = _; omega
    rw [e1] at h
    exact h
  obtain ⟨R, hR⟩ : ∃ R : Nat → Nat → Int, R = fun i j => Qn.clamp (Qn.rne (a i * b j) (2 ^ 20)) := ⟨_, rfl⟩
  obtain ⟨H, hH⟩ : ∃ H : Nat → Nat → Bool, H = fun i j => Qn.great (Qn.rne (a i * b j) (2 ^ 20)) := ⟨_, rfl⟩
  rw [← hR, ← hH] at HD
  rw [← hR, ← hH]
  clear hR hH hao hbo hca hcb ha hb ba bb
  go_enter Tryd.func32, Tryd.ntmps32
  go_wp2
  go_loopw [6, 7, 8] (fun out an i wr => ∃ k : Nat, k ≤ n ∧ i = .int .i64 (k : Int) ∧ an = .bool (any2 H k m) ∧ Lst w.heap.size w wr out k m R) (fun _ _ i _ => n - (intOf i).toNat)
  case atStart => exact ⟨0, by omega, rfl, rfl, Lst.nil (Below.refl _ _) (Nat.le_refl _) _ _⟩
  case round =>
    rename World => wo
    obtain ⟨k, hk, rfl, rfl, hL⟩ := hrel
    have kk := hL.below
    by_cases h : k < n
    · have e1 := fun W => run_bit x n ca k W h l1
      have e3 : IntKind.i64.wrap ((k : Int) + 1) = (k : Int) + 1 := by rw [IntKind.wrap_i64]; omega
      go_wp2
      go_loopw [7, 9, 10] (fun an ps j ws => ∃ t : Nat, t ≤ m ∧ j = .int .i64 (t : Int) ∧ an = .bool (any2 H k m || anyb (H k) t) ∧ Own wo.heap.size wo ws ps t (R k)) (fun _ _ j _ => m - (intOf j).toNat)
      case atStart => exact ⟨0, by omega, rfl, by show _ = Value.bool (any2 H k m || false); rw [Bool.or_false], Own.nil (Below.refl _ _) (Nat.le_refl _) _⟩
      case round =>
        rename World => wi
        obtain ⟨t, ht, rfl, rfl, hown⟩ := hrel
        obtain ⟨T, hT⟩ : ∃ T, T = (any2 H k m || anyb (H k) t) := ⟨_, rfl⟩
        have kk2 := below_tr kk hown.below
        by_cases h5 : t < m
        · have e2 := fun W => run_bit y m cb t W h5 l3
          have e4 : IntKind.i64.wrap ((t : Int) + 1) = (t : Int) + 1 := by rw [IntKind.wrap_i64]; omega
          have HA := Hid.mkV (any2_col H k t m)
          have HCC := Hid.mkV (fun W (b : Below wi.heap.size wi W) => HD.out k t h h5 W (below_tr kk2 b))
          obtain ⟨r, hr⟩ : ∃ r, r = R k t := ⟨_, rfl⟩
          obtain ⟨g, hg⟩ : ∃ g, g = H k t := ⟨_, rfl⟩
          rw [← hr, ← hg] at HCC
          rw [← hT, ← hg] at HA
          rw [← hT]
          have HR := Hid.mkV hr
          clear hr hg hT
          go_wp2
          go_region_held3 (fun w' => True) (exact trivial)
            (first
              | (go_at_call 43; refine (HCC.out _ (Vc.below_drew' _)).mono ?_; rintro e w2 ⟨rfl, k2⟩
                 have kq : Below wi.heap.size wi w2 := below_tr (Vc.below_drew' _) k2
                 have hown2 := hown.keep kq))
          all_goals cases T
          all_goals go_wp2_with (at_builtin; refine wpList_push (by rfl) (.tmp 39) (.tmp 41) (by rfl) wo.heap.size wo _ t (R k) (by rfl) hown2 (by omega) r (by exact HR.out) (by rfl) ?_)
          all_goals intro v' w' hown'
          all_goals go_wp2
          all_goals go_roundw
          all_goals first
            | (simp [intOf]; omega)
            | exact ⟨t + 1, by omega, by go_num, by rw [HA.out]; first | rfl | simp, hown'⟩
        · obtain rfl : t = m := by omega
          obtain ⟨po, pc, rfl, hps, hpf⟩ := own_fresh hown
          have hL2 := hL.keep hown.below
          have HS := Hid.mkV hps
          have HAP := Hid.mkV (hL.apart (Nat.le_refl _) hpf)
          rw [← hT]
          have HT := Hid.mkV hT
          clear hps hpf hown hT
          go_wp2_with (at_builtin; refine wpList_pushS (by rfl) (.tmp 47) (.tmp 49) (by rfl) w.heap.size w _ k _ R (by rfl) hL2 (by omega) (by omega) po pc HS.out HAP.out (by rfl) ?_)
          intro v' w' hL'
          go_wp2
          go_roundw
          case rel => exact ⟨k + 1, by omega, by go_num, by rw [HT.out, any2_row], hL'⟩
          case measure => simp [intOf]; omega
    · obtain rfl : k = n := by omega
      obtain ⟨lo, cm, rfl, hG⟩ := hL.grid
      go_wp2
      go_ret2
      exact ⟨lo, cm, rfl, hG, kk⟩

namespace Mt
theorem dk_duo (a b : Int) : dk (fun k => if k = 0 then a else b) (fun k => if k = 0 then 1 else 1) 2 = a + b := by
  show 0 + a * 1 + b * 1 = a + b
  omega
theorem sl_two {w : World} {x : Addr} {a b : Int} (h : w.cell? x = some (.int .i64 a)) (h2 : w.cell? (x.add 1) = some (.int .i64 b)) : Sl w (some x) 2 2 (fun k => if k = 0 then a else b) :=
  ⟨Nat.le_refl _, by omega, fun k hk => ⟨x, rfl, by
    match k, hk with
    | 0, _ => exact h
    | 1, _ => exact h2⟩⟩
end Mt

theorem rhalf_any (a b : Int) (x y : Addr) (w : World) (ca : w.cell? x = some (.int .i64 a)) (cb : w.cell? (x.add 1) = some (.int .i64 b)) (d0 : w.cell? y = some (.int .i64 1)) (d1 : w.cell? (y.add 1) = some (.int .i64 1)) (ha0 : -9223372036854775808 ≤ a) (ha1 : a ≤ 9223372036854775807) (hb0 : -9223372036854775808 ≤ b) (hb1 : b ≤ 9223372036854775807) :
    Calls Tryd.prog 43 #[.slice (some x) 2 2, .slice (some y) 2 2, .int .i64 1] w fun e w' => e = .returned (.tuple #[.int .i64 (Qn.clamp (Qn.rne (a + b) (2 ^ 1))), .bool (Qn.great (Qn.rne (a + b) (2 ^ 1)))]) ∧ Below w.heap.size w w' := by
  have h := ldot_sl (some x) (some y) 2 2 2 (fun k => if k = 0 then a else b) (fun k => if k = 0 then 1 else 1) 1 1 w rfl (by omega) (sl_two ca cb) (sl_two d0 d1) (fun k => by show _ ≤ (if k = 0 then a else b) ∧ (if k = 0 then a else b) ≤ _; split <;> exact ⟨by assumption, by assumption⟩) (fun k => by show _ ≤ (if k = 0 then (1 : Int) else 1) ∧ (if k = 0 then (1 : Int) else 1) ≤ _; split <;> omega) (by omega)
  rw [dk_duo a b] at h
  exact h

set_option maxRecDepth 10000 in
set_option maxHeartbeats 1000000 in
theorem reven_any (n cm : Nat) (lo : Option Addr) (F : Nat → Nat → Int) (w : World) (h1 : 1 ≤ n) (h2 : n ≤ 6) (hg : Grid w lo n cm n F) (hF : B2 F) :
    Calls Tryd.prog 21 #[.slice lo n cm] w fun e w' => ∃ lo' cm', e = .returned (.tuple #[.slice lo' n cm', .bool (any2 (fun i j => Qn.great (Qn.rne (F i j + F j i) (2 ^ 1))) n n)]) ∧ Grid w' lo' n cm' n (fun i j => Qn.clamp (Qn.rne (F i j + F j i) (2 ^ 1))) ∧ Below w.heap.size w w' := by
  obtain ⟨A, C, h, hz⟩ := hg
  obtain ⟨x, hlo, hcl⟩ := h.get
  obtain rfl := hlo (by omega)
  have l1 := h.le
  have l2 := h.cap
  have HC := Hid.mkV hcl
  have HZ := Hid.mkV hz
  have HD := Hid.mkV (fun i j p q W ca cb d0 d1 => rhalf_any (F i j) (F j i) p q W ca cb d0 d1 (hF i j).1 (hF i j).2 (hF j i).1 (hF j i).2)
  obtain ⟨R, hR⟩ : ∃ R : Nat → Nat → Int, R = fun i j => Qn.clamp (Qn.rne (F i j + F j i) (2 ^ 1)) := ⟨_, rfl⟩
  obtain ⟨H, hH⟩ : ∃ H : Nat → Nat → Bool, H = fun i j => Qn.great (Qn.rne (F i j + F j i) (2 ^ 1)) := ⟨_, rfl⟩
  have HD' : Hid (∀ (i j : Nat) (p q : Addr) (W : World), W.cell? p = some (.int .i64 (F i j)) → W.cell? (p.add 1) = some (.int .i64 (F j i)) → W.cell? q = some (.int .i64 1) → W.cell? (q.add 1) = some (.int .i64 1) →
      Calls Tryd.prog 43 #[.slice (some p) 2 2, .slice (some q) 2 2, .int .i64 1] W fun e w' => e = .returned (.tuple #[.int .i64 (R i j), .bool (H i j)]) ∧ Below W.heap.size W w') := by rw [hR, hH]; exact HD.out
  rw [← hR, ← hH]
  clear hR hH HD h hlo hcl hz hF
  go_enter Tryd.func21, Tryd.ntmps21
  go_wp2
  go_loopw [4, 5, 6] (fun out an i wr => ∃ k : Nat, k ≤ n ∧ i = .int .i64 (k : Int) ∧ an = .bool (any2 H k n) ∧ Lst w.heap.size w wr out k n R) (fun _ _ i _ => n - (intOf i).toNat)
  case atStart => exact ⟨0, by omega, rfl, rfl, Lst.nil (Below.refl _ _) (Nat.le_refl _) _ _⟩
  case round =>
    rename World => wo
    obtain ⟨k, hk, rfl, rfl, hL⟩ := hrel
    have kk := hL.below
    by_cases h : k < n
    · go_wp2
      go_loopw [5, 7, 8] (fun an ps j ws => ∃ t : Nat, t ≤ n ∧ j = .int .i64 (t : Int) ∧ an = .bool (any2 H k n || anyb (H k) t) ∧ Own wo.heap.size wo ws ps t (R k)) (fun _ _ j _ => n - (intOf j).toNat)
      case atStart => exact ⟨0, by omega, rfl, by show _ = Value.bool (any2 H k n || false); rw [Bool.or_false], Own.nil (Below.refl _ _) (Nat.le_refl _) _⟩
      case round =>
        rename World => wi
        obtain ⟨t, ht, rfl, rfl, hown⟩ := hrel
        obtain ⟨T, hT⟩ : ∃ T, T = (any2 H k n || anyb (H k) t) := ⟨_, rfl⟩
        have kk2 := below_tr kk hown.below
        by_cases h5 : t < n
        · have c1 := keep_cell kk2 (HC.out k h)
          have c2 := keep_cell kk2 (HC.out t h5)
          obtain ⟨ya, hya, hyc⟩ := (HZ.out k h).get
          obtain ⟨yb, hyb, hyd⟩ := (HZ.out t h5).get
          have d1 := keep_cell kk2 (hyc t h5)
          have d2 := keep_cell kk2 (hyd k h)
          rw [hya (by omega)] at c1
          rw [hyb (by omega)] at c2
          have l5 := (HZ.out k h).le
          have l6 := (HZ.out k h).cap
          have l7 := (HZ.out t h5).le
          have l8 := (HZ.out t h5).cap
          have HA := Hid.mkV (any2_col H k t n)
          have HCC := Hid.mkV (HD'.out k t)
          obtain ⟨r, hr⟩ : ∃ r, r = R k t := ⟨_, rfl⟩
          obtain ⟨g, hg⟩ : ∃ g, g = H k t := ⟨_, rfl⟩
          obtain ⟨u, hu⟩ : ∃ u, u = F k t := ⟨_, rfl⟩
          obtain ⟨v, hv⟩ : ∃ v, v = F t k := ⟨_, rfl⟩
          obtain ⟨ck, hck⟩ : ∃ ck, ck = C k := ⟨_, rfl⟩
          obtain ⟨ct, hct⟩ : ∃ ct, ct = C t := ⟨_, rfl⟩
          rw [← hr, ← hg, ← hu, ← hv] at HCC
          rw [← hu] at d1
          rw [← hv] at d2
          rw [← hck] at c1 l5 l6
          rw [← hct] at c2 l7 l8
          rw [← hT, ← hg] at HA
          rw [← hT]
          have HR := Hid.mkV hr
          clear hr hg hu hv hck hct hT hya hyb hyc hyd
          go_upto_region 10 with fail
          go_cut [9, 10] (fun p q wx => p = .int .i64 r ∧ q = .bool g ∧ Below wi.heap.size wi wx)
          case first =>
            go_region_held3 (fun w' => w'.cell? (x.add k) = some (.slice (some ya) n ck) ∧ w'.cell? (x.add t) = some (.slice (some yb) n ct) ∧ w'.cell? (ya.add t) = some (.int .i64 u) ∧ w'.cell? (yb.add k) = some (.int .i64 v))
              (first
                | (refine ⟨keep_cell (W := wi) ?_ c1, keep_cell (W := wi) ?_ c2, keep_cell (W := wi) ?_ d1, keep_cell (W := wi) ?_ d2⟩ <;> first | with_reducible exact Below.refl _ _ | with_reducible exact Vc.below_drew' _ | with_reducible exact below_al (Vc.below_drew' _) _ | with_reducible exact below_al (below_al (Vc.below_drew' _) _) _ | with_reducible exact below_al (Below.refl _ _) _ | with_reducible exact (below_al (Below.refl _ _) _).drew | with_reducible exact (below_al (Vc.below_drew' _) _).drew | with_reducible exact below_al (below_al (Below.refl _ _) _) _ | with_reducible exact (below_al (below_al (Below.refl _ _) _) _).drew | with_reducible exact below_al (below_al (Below.refl _ _) _).drew _ | with_reducible exact (below_al (below_al (Below.refl _ _) _).drew _).drew | with_reducible exact (below_al (below_al (Vc.below_drew' _) _) _).drew | with_reducible exact below_al (below_al (Vc.below_drew' _) _).drew _ | with_reducible exact kq))
              (first
                | (go_at_call 43; refine (HCC.out _ _ _ (by go_simp) (by rw [Addr.add_lit]; go_simp) (by go_simp) (by rw [Addr.add_lit]; go_simp)).mono ?_; rintro e w2 ⟨rfl, k2⟩
                   have kq : Below wi.heap.size wi w2 := by refine below_tr ?_ k2; repeat (first | with_reducible exact Below.refl _ _ | with_reducible refine below_al ?_ _ | with_reducible refine Below.drew ?_)))
            all_goals go_wp2_with fail
            all_goals go_meet
            all_goals exact ⟨rfl, rfl, kq⟩
          case rest =>
            obtain ⟨rfl, rfl, kq⟩ := hcut
            have hown2 := hown.keep kq
            cases T
            all_goals go_wp2_with (at_builtin; refine wpList_push (by rfl) (.tmp 43) (.tmp 45) (by rfl) wo.heap.size wo _ t (R k) (by rfl) hown2 (by omega) r (by exact HR.out) (by rfl) ?_)
            all_goals intro v' w' hown'
            all_goals go_wp2
            all_goals go_roundw
            all_goals first
              | (simp [intOf]; omega)
              | exact ⟨t + 1, by omega, by go_num, by rw [HA.out]; first | rfl | simp, hown'⟩
        · obtain rfl : t = n := by omega
          obtain ⟨po, pc, rfl, hps, hpf⟩ := own_fresh hown
          have hL2 := hL.keep hown.below
          have HS := Hid.mkV hps
          have HAP := Hid.mkV (hL.apart (Nat.le_refl _) hpf)
          rw [← hT]
          have HT := Hid.mkV hT
          clear hps hpf hown hT
          go_wp2_with (at_builtin; refine wpList_pushS (by rfl) (.tmp 51) (.tmp 53) (by rfl) w.heap.size w _ k _ R (by rfl) hL2 (by omega) (by omega) po pc HS.out HAP.out (by rfl) ?_)
          intro v' w' hL'
          go_wp2
          go_roundw
          case rel => exact ⟨k + 1, by omega, by go_num, by rw [HT.out, any2_row], hL'⟩
          case measure => simp [intOf]; omega
    · obtain rfl : k = n := by omega
      obtain ⟨lo, cm, rfl, hG⟩ := hL.grid
      go_wp2
      go_ret2
      exact ⟨lo, cm, rfl, hG, kk⟩

end Go.Proofs.YtgmagehgnjopcaaDoor
