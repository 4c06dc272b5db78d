/-
  The document's answer of layer 7 (radomeref07): Add, less or not.
-/
import Derived.Test.YtgmagehgnjopcaaDoorVcA
import Derived.Test.YtgmagehgnjopcaaDoorNumR
import Derived.Test.YtgmagehgnjopcaaDoorRefS
import Derived.Deep.DeepCutAuto
import Derived.Deep.RegionHeld3
set_option linter.unusedSimpArgs false
set_option linter.unusedVariables false
namespace Go.Proofs.YtgmagehgnjopcaaDoor
open Go.RowKit Vc Dec

namespace Vc
theorem digs_short {z : Int} (h0 : -99999999999999999999 ≤ z) (h1 : z ≤ 99999999999999999999) : (digs z.natAbs).length ≤ 1000000 := by
  have := length_digs_le (show z.natAbs < 10 ^ 20 by omega)
  omega

theorem bound_is (v : Value) (z : Int) (w : World) (hz : (digs z.natAbs).length ≤ 1000000) (h : IsNum w v z) :
    Calls Tryd.prog 68 #[v] w fun e w' => e = .returned (.tuple #[.int .i64 (Qn.clamp z), .bool (Qn.great z)]) ∧ Below w.heap.size w w' := by
  unfold Qn.clamp Qn.great
  exact bound_any v z w hz h
/-- A number in a variable's block. -/
def NumAt (w : World) (g : Nat) (z : Int) : Prop := ∃ a L c, Row2 w g (.bool (decide (z < 0))) (.slice a L c) ∧ IsNum w (.agg #[.bool (decide (z < 0)), .slice a L c]) z
/-- A number into a variable: its block is new, or elder. -/
theorem into_new {B : Nat} {w w5 : World} {z : Int} {a : Option Addr} {L c : Nat} (hB : Below B w w5) (i1 : IsNum w5 (.agg #[.bool (decide (z < 0)), .slice a L c]) z) (hs : B ≤ w5.heap.size) :
    NumAt (w5.alloc (.cells #[.bool (decide (z < 0)), .slice a L c] 108)) w5.heap.size z ∧ Below B w (w5.alloc (.cells #[.bool (decide (z < 0)), .slice a L c] 108)) :=
  ⟨⟨a, L, c, row2_new w5 _ _, i1.alloc _⟩, hB.trans ((below_al (Below.refl _ _) _).mono hs)⟩
theorem into_old {B g : Nat} {w w5 : World} {z : Int} {a : Option Addr} {L c : Nat} (hB : Below B w w5) {p : Bool} {ao : Option Addr} {n cc : Nat} (r : Row2 w5 g (.bool p) (.slice ao n cc)) (hg : B ≤ g) (i1 : IsNum w5 (.agg #[.bool (decide (z < 0)), .slice a L c]) z) :
    NumAt ((w5.setCell ⟨g, 0, none⟩ (.bool (decide (z < 0)))).setCell ⟨g, 1, none⟩ (.slice a L c)) g z ∧ Below B w ((w5.setCell ⟨g, 0, none⟩ (.bool (decide (z < 0)))).setCell ⟨g, 1, none⟩ (.slice a L c)) :=
  ⟨⟨a, L, c, r.set2 _ _, i1.row2 r _ _⟩, below_set2 hB hg _ _⟩
end Vc

set_option maxRecDepth 20000 in
set_option maxHeartbeats 1000000 in
/-- With whose slice it is. -/
theorem radd_no_own (n ca cb : Nat) (ao bo : Option Addr) (za zb : Nat → Int) (w : World) (hn : n ≤ 6) (ha : Sl w ao n ca za) (hb : Sl w bo n cb zb) (ba : B64 za) (bb : B64 zb) :
    Calls Tryd.prog 49 #[.slice ao n ca, .slice bo n cb, .bool false] w fun e w' => ∃ co cc, e = .returned (.tuple #[.slice co n cc, .bool (anyb (fun k => Qn.great (za k + zb k)) n)]) ∧ Own w.heap.size w w' (.slice co n cc) n (fun k => Qn.clamp (za k + zb k)) := by
  obtain ⟨xa, hao, hca⟩ := ha.get
  obtain ⟨xb, hbo, hcb⟩ := hb.get
  have h1 := ha.le
  have h2 := ha.cap
  have h3 := hb.le
  have h4 := hb.cap
  have HAO := Hid.mkV hao
  have HBO := Hid.mkV hbo
  have HCA := Hid.mkV hca
  have HCB := Hid.mkV hcb
  have HBA := Hid.mkV ba
  have HBB := Hid.mkV bb
  obtain ⟨r, hr⟩ : ∃ r : Nat → Int, r = fun k => Qn.clamp (za k + zb k) := ⟨_, rfl⟩
  obtain ⟨g, hg⟩ : ∃ g : Nat → Bool, g = fun k => Qn.great (za k + zb k) := ⟨_, rfl⟩
  have HBD : Hid (∀ k v W, IsNum W v (za k + zb k) → Calls Tryd.prog 68 #[v] W fun e w' => e = .returned (.tuple #[.int .i64 (r k), .bool (g k)]) ∧ Below W.heap.size W w') := by
    rw [hr, hg]
    exact fun k v W h => bound_is v _ W (digs_short (by have := ba k; have := bb k; omega) (by have := ba k; have := bb k; omega)) h
  rw [← hr, ← hg]
  clear hr hg ha hb hao hbo hca hcb ba bb
  go_enter Tryd.func49, Tryd.ntmps49
  go_wp2
  go_loopw [8, 9, 10] (fun out an i wr => ∃ k : Nat, k ≤ n ∧ i = .int .i64 (k : Int) ∧ an = .bool (anyb g k) ∧ Own w.heap.size w wr out k r) (fun _ _ i _ => n - (intOf i).toNat)
  case atStart => exact ⟨0, by omega, rfl, rfl, Own.nil (Below.refl _ _) (Nat.le_refl _) _⟩
  case round =>
    rename World => wo
    obtain ⟨k, hk, rfl, rfl, hown⟩ := hrel
    by_cases h : k < n
    · obtain rfl := HAO.out (by omega)
      obtain rfl := HBO.out (by omega)
      have c1 := keep_cell hown.below (HCA.out k h)
      have c2 := keep_cell hown.below (HCB.out k h)
      have pa := HBA.out k
      have pb := HBB.out k
      have HA : Hid (anyb g (k + 1) = (anyb g k || g k)) := rfl
      have HC := Hid.mkV (HBD.out k)
      obtain ⟨R, hR⟩ : ∃ R, R = r k := ⟨_, rfl⟩
      obtain ⟨G, hG⟩ : ∃ G, G = g k := ⟨_, rfl⟩
      obtain ⟨T, hT⟩ : ∃ T, T = anyb g k := ⟨_, rfl⟩
      obtain ⟨P, hP⟩ : ∃ P, P = za k := ⟨_, rfl⟩
      obtain ⟨Q, hQ⟩ : ∃ Q, Q = zb k := ⟨_, rfl⟩
      rw [← hR, ← hG, ← hP, ← hQ] at HC
      rw [← hT, ← hG] at HA
      rw [← hT]
      rw [← hP] at c1 pa
      rw [← hQ] at c2 pb
      have HR := Hid.mkV hR
      clear hR hG hT hP hQ HBD HCA HCB HBA HBB HAO HBO
      have OA := Hid.mkV (fun W => of_any P W pa.1 pa.2)
      have OB := Hid.mkV (fun W => of_any Q W pb.1 pb.2)
      have AD := Hid.mkV (fun va vb W => add_any va vb P Q W (digs_short (by omega) (by omega)) (digs_short (by omega) (by omega)))
      obtain ⟨S, hS⟩ : ∃ S, S = P + Q := ⟨_, rfl⟩
      rw [← hS] at AD HC
      clear hS
      have hnew : w.heap.size ≤ wo.heap.size := hown.base
      go_upto_region 6 with fail
      go_cut [11] (fun p wx => ∃ gn : Nat, p = .pointer (some ⟨gn, 0, none⟩) ∧ NumAt wx gn S ∧ wo.heap.size ≤ gn ∧ Below wo.heap.size wo wx)
      case first =>
        go_region_held3 (fun w' => w'.cell? (xa.add k) = some (.int .i64 P) ∧ w'.cell? (xb.add k) = some (.int .i64 Q)) (first
          | (refine ⟨keep_cell (W := wo) ?_ c1, keep_cell (W := wo) ?_ c2⟩ <;> first | with_reducible exact Below.refl _ _ | with_reducible exact below_drew' _ | with_reducible exact below_al (Below.refl _ _) _ | with_reducible exact (below_al (Below.refl _ _) _).drew | with_reducible exact below_al (below_drew' _) _ | with_reducible exact kX | with_reducible exact below_al kX _ | with_reducible exact kY | with_reducible exact below_al kY _ | with_reducible exact kZ | with_reducible exact below_al kZ _ | with_reducible exact below_set2 kZ (by omega) _ _))
          (first
          | (go_at_call_of 66 (Value.int IntKind.i64 P); refine (OA.out _).mono ?_; rintro e w3 ⟨v3, rfl, i3, k3⟩
             have kX : Below wo.heap.size wo w3 := by first | exact below_tr (below_drew' _) k3 | exact below_tr (below_al (Below.refl _ _) _).drew k3 | exact below_tr (below_al (below_drew' _) _) k3
             have z3 := kX.size
             try (have r0 : Row2 w3 wo.heap.size (.bool false) (.slice none 0 0) := by first | exact (row2_new wo _ _).drew.keep k3 | exact (row2_new wo _ _).keep k3))
          | (go_at_call_of 66 (Value.int IntKind.i64 Q); refine (OB.out _).mono ?_; rintro e w4 ⟨v4, rfl, i4, k4⟩
             have kq : Below w3.heap.size w3 w4 := by first | exact k4 | exact below_tr (below_al (Below.refl _ _) _) k4
             have kY := below_tr kX kq
             have i3' := i3.below kq
             have z4 := kq.size
             try (have r0' := r0.keep kq)
             try (have s0 : Row2 w4 w3.heap.size (.bool false) (.slice none 0 0) := (row2_new w3 _ _).keep k4))
          | (go_at_call 65; refine (AD.out _ _ _ (i3'.below ?_) (i4.below ?_)).mono ?_
             · first | exact Below.refl _ _ | exact below_al (Below.refl _ _) _
             · first | exact Below.refl _ _ | exact below_al (Below.refl _ _) _
             rintro e w5 ⟨v5, rfl, i5, k5⟩
             have kr : Below w4.heap.size w4 w5 := by first | exact k5 | exact below_tr (below_al (Below.refl _ _) _) k5
             have kZ := below_tr kY kr
             obtain ⟨a5, L5, c5, e5⟩ := i5.form; subst e5
             have z5 := kr.size
             try (have r1 := r0'.keep kr; have q0 := r1.c0; have q1 := r1.c1; have q2 := r1.free 0; have q3 := r1.free 1)
             try (have s1 := s0.keep kr; have q0 := s1.c0; have q1 := s1.c1; have q2 := s1.free 0; have q3 := s1.free 1)
             try (have t1 : Row2 w5 w4.heap.size (.bool false) (.slice none 0 0) := (row2_new w4 _ _).keep k5; have q0 := t1.c0; have q1 := t1.c1; have q2 := t1.free 0; have q3 := t1.free 1)))
        all_goals go_wp2_with fail
        all_goals go_meet
        all_goals refine ⟨_, rfl, ?_⟩
        all_goals first
          | (have h := into_new kZ i5 (by omega); with_reducible exact ⟨h.1, by omega, h.2⟩)
          | (have h := into_old kZ r1 (by omega) i5; with_reducible exact ⟨h.1, by omega, h.2⟩)
          | (have h := into_old kZ s1 (by omega) i5; with_reducible exact ⟨h.1, by omega, h.2⟩)
          | (have h := into_old kZ t1 (by omega) i5; with_reducible exact ⟨h.1, by omega, h.2⟩)
      case rest =>
        obtain ⟨gn, rfl, ⟨a6, L6, c6, hrow, inum⟩, hgn, kB⟩ := hcut
        have y0 := hrow.c0
        have y1 := hrow.c1
        have hownB := hown.keep kB
        clear hrow
        go_wp2_with fail
        refine (HC.out _ _ inum).mono ?_
        rintro e w7 ⟨rfl, k7⟩
        have hownC := hownB.keep k7
        cases T
        all_goals go_wp2_with (at_builtin; refine wpList_push (by rfl) (.tmp 48) (.tmp 50) (by rfl) w.heap.size w _ k r (by rfl) hownC (by omega) R (by exact HR.out) (by rfl) ?_)
        all_goals intro v' w' hown'
        all_goals go_wp2
        all_goals go_roundw
        all_goals first
          | (simp [intOf]; omega)
          | exact ⟨k + 1, by omega, by go_num, by rw [HA.out]; first | rfl | simp, hown'⟩
    · obtain rfl : k = n := by omega
      obtain ⟨co, cc, rfl, hs⟩ := hown.sl
      go_wp2
      go_ret2
      exact ⟨_, _, rfl, hown⟩

theorem radd_no (n ca cb : Nat) (ao bo : Option Addr) (za zb : Nat → Int) (w : World) (hn : n ≤ 6) (ha : Sl w ao n ca za) (hb : Sl w bo n cb zb) (ba : B64 za) (bb : B64 zb) :
    Calls Tryd.prog 49 #[.slice ao n ca, .slice bo n cb, .bool false] w fun e w' => ∃ co cc, e = .returned (.tuple #[.slice co n cc, .bool (anyb (fun k => Qn.great (za k + zb k)) n)]) ∧ Sl w' co n cc (fun k => Qn.clamp (za k + zb k)) ∧ Below w.heap.size w w' := by
  refine (radd_no_own n ca cb ao bo za zb w hn ha hb ba bb).mono ?_
  rintro e w1 ⟨co, cc, rfl, ho⟩
  obtain ⟨co', cc', e1, hs⟩ := ho.sl
  cases e1
  exact ⟨_, _, rfl, hs, ho.below⟩

set_option maxRecDepth 20000 in
set_option maxHeartbeats 1000000 in
/-- With whose slice it is. -/
theorem radd_yes_own (n ca cb : Nat) (ao bo : Option Addr) (za zb : Nat → Int) (w : World) (hn : n ≤ 6) (ha : Sl w ao n ca za) (hb : Sl w bo n cb zb) (ba : B64 za) (bb : B64 zb) :
    Calls Tryd.prog 49 #[.slice ao n ca, .slice bo n cb, .bool true] w fun e w' => ∃ co cc, e = .returned (.tuple #[.slice co n cc, .bool (anyb (fun k => Qn.great (za k - zb k)) n)]) ∧ Own w.heap.size w w' (.slice co n cc) n (fun k => Qn.clamp (za k - zb k)) := by
  obtain ⟨xa, hao, hca⟩ := ha.get
  obtain ⟨xb, hbo, hcb⟩ := hb.get
  have h1 := ha.le
  have h2 := ha.cap
  have h3 := hb.le
  have h4 := hb.cap
  have HAO := Hid.mkV hao
  have HBO := Hid.mkV hbo
  have HCA := Hid.mkV hca
  have HCB := Hid.mkV hcb
  have HBA := Hid.mkV ba
  have HBB := Hid.mkV bb
  obtain ⟨r, hr⟩ : ∃ r : Nat → Int, r = fun k => Qn.clamp (za k - zb k) := ⟨_, rfl⟩
  obtain ⟨g, hg⟩ : ∃ g : Nat → Bool, g = fun k => Qn.great (za k - zb k) := ⟨_, rfl⟩
  have HBD : Hid (∀ k v W, IsNum W v (za k - zb k) → Calls Tryd.prog 68 #[v] W fun e w' => e = .returned (.tuple #[.int .i64 (r k), .bool (g k)]) ∧ Below W.heap.size W w') := by
    rw [hr, hg]
    exact fun k v W h => bound_is v _ W (digs_short (by have := ba k; have := bb k; omega) (by have := ba k; have := bb k; omega)) h
  rw [← hr, ← hg]
  clear hr hg ha hb hao hbo hca hcb ba bb
  go_enter Tryd.func49, Tryd.ntmps49
  go_wp2
  go_loopw [8, 9, 10] (fun out an i wr => ∃ k : Nat, k ≤ n ∧ i = .int .i64 (k : Int) ∧ an = .bool (anyb g k) ∧ Own w.heap.size w wr out k r) (fun _ _ i _ => n - (intOf i).toNat)
  case atStart => exact ⟨0, by omega, rfl, rfl, Own.nil (Below.refl _ _) (Nat.le_refl _) _⟩
  case round =>
    rename World => wo
    obtain ⟨k, hk, rfl, rfl, hown⟩ := hrel
    by_cases h : k < n
    · obtain rfl := HAO.out (by omega)
      obtain rfl := HBO.out (by omega)
      have c1 := keep_cell hown.below (HCA.out k h)
      have c2 := keep_cell hown.below (HCB.out k h)
      have pa := HBA.out k
      have pb := HBB.out k
      have HA : Hid (anyb g (k + 1) = (anyb g k || g k)) := rfl
      have HC := Hid.mkV (HBD.out k)
      obtain ⟨R, hR⟩ : ∃ R, R = r k := ⟨_, rfl⟩
      obtain ⟨G, hG⟩ : ∃ G, G = g k := ⟨_, rfl⟩
      obtain ⟨T, hT⟩ : ∃ T, T = anyb g k := ⟨_, rfl⟩
      obtain ⟨P, hP⟩ : ∃ P, P = za k := ⟨_, rfl⟩
      obtain ⟨Q, hQ⟩ : ∃ Q, Q = zb k := ⟨_, rfl⟩
      rw [← hR, ← hG, ← hP, ← hQ] at HC
      rw [← hT, ← hG] at HA
      rw [← hT]
      rw [← hP] at c1 pa
      rw [← hQ] at c2 pb
      have HR := Hid.mkV hR
      clear hR hG hT hP hQ HBD HCA HCB HBA HBB HAO HBO
      have OA := Hid.mkV (fun W => of_any P W pa.1 pa.2)
      have OB := Hid.mkV (fun W => of_any Q W pb.1 pb.2)
      have AD := Hid.mkV (fun va vb W => add_any va vb P Q W (digs_short (by omega) (by omega)) (digs_short (by omega) (by omega)))
      have SB := Hid.mkV (fun va vb W => sub_any va vb P Q W (digs_short (by omega) (by omega)) (digs_short (by omega) (by omega)))
      obtain ⟨D, hD⟩ : ∃ D, D = P - Q := ⟨_, rfl⟩
      rw [← hD] at SB HC
      clear hD
      obtain ⟨S, hS⟩ : ∃ S, S = P + Q := ⟨_, rfl⟩
      rw [← hS] at AD
      clear hS
      have hnew : w.heap.size ≤ wo.heap.size := hown.base
      go_upto_region 6 with fail
      go_cut [11] (fun p wx => ∃ gn : Nat, p = .pointer (some ⟨gn, 0, none⟩) ∧ NumAt wx gn S ∧ wo.heap.size ≤ gn ∧ Below wo.heap.size wo wx)
      case first =>
        go_region_held3 (fun w' => w'.cell? (xa.add k) = some (.int .i64 P) ∧ w'.cell? (xb.add k) = some (.int .i64 Q)) (first
          | (refine ⟨keep_cell (W := wo) ?_ c1, keep_cell (W := wo) ?_ c2⟩ <;> first | with_reducible exact Below.refl _ _ | with_reducible exact below_drew' _ | with_reducible exact below_al (Below.refl _ _) _ | with_reducible exact (below_al (Below.refl _ _) _).drew | with_reducible exact below_al (below_drew' _) _ | with_reducible exact kX | with_reducible exact below_al kX _ | with_reducible exact kY | with_reducible exact below_al kY _ | with_reducible exact kZ | with_reducible exact below_al kZ _ | with_reducible exact below_set2 kZ (by omega) _ _))
          (first
          | (go_at_call_of 66 (Value.int IntKind.i64 P); refine (OA.out _).mono ?_; rintro e w3 ⟨v3, rfl, i3, k3⟩
             have kX : Below wo.heap.size wo w3 := by first | exact below_tr (below_drew' _) k3 | exact below_tr (below_al (Below.refl _ _) _).drew k3 | exact below_tr (below_al (below_drew' _) _) k3
             have z3 := kX.size
             try (have r0 : Row2 w3 wo.heap.size (.bool false) (.slice none 0 0) := by first | exact (row2_new wo _ _).drew.keep k3 | exact (row2_new wo _ _).keep k3))
          | (go_at_call_of 66 (Value.int IntKind.i64 Q); refine (OB.out _).mono ?_; rintro e w4 ⟨v4, rfl, i4, k4⟩
             have kq : Below w3.heap.size w3 w4 := by first | exact k4 | exact below_tr (below_al (Below.refl _ _) _) k4
             have kY := below_tr kX kq
             have i3' := i3.below kq
             have z4 := kq.size
             try (have r0' := r0.keep kq)
             try (have s0 : Row2 w4 w3.heap.size (.bool false) (.slice none 0 0) := (row2_new w3 _ _).keep k4))
          | (go_at_call 65; refine (AD.out _ _ _ (i3'.below ?_) (i4.below ?_)).mono ?_
             · first | exact Below.refl _ _ | exact below_al (Below.refl _ _) _
             · first | exact Below.refl _ _ | exact below_al (Below.refl _ _) _
             rintro e w5 ⟨v5, rfl, i5, k5⟩
             have kr : Below w4.heap.size w4 w5 := by first | exact k5 | exact below_tr (below_al (Below.refl _ _) _) k5
             have kZ := below_tr kY kr
             obtain ⟨a5, L5, c5, e5⟩ := i5.form; subst e5
             have z5 := kr.size
             try (have r1 := r0'.keep kr; have q0 := r1.c0; have q1 := r1.c1; have q2 := r1.free 0; have q3 := r1.free 1)
             try (have s1 := s0.keep kr; have q0 := s1.c0; have q1 := s1.c1; have q2 := s1.free 0; have q3 := s1.free 1)
             try (have t1 : Row2 w5 w4.heap.size (.bool false) (.slice none 0 0) := (row2_new w4 _ _).keep k5; have q0 := t1.c0; have q1 := t1.c1; have q2 := t1.free 0; have q3 := t1.free 1)))
        all_goals go_wp2_with fail
        all_goals go_meet
        all_goals refine ⟨_, rfl, ?_⟩
        all_goals first
          | (have h := into_new kZ i5 (by omega); with_reducible exact ⟨h.1, by omega, h.2⟩)
          | (have h := into_old kZ r1 (by omega) i5; with_reducible exact ⟨h.1, by omega, h.2⟩)
          | (have h := into_old kZ s1 (by omega) i5; with_reducible exact ⟨h.1, by omega, h.2⟩)
          | (have h := into_old kZ t1 (by omega) i5; with_reducible exact ⟨h.1, by omega, h.2⟩)
      case rest =>
        obtain ⟨gn, rfl, ⟨a6, L6, c6, hrow, inum⟩, hgn, kB⟩ := hcut
        rename World => wp
        have d1 := keep_cell kB c1
        have d2 := keep_cell kB c2
        have n1 : ¬ xa.block = gn := by have := World.block_lt_of_cell? wo _ c1; have e : (xa.add k).block = xa.block := (by unfold Addr.add; split <;> rfl); omega
        have n2 : ¬ xb.block = gn := by have := World.block_lt_of_cell? wo _ c2; have e : (xb.add k).block = xb.block := (by unfold Addr.add; split <;> rfl); omega
        have zB := kB.size
        go_upto_region 8 with fail
        go_cut [] (fun wx => NumAt wx gn D ∧ Below wo.heap.size wo wx)
        case first =>
          go_region_held3 (fun w' => w'.cell? (xa.add k) = some (.int .i64 P) ∧ w'.cell? (xb.add k) = some (.int .i64 Q)) (first
              | (refine ⟨keep_cell (W := wp) ?_ d1, keep_cell (W := wp) ?_ d2⟩ <;> first | with_reducible exact Below.refl _ _ | with_reducible exact below_drew' _ | with_reducible exact kX | with_reducible exact kY | with_reducible exact kZ)
              | with_reducible exact ⟨keep_cell (below_set2 (kB.trans (kZ.mono zB)) hgn _ _) c1, keep_cell (below_set2 (kB.trans (kZ.mono zB)) hgn _ _) c2⟩)
            (first
              | (go_at_call_of 66 (Value.int IntKind.i64 P); refine (OA.out _).mono ?_; rintro e w3 ⟨v3, rfl, i3, k3⟩
                 have kX : Below wp.heap.size wp w3 := below_tr (below_drew' _) k3)
              | (go_at_call_of 66 (Value.int IntKind.i64 Q); refine (OB.out _).mono ?_; rintro e w4 ⟨v4, rfl, i4, k4⟩
                 have kY := below_tr kX k4
                 have i3' := i3.below k4)
              | (go_at_call 67; refine (SB.out _ _ _ i3' i4).mono ?_
                 rintro e w5 ⟨v5, rfl, i5, k5⟩
                 have kZ := below_tr kY k5
                 obtain ⟨a5, L5, c5, e5⟩ := i5.form; subst e5
                 have r1 := hrow.keep kZ; have q0 := r1.c0; have q1 := r1.c1; have q2 := r1.free 0; have q3 := r1.free 1))
          all_goals go_wp2_with fail
          all_goals go_meet
          all_goals exact into_old (kB.trans (kZ.mono zB)) r1 hgn i5
        case rest =>
          obtain ⟨⟨a7, L7, c7, hrow7, inum7⟩, kC⟩ := hcut
          have y0 := hrow7.c0
          have y1 := hrow7.c1
          have hownB := hown.keep kC
          clear hrow hrow7 inum kB d1 d2 n1 n2
          go_wp2_with fail
          refine (HC.out _ _ inum7).mono ?_
          rintro e w7 ⟨rfl, k7⟩
          have hownC := hownB.keep k7
          cases T
          all_goals go_wp2_with (at_builtin; refine wpList_push (by rfl) (.tmp 48) (.tmp 50) (by rfl) w.heap.size w _ k r (by rfl) hownC (by omega) R (by exact HR.out) (by rfl) ?_)
          all_goals intro v' w' hown'
          all_goals go_wp2
          all_goals go_roundw
          all_goals first
            | (simp [intOf]; omega)
            | exact ⟨k + 1, by omega, by go_num, by rw [HA.out]; first | rfl | simp, hown'⟩
    · obtain rfl : k = n := by omega
      obtain ⟨co, cc, rfl, hs⟩ := hown.sl
      go_wp2
      go_ret2
      exact ⟨_, _, rfl, hown⟩

theorem radd_yes (n ca cb : Nat) (ao bo : Option Addr) (za zb : Nat → Int) (w : World) (hn : n ≤ 6) (ha : Sl w ao n ca za) (hb : Sl w bo n cb zb) (ba : B64 za) (bb : B64 zb) :
    Calls Tryd.prog 49 #[.slice ao n ca, .slice bo n cb, .bool true] w fun e w' => ∃ co cc, e = .returned (.tuple #[.slice co n cc, .bool (anyb (fun k => Qn.great (za k - zb k)) n)]) ∧ Sl w' co n cc (fun k => Qn.clamp (za k - zb k)) ∧ Below w.heap.size w w' := by
  refine (radd_yes_own n ca cb ao bo za zb w hn ha hb ba bb).mono ?_
  rintro e w1 ⟨co, cc, rfl, ho⟩
  obtain ⟨co', cc', e1, hs⟩ := ho.sl
  cases e1
  exact ⟨_, _, rfl, hs, ho.below⟩

end Go.Proofs.YtgmagehgnjopcaaDoor
