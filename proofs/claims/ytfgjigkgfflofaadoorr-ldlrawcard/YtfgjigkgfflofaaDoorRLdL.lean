/-
  Factors (ldl): Far, Log; and the errors of Solve, Far and Log.
-/
import Derived.Test.YtfgjigkgfflofaaDoorRLdK
import Derived.Test.YtfgjigkgfflofaaDoorRGwC
set_option linter.unusedSimpArgs false
set_option linter.unusedVariables false
namespace Go.Proofs.YtfgjigkgfflofaaDoorR
open Go.RowKit Vc Mt St Qn Dt Ld

set_option maxRecDepth 10000 in
set_option maxHeartbeats 2000000 in
theorem lfar_any (n : Nat) (vo : Option Addr) (vc : Nat) (v : Nat → Int) (L : Nat → Nat → Int) (d : Nat → Int) (w : World) (hm : FMay n (mz n n L) d) (hv : Sl w vo n vc v) (bv : B64 v) (bL : ∀ a, B64 (L a)) :
    Calls Tryd.prog 7 #[.agg (fvals n (mz n n L) d).toArray, .slice vo n vc] w fun e w' => e = .returned (.tuple #[.int .i64 (farV (downV L v n) d n), .bool (downO L v n || farO (downV L v n) d n), .nilIface]) ∧ Below w.heap.size w w' := by
  obtain ⟨h1, hn⟩ := FMay.n hm
  have rF : FRow (w.alloc (.cells (fvals n (mz n n L) d).toArray 26)) w.heap.size n (mz n n L) d := crow_new w _ _
  have hB := below_al (Below.refl _ w) (.cells (fvals n (mz n n L) d).toArray 26)
  have hvW := hv.keep hB
  obtain ⟨W, hW⟩ : ∃ W, W = w.alloc (.cells (fvals n (mz n n L) d).toArray 26) := ⟨_, rfl⟩
  obtain ⟨g, hg⟩ : ∃ g, g = w.heap.size := ⟨_, rfl⟩
  rw [← hW] at rF hB hvW
  rw [← hg] at rF
  have HC := fcheck_any n (mz n n L) d W
  rw [resC_yes hm] at HC
  have HCk := Hid.mkV HC
  have HW := Hid.mkV hW
  have HG := Hid.mkV hg
  have hvx : ∀ x, vo = some x → x.block < w.heap.size := fun x hx => by
    obtain ⟨y, hy, hc⟩ := hv.at' 0 (by omega)
    rw [hx] at hy
    cases hy
    have := World.block_lt_of_cell? w _ hc
    rw [addr_block] at this
    exact this
  have HVX := Hid.mkV hvx
  have HDn := Hid.mkV (fun (s : Nat) (o : Bool) W (H1 : FRow W g n (mz n n L) d) (H2 : SRow W s o) (hgs : g ≠ s) (H3 : Sl W vo n vc v) (H4 : ∀ x, vo = some x → x.block ≠ s) => ldown_any g s n vo vc v L d o W H1 H2 hgs H3 H4 bv h1 hn bL)
  have by' := downV_bd L v n
  obtain ⟨y, hy⟩ : ∃ y, y = downV L v n := ⟨_, rfl⟩
  rw [← hy] at HDn by' ⊢
  have HM := Hid.mkV (fun k W => qmul_any (y k) (y k) 20 W (by have := by' k; omega) (by have := by' k; omega) (by have := by' k; omega) (by have := by' k; omega) (by omega))
  have HQ := Hid.mkV (fun k (hk : k < n) W => qdiv_any (clamp (rne (y k * y k) (2 ^ 20))) (d k) 20 W (by have := clamp_bd (rne (y k * y k) (2 ^ 20)); omega) (by have := clamp_bd (rne (y k * y k) (2 ^ 20)); omega) (by have := FMay.d hm hk; omega) (by have := FMay.d hm hk; omega) (by have := FMay.d hm hk; omega) (by omega))
  have eQ : Hid (∀ x k, signed x (d k) (clamp (rne ((x.natAbs : Int) * 2 ^ 20) ((d k).natAbs : Int))) = divV x (d k) 20 ∧ great (rne ((x.natAbs : Int) * 2 ^ 20) ((d k).natAbs : Int)) = divO x (d k) 20) := fun x k => ⟨rfl, rfl⟩
  have l1 := hv.le
  have l2 := hv.cap
  have hgW : g < W.heap.size := rF.lt
  clear hy hW hg hvx bv bL hm HC by'
  go_enter Tryd.func7, Tryd.ntmps7
  go_wp2_with (first
    | (rw [← HW.out, ← HG.out]; refine St.wpList_load isF (by rfl) _ (by rfl) _ _ (by rfl) (by with_reducible exact rF) (fvals_len _ _ _) ?_)
    | fail)
  refine HCk.out.mono ?_
  rintro e w1 ⟨rfl, k1⟩
  have F1 := CRow.keep rF k1
  have V1 := hvW.keep k1
  have B1 := below_tr hB k1
  have cN := FRow.n F1
  have z1 := k1.size
  clear rF HCk hB k1 hvW
  have F2 := CRow.alloc F1 (.cells #[.bool false] 45)
  have S2 : SRow (w1.alloc (.cells #[.bool false] 45)) w1.heap.size false := crow_new w1 _ _
  have V2 := V1.keep (below_al (Below.refl _ w1) (.cells #[.bool false] 45))
  have B2 := below_al B1 (.cells #[.bool false] 45)
  have z2 : g < w1.heap.size := F1.lt
  have HX2 : Hid (∀ x, vo = some x → x.block ≠ w1.heap.size) := fun x hx => by
    have h := HVX.out x hx
    have h2 := HG.out
    omega
  go_wp2_with fail
  refine (HDn.out w1.heap.size false _ F2 S2 (by omega) V2 HX2.out).mono ?_
  rintro e w3 ⟨b, rfl, hb, N3, S3, k3⟩
  have F3 := crowBut F2 k3 (by omega)
  have B3 := k3.below B2 (by have := B2.size; omega) (fun k hk => by have := B1.size; omega)
  have zb : w1.heap.size < b := by simp at hb; omega
  obtain ⟨s, hs⟩ : ∃ s, s = w1.heap.size := ⟨_, rfl⟩
  rw [← hs] at S3 z2 zb ⊢
  have hsB : w.heap.size ≤ s := by have := B1.size; omega
  have hgB : w.heap.size ≤ g := by have := HG.out; omega
  clear F2 S2 V2 HX2 HDn F1 V1 cN B2 hs hb k3 HVX
  go_wp2
  go_loopw [26, 8] (fun i a wr => ∃ k : Nat, k ≤ n ∧ i = .int .i64 (k : Int) ∧ a = .int .i64 (farV y d k) ∧ FRow wr g n (mz n n L) d ∧ SRow wr s (downO L v n || farO y d k) ∧ NRow wr b n y ∧ Below w.heap.size w wr) (fun i _ _ => n - (intOf i).toNat)
  case atStart => exact ⟨0, by omega, rfl, rfl, F3, by simpa [farO] using S3, N3, B3⟩
  case round =>
    obtain ⟨k, hk, rfl, rfl, fr, sr, nr, br⟩ := hrel
    by_cases h : k < n
    · have c1 := NRow.at nr h
      have HMk := Hid.mkV (HM.out k)
      have HQk := HQ.out k h
      have bA := farV_bd y d k
      have bD := divV_bd (clamp (rne (y k * y k) (2 ^ 20))) (d k) 20
      have HAk := Hid.mkV (fun W => qadd_any (farV y d k) (divV (clamp (rne (y k * y k) (2 ^ 20))) (d k) 20) W (by omega) (by omega) (by omega) (by omega))
      rw [(eQ.out _ k).1, (eQ.out _ k).2] at HQk
      have HQh := Hid.mkV HQk
      have e3 : Hid (farV y d (k + 1) = clamp (farV y d k + divV (clamp (rne (y k * y k) (2 ^ 20))) (d k) 20)) := rfl
      have e4 : Hid (farO y d (k + 1) = (farO y d k || (great (rne (y k * y k) (2 ^ 20)) || divO (clamp (rne (y k * y k) (2 ^ 20))) (d k) 20 || great (farV y d k + divV (clamp (rne (y k * y k) (2 ^ 20))) (d k) 20)))) := rfl
      rw [← e3.out] at HAk
      obtain ⟨P, hP⟩ : ∃ P, P = clamp (rne (y k * y k) (2 ^ 20)) := ⟨_, rfl⟩
      obtain ⟨p, hp⟩ : ∃ P, P = great (rne (y k * y k) (2 ^ 20)) := ⟨_, rfl⟩
      rw [← hP] at HMk HQh HAk e3 e4
      rw [← hp] at HMk e4
      obtain ⟨D, hD⟩ : ∃ D, D = divV P (d k) 20 := ⟨_, rfl⟩
      obtain ⟨q, hq⟩ : ∃ q, q = divO P (d k) 20 := ⟨_, rfl⟩
      rw [← hD] at HQh HAk e4
      rw [← hq] at HQh e4
      obtain ⟨u, hu⟩ : ∃ q, q = great (farV y d k + D) := ⟨_, rfl⟩
      rw [← hu] at HAk e4
      obtain ⟨A, hA⟩ : ∃ A, A = farV y d k := ⟨_, rfl⟩
      obtain ⟨A', hA'⟩ : ∃ A, A = farV y d (k + 1) := ⟨_, rfl⟩
      obtain ⟨yk, hyk⟩ : ∃ q, q = y k := ⟨_, rfl⟩
      obtain ⟨dk', hdk⟩ : ∃ q, q = d k := ⟨_, rfl⟩
      rw [← hyk] at HMk c1
      rw [← hdk] at HQh
      rw [← hA] at HAk ⊢
      rw [← hA'] at HAk
      have HDK := Hid.mkV hdk
      have HA' := Hid.mkV hA'
      clear hP hp hD hq hu hA hA' hyk hdk HQk e3 bA bD
      have i0 : (0 : Int) ≤ (k : Int) := by omega
      have i1 : (k : Int) < (n : Int) := by omega
      have i4 : (k : Int) < 6 := by omega
      clear HM HQ eQ
      go_wp2_with fail
      refine (HMk.out _).mono ?_
      rintro e w4 ⟨rfl, k4⟩
      have s4 := CRow.keep sr k4
      have f4 := CRow.keep fr k4
      have n4 := CRow.keep nr k4
      have b4 := below_tr br k4
      go_wp2_with fail
      refine (lnumber_any s P _ p _ _ s4).mono ?_
      rintro e w5 ⟨rfl, s5, k5⟩
      have f5 := crowBut f4 k5 (by omega)
      have n5 := crowBut n4 k5 (by omega)
      have b5 := k5.below b4 (by have := b4.size; omega) (fun k hk => by omega)
      have c5 := FRow.d f5 (k := k) (o := 37 + k) (by omega) (by omega)
      rw [← HDK.out] at c5
      clear fr sr nr br f4 s4 n4 b4
      go_wp2_with fail
      refine (HQh.out _).mono ?_
      rintro e w6 ⟨rfl, k6⟩
      have s6 := CRow.keep s5 k6
      have f6 := CRow.keep f5 k6
      have n6 := CRow.keep n5 k6
      have b6 := below_tr b5 k6
      go_wp2_with fail
      refine (lnumber_any s D _ q _ _ s6).mono ?_
      rintro e w7 ⟨rfl, s7, k7⟩
      have f7 := crowBut f6 k7 (by omega)
      have n7 := crowBut n6 k7 (by omega)
      have b7 := k7.below b6 (by have := b6.size; omega) (fun k hk => by omega)
      clear f5 s5 n5 b5 f6 s6 n6 b6
      go_wp2_with fail
      refine (HAk.out _).mono ?_
      rintro e w8 ⟨rfl, k8⟩
      have s8 := CRow.keep s7 k8
      have f8 := CRow.keep f7 k8
      have n8 := CRow.keep n7 k8
      have b8 := below_tr b7 k8
      go_wp2_with fail
      refine (lbounded_any s A' _ u _ s8).mono ?_
      rintro e w9 ⟨rfl, s9, k9⟩
      have f9 := crowBut f8 k9 (by omega)
      have n9 := crowBut n8 k9 (by omega)
      have b9 := k9.below b8 (by have := b8.size; omega) (fun k hk => by omega)
      go_wp2
      go_roundw
      case rel =>
        refine ⟨k + 1, by omega, by go_num, by rw [HA'.out], f9, ?_, n9, b9⟩
        rw [e4.out]
        simp only [Bool.or_assoc] at s9 ⊢
        exact s9
      case measure => simp [intOf]; omega
    · obtain rfl : k = n := by omega
      have cO := SRow.o sr
      obtain ⟨A, hA⟩ : ∃ A, A = farV y d k := ⟨_, rfl⟩
      rw [← hA]
      have HA := Hid.mkV hA
      clear hA
      go_wp2
      go_quiet (fail)
      go_wp2
      go_ret3
      exact ⟨by rw [← HA.out]; rfl, Vc.below_drewN br _⟩

namespace Ld
/-- The logarithms together. -/
def logS (d : Nat → Int) : Nat → Int
  | 0 => 0
  | k + 1 => IntKind.i64.wrap (logS d k + Gw.lgb (d k) (Gw.dn (d k)) ((20 : Nat) : Int))
end Ld

set_option maxRecDepth 10000 in
set_option maxHeartbeats 1000000 in
theorem llog_any (n : Nat) (z d : Nat → Int) (w : World) (hm : FMay n z d) :
    Calls Tryd.prog 8 #[.agg (fvals n z d).toArray] w fun e w' => e = .returned (.tuple #[.int .i64 (logS d n), .nilIface]) ∧ Below w.heap.size w w' := by
  obtain ⟨h1, hn⟩ := FMay.n hm
  have rF : FRow (w.alloc (.cells (fvals n z d).toArray 26)) w.heap.size n z d := crow_new w _ _
  have hB := below_al (Below.refl _ w) (.cells (fvals n z d).toArray 26)
  obtain ⟨W, hW⟩ : ∃ W, W = w.alloc (.cells (fvals n z d).toArray 26) := ⟨_, rfl⟩
  obtain ⟨g, hg⟩ : ∃ g, g = w.heap.size := ⟨_, rfl⟩
  rw [← hW] at rF hB
  rw [← hg] at rF
  have HC := fcheck_any n z d W
  rw [resC_yes hm] at HC
  have HCk := Hid.mkV HC
  have HW := Hid.mkV hW
  have HG := Hid.mkV hg
  have HL := Hid.mkV (fun k (hk : k < n) W => glog_any (d k) 20 W (FMay.d hm hk).1 (FMay.d hm hk).2 (by omega))
  have eh : ∀ W, (Instr.sliceAt 24 (.pointer (some ⟨g, 37, none⟩)) none (some (.int .i64 (n : Int))) none).run Tryd.prog W = .ok (.slice (some ⟨g, 37, none⟩) n 6) W := fun W => run_head6 g 37 n W (by omega)
  clear hW hg HC hm
  go_enter Tryd.func8, Tryd.ntmps8
  go_wp2_with (first
    | (rw [← HW.out, ← HG.out]; refine St.wpList_load isF (by rfl) _ (by rfl) _ _ (by rfl) (by with_reducible exact rF) (fvals_len _ _ _) ?_)
    | fail)
  refine HCk.out.mono ?_
  rintro e w1 ⟨rfl, k1⟩
  have F1 := CRow.keep rF k1
  have B1 := below_tr hB k1
  have cN := FRow.n F1
  clear rF hB k1 HCk
  go_wp2
  go_loopw [20, 5] (fun i a wr => ∃ k : Nat, k ≤ n ∧ i = .int .i64 (k : Int) ∧ a = .int .i64 (logS d k) ∧ FRow wr g n z d ∧ Below w.heap.size w wr) (fun i _ _ => n - (intOf i).toNat)
  case atStart => exact ⟨0, by omega, rfl, rfl, F1, B1⟩
  case round =>
    obtain ⟨k, hk, rfl, rfl, fr, br⟩ := hrel
    by_cases h : k < n
    · have c1 := FRow.d fr (k := k) (o := 37 + k) (by omega) (by omega)
      have HLk := Hid.mkV (HL.out k h)
      have e3 : IntKind.i64.wrap (logS d k + Gw.lgb (d k) (Gw.dn (d k)) ((20 : Nat) : Int)) = logS d (k + 1) := rfl
      obtain ⟨A, hA⟩ : ∃ A, A = logS d k := ⟨_, rfl⟩
      obtain ⟨A', hA'⟩ : ∃ A, A = logS d (k + 1) := ⟨_, rfl⟩
      obtain ⟨V, hV⟩ : ∃ A, A = Gw.lgb (d k) (Gw.dn (d k)) ((20 : Nat) : Int) := ⟨_, rfl⟩
      obtain ⟨x, hx⟩ : ∃ A, A = d k := ⟨_, rfl⟩
      rw [← hV] at HLk e3
      rw [← hA, ← hA'] at e3
      rw [← hA]
      rw [← hx] at HLk c1
      have HA' := Hid.mkV hA'
      clear hA hA' hV hx
      have i0 : (0 : Int) ≤ (k : Int) := by omega
      have i1 : (k : Int) < (n : Int) := by omega
      go_wp2_with fail
      refine (HLk.out _).mono ?_
      rintro e w2 ⟨rfl, k2⟩
      have f2 := CRow.keep fr k2
      have b2 := below_tr br k2
      go_wp2
      go_roundw
      case rel => exact ⟨k + 1, by omega, by go_num, by rw [HA'.out], f2, b2⟩
      case measure => simp [intOf]; omega
    · obtain rfl : k = n := by omega
      go_wp2
      go_ret2
      exact ⟨rfl, br⟩

set_option maxRecDepth 10000 in
set_option maxHeartbeats 1000000 in
theorem llog_no (n : Int) (z d : Nat → Int) (w : World) (hm : ¬ FMay n z d) :
    Calls Tryd.prog 8 #[.agg (fvals n z d).toArray] w fun e w' => e = .returned (.tuple #[.int .i64 0, .iface 39 (.int .i64 1)]) ∧ Below w.heap.size w w' := by
  have rF : FRow (w.alloc (.cells (fvals n z d).toArray 26)) w.heap.size n z d := crow_new w _ _
  have hB := below_al (Below.refl _ w) (.cells (fvals n z d).toArray 26)
  obtain ⟨W, hW⟩ : ∃ W, W = w.alloc (.cells (fvals n z d).toArray 26) := ⟨_, rfl⟩
  rw [← hW] at rF hB
  have HC := fcheck_any n z d W
  rw [resC_no hm] at HC
  have HCk := Hid.mkV HC
  have HW := Hid.mkV hW
  clear hW HC hm
  go_enter Tryd.func8, Tryd.ntmps8
  go_wp2_with (first
    | (rw [← HW.out]; refine St.wpList_load isF (by rfl) _ (by rfl) _ _ (by rfl) (by with_reducible exact rF) (fvals_len _ _ _) ?_)
    | fail)
  refine HCk.out.mono ?_
  rintro e w1 ⟨rfl, k1⟩
  have B1 := below_tr hB k1
  go_wp2
  go_ret2
  exact ⟨rfl, B1⟩

set_option maxRecDepth 10000 in
set_option maxHeartbeats 1000000 in
theorem lsolve_no (n : Int) (z d : Nat → Int) (vo : Option Addr) (vn vc : Nat) (w : World) (hm : ¬ FMay n z d) :
    Calls Tryd.prog 6 #[.agg (fvals n z d).toArray, .slice vo vn vc] w fun e w' => e = .returned (.tuple #[.slice none 0 0, .bool false, .iface 39 (.int .i64 1)]) ∧ Below w.heap.size w w' := by
  have rF : FRow (w.alloc (.cells (fvals n z d).toArray 26)) w.heap.size n z d := crow_new w _ _
  have hB := below_al (Below.refl _ w) (.cells (fvals n z d).toArray 26)
  obtain ⟨W, hW⟩ : ∃ W, W = w.alloc (.cells (fvals n z d).toArray 26) := ⟨_, rfl⟩
  rw [← hW] at rF hB
  have HC := fcheck_any n z d W
  rw [resC_no hm] at HC
  have HCk := Hid.mkV HC
  have HW := Hid.mkV hW
  clear hW HC hm
  go_enter Tryd.func6, Tryd.ntmps6
  go_wp2_with (first
    | (rw [← HW.out]; refine St.wpList_load isF (by rfl) _ (by rfl) _ _ (by rfl) (by with_reducible exact rF) (fvals_len _ _ _) ?_)
    | fail)
  refine HCk.out.mono ?_
  rintro e w1 ⟨rfl, k1⟩
  have B1 := below_tr hB k1
  go_wp2
  go_ret3
  exact ⟨rfl, B1⟩

set_option maxRecDepth 10000 in
set_option maxHeartbeats 1000000 in
theorem lsolve_len (n : Nat) (z d : Nat → Int) (vo : Option Addr) (vn vc : Nat) (w : World) (hm : FMay n z d) (hv : vn ≠ n) (hvm : vn ≤ 9223372036854775807) :
    Calls Tryd.prog 6 #[.agg (fvals n z d).toArray, .slice vo vn vc] w fun e w' => e = .returned (.tuple #[.slice none 0 0, .bool false, .iface 39 (.int .i64 1)]) ∧ Below w.heap.size w w' := by
  have rF : FRow (w.alloc (.cells (fvals n z d).toArray 26)) w.heap.size n z d := crow_new w _ _
  have hB := below_al (Below.refl _ w) (.cells (fvals n z d).toArray 26)
  obtain ⟨W, hW⟩ : ∃ W, W = w.alloc (.cells (fvals n z d).toArray 26) := ⟨_, rfl⟩
  rw [← hW] at rF hB
  have HC := fcheck_any n z d W
  rw [resC_yes hm] at HC
  have HCk := Hid.mkV HC
  have HW := Hid.mkV hW
  have e1 : ((vn : Int) != (n : Int)) = true := by simp; omega
  clear hW HC hm hv
  go_enter Tryd.func6, Tryd.ntmps6
  go_wp2_with (first
    | (rw [← HW.out]; refine St.wpList_load isF (by rfl) _ (by rfl) _ _ (by rfl) (by with_reducible exact rF) (fvals_len _ _ _) ?_)
    | fail)
  refine HCk.out.mono ?_
  rintro e w1 ⟨rfl, k1⟩
  have B1 := below_tr hB k1
  have cN := FRow.n (CRow.keep rF k1)
  go_wp2
  go_ret3
  exact ⟨rfl, B1⟩

set_option maxRecDepth 10000 in
set_option maxHeartbeats 1000000 in
theorem lfar_no (n : Int) (z d : Nat → Int) (vo : Option Addr) (vn vc : Nat) (w : World) (hm : ¬ FMay n z d) :
    Calls Tryd.prog 7 #[.agg (fvals n z d).toArray, .slice vo vn vc] w fun e w' => e = .returned (.tuple #[.int .i64 0, .bool false, .iface 39 (.int .i64 1)]) ∧ Below w.heap.size w w' := by
  have rF : FRow (w.alloc (.cells (fvals n z d).toArray 26)) w.heap.size n z d := crow_new w _ _
  have hB := below_al (Below.refl _ w) (.cells (fvals n z d).toArray 26)
  obtain ⟨W, hW⟩ : ∃ W, W = w.alloc (.cells (fvals n z d).toArray 26) := ⟨_, rfl⟩
  rw [← hW] at rF hB
  have HC := fcheck_any n z d W
  rw [resC_no hm] at HC
  have HCk := Hid.mkV HC
  have HW := Hid.mkV hW
  clear hW HC hm
  go_enter Tryd.func7, Tryd.ntmps7
  go_wp2_with (first
    | (rw [← HW.out]; refine St.wpList_load isF (by rfl) _ (by rfl) _ _ (by rfl) (by with_reducible exact rF) (fvals_len _ _ _) ?_)
    | fail)
  refine HCk.out.mono ?_
  rintro e w1 ⟨rfl, k1⟩
  have B1 := below_tr hB k1
  go_wp2
  go_ret3
  exact ⟨rfl, B1⟩

set_option maxRecDepth 10000 in
set_option maxHeartbeats 1000000 in
theorem lfar_len (n : Nat) (z d : Nat → Int) (vo : Option Addr) (vn vc : Nat) (w : World) (hm : FMay n z d) (hv : vn ≠ n) (hvm : vn ≤ 9223372036854775807) :
    Calls Tryd.prog 7 #[.agg (fvals n z d).toArray, .slice vo vn vc] w fun e w' => e = .returned (.tuple #[.int .i64 0, .bool false, .iface 39 (.int .i64 1)]) ∧ Below w.heap.size w w' := by
  have rF : FRow (w.alloc (.cells (fvals n z d).toArray 26)) w.heap.size n z d := crow_new w _ _
  have hB := below_al (Below.refl _ w) (.cells (fvals n z d).toArray 26)
  obtain ⟨W, hW⟩ : ∃ W, W = w.alloc (.cells (fvals n z d).toArray 26) := ⟨_, rfl⟩
  rw [← hW] at rF hB
  have HC := fcheck_any n z d W
  rw [resC_yes hm] at HC
  have HCk := Hid.mkV HC
  have HW := Hid.mkV hW
  have e1 : ((vn : Int) != (n : Int)) = true := by simp; omega
  clear hW HC hm hv
  go_enter Tryd.func7, Tryd.ntmps7
  go_wp2_with (first
    | (rw [← HW.out]; refine St.wpList_load isF (by rfl) _ (by rfl) _ _ (by rfl) (by with_reducible exact rF) (fvals_len _ _ _) ?_)
    | fail)
  refine HCk.out.mono ?_
  rintro e w1 ⟨rfl, k1⟩
  have B1 := below_tr hB k1
  have cN := FRow.n (CRow.keep rF k1)
  go_wp2
  go_ret3
  exact ⟨rfl, B1⟩

end Go.Proofs.YtfgjigkgfflofaaDoorR
