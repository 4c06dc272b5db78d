/-
  The document's answer of layer 9 (radomeref09): down, Solve, Far, Log.
-/
import Derived.Test.YtfgjigkgfflofaaGreatDoorM18
import Derived.Test.YtfgjigkgfflofaaGreatDoorLgV
import Derived.Test.YtfgjigkgfflofaaGreatDoorM24
import Derived.Test.YtfgjigkgfflofaaGreatDoorM14
import Derived.Deep.RegionWith
import Derived.Deep.RegionHeld3
set_option linter.unusedSimpArgs false
set_option linter.unusedVariables false
namespace Go.Proofs.YtfgjigkgfflofaaGreatDoor
open Go.RowKit Vc Mt St Qn Dt Dec Ld

namespace Ld
/-- A piece of one number. -/
theorem run_oneS (x : Addr) (n c i : Nat) (h : i < n) (hc : n ≤ c) : (∀ w : World, (Instr.sliceAt 36 (.slice (some x) n c) (some (.int .i64 (i : Int))) (some (.int .i64 ((i : Int) + 1))) none).run Tryz.prog w = .ok (.slice (some (x.add i)) 1 (c - i)) w) ∧
    ∀ w : World, (Instr.slice 36 (.slice (some x) n c) (some (.int .i64 (i : Int))) (some (.int .i64 ((i : Int) + 1))) none).run Tryz.prog w = .ok (.slice (some (x.add i)) 1 (c - i)) w := by
  have hu : Tryz.prog.underlying 36 = some (.slice (Tryz.prog.elem 36)) := by kernel_rfl
  have he : Tryz.prog.elem 36 = 2 := by kernel_rfl
  have key : ∀ w : World, (Instr.slice 36 (.slice (some x) n c) (some (.int .i64 (i : Int))) (some (.int .i64 ((i : Int) + 1))) none).run Tryz.prog w = .ok (.slice (some (x.add i)) 1 (c - i)) w := fun w => by
    rw [run_slice_lh w 36 _ _ _ hu .i64 .i64 _ _ (by omega) (by omega) (by omega), he, run_size8]
    have e1 : ((i : Int) + 1).toNat = i + 1 := by omega
    simp only [Result.andThen_ok, sliced, Int.toNat_natCast, Nat.mul_one, e1]
    rw [if_neg (by omega), Option.map_some, Nat.add_sub_cancel_left]
  exact ⟨fun w => by rw [run_sliceAt_slice w 36 _ _ _ _ hu]; exact key w, key⟩
theorem sl_one' {w : World} {x : Addr} {a : Int} {c : Nat} (h : w.cell? x = some (.int .i64 a)) (h1 : 1 ≤ c) (h2 : c ≤ 9223372036854775807) : Sl w (some x) 1 c (fun _ => a) :=
  ⟨h1, h2, fun k hk => ⟨x, rfl, by
    match k, hk with
    | 0, _ => exact h⟩⟩
theorem b64_const {a : Int} (h : -4611686018427387903 ≤ a ∧ a ≤ 4611686018427387903) : B64 (fun _ => a) := fun _ => ⟨by show -9223372036854775808 ≤ a; omega, by show a ≤ 9223372036854775807; omega⟩
end Ld

set_option maxRecDepth 10000 in
set_option maxHeartbeats 2000000 in
theorem ddown_any (n cl cd vc : Nat) (lo do' vo : Option Addr) (L : Nat → Nat → Int) (d v : Nat → Int) (w : World) (h1 : 1 ≤ n) (hn : n ≤ 6) (hL : Grid w lo n cl n L) (hd : Sl w do' n cd d) (hv : Sl w vo n vc v) (bL : ∀ a, B64 (L a)) (bd : ∀ k, k < n → 1 ≤ d k ∧ d k ≤ 4611686018427387903) (bv : B64 v) :
    Calls Tryz.prog 42 #[.agg #[.slice lo n cl, .slice do' n cd], .slice vo n vc] w fun e w' => ∃ co cc, e = .returned (.tuple #[.slice co n cc, .bool (downO L v n)]) ∧ Sl w' co n cc (downV L v n) ∧ Below w.heap.size w w' := by
  obtain ⟨A, C, hs, hg⟩ := hL
  obtain ⟨xl, hlo, hlc⟩ := hs.get
  obtain ⟨xd, hdo, hdc⟩ := hd.get
  obtain rfl := hlo (by omega)
  obtain rfl := hdo (by omega)
  have l1 := hs.le
  have l2 := hs.cap
  have l3 := hd.le
  have l4 := hd.cap
  have HLC := Hid.mkV hlc
  have HDC := Hid.mkV hdc
  have HGr := Hid.mkV hg
  have cG0 : (w.alloc (.cells #[.slice (some xl) n cl, .slice (some xd) n cd] 39)).cell? ⟨w.heap.size, 0, none⟩ = some (.slice (some xl) n cl) := by go_simp
  have cG1 : (w.alloc (.cells #[.slice (some xl) n cl, .slice (some xd) n cd] 39)).cell? ⟨w.heap.size, 1, none⟩ = some (.slice (some xd) n cd) := by go_simp
  have rG : GRow (w.alloc (.cells #[.slice (some xl) n cl, .slice (some xd) n cd] 39)) w.heap.size (.slice (some xl) n cl) (.slice (some xd) n cd) := crow_new w _ _
  have hB := below_al (Below.refl _ w) (.cells #[.slice (some xl) n cl, .slice (some xd) n cd] 39)
  obtain ⟨W, hW⟩ : ∃ W, W = w.alloc (.cells #[.slice (some xl) n cl, .slice (some xd) n cd] 39) := ⟨_, rfl⟩
  rw [← hW] at cG0 cG1 hB rG
  have HW := Hid.mkV hW
  clear hW
  obtain ⟨xv, hvo, hvc⟩ := hv.get
  obtain rfl := hvo (by omega)
  have l5 := hv.le
  have l6 := hv.cap
  have HVC := Hid.mkV hvc
  have HS := Hid.mkV (fun k (hk : k < n) (ao bo : Option Addr) (ca cb : Nat) W (H1 : Sl W ao k ca (L k)) (H2 : Sl W bo k cb (downV L v k)) => ddot_sl ao bo k ca cb (L k) (downV L v k) 30 30 W rfl (by omega) H1 H2 (bL k) (b64_of (downV_bd L v k)) (by omega))
  have HM := Hid.mkV (fun k W => dless_any (v k) (sumV (L k) (downV L v k) k) W (bv k).1 (bv k).2 (by have := sumV_bd (L k) (downV L v k) k; omega) (by have := sumV_bd (L k) (downV L v k) k; omega))
  have eS : Hid (∀ k, clamp (rne (dk (L k) (downV L v k) k) (2 ^ 30)) = sumV (L k) (downV L v k) k ∧ great (rne (dk (L k) (downV L v k) k) (2 ^ 30)) = sumO (L k) (downV L v k) k ∧ clamp (v k - sumV (L k) (downV L v k) k) = lessV (v k) (L k) (downV L v k) k) := fun k => ⟨rfl, rfl, rfl⟩
  clear hs hg hd hlo hdo hlc hdc hv hvo hvc bL bd bv rG
  go_enter Tryz.func42, Tryz.ntmps42
  go_wp2_with (first | (rw [← HW.out]) | fail)
  go_loopw [6, 7, 8] (fun y an ix wr => ∃ k : Nat, k ≤ n ∧ ix = .int .i64 (k : Int) ∧ an = .bool (downO L v k) ∧ Own W.heap.size W wr y k (downV L v n)) (fun _ _ ix _ => n - (intOf ix).toNat)
  case atStart => exact ⟨0, by omega, rfl, rfl, Own.nil (Below.refl _ _) (Nat.le_refl _) _⟩
  case round =>
    rename World => wo
    obtain ⟨k, hk, rfl, rfl, hown⟩ := hrel
    by_cases h : k < n
    · obtain ⟨yo, yc, rfl, ys⟩ := hown.sl
      have ys' : Sl wo yo k yc (downV L v k) := ys.congr (fun j hj => downV_keep L v hj (by omega))
      have hb := below_tr hB hown.below
      have c1 := keep_cell hown.below cG0
      have c2 := keep_cell hb (HLC.out k h)
      have rk := (HGr.out k h).keep hb
      have l7 := rk.le
      have l8 := rk.cap
      have rk' : Sl wo (A k) k (C k) (L k) := ⟨by omega, rk.cap, fun j hj => rk.at' j (by omega)⟩
      have c3 := keep_cell hb (HVC.out k h)
      have HSk := HS.out k h (A k) yo (C k) yc wo rk' ys'
      have HMk := HM.out k
      rw [(eS.out k).1, (eS.out k).2.1] at HSk
      rw [(eS.out k).2.2] at HMk
      have HSh := Hid.mkV HSk
      have HMh := Hid.mkV HMk
      have HV : Hid (downV L v n k = lessV (v k) (L k) (downV L v k) k) := by
        show downV L v n k = _
        rw [downV_keep L v (j := k + 1) (by omega) (by omega)]
        exact if_pos rfl
      have HA : Hid (downO L v (k + 1) = (downO L v k || (sumO (L k) (downV L v k) k || great (v k - sumV (L k) (downV L v k) k)))) := rfl
      obtain ⟨SV, hSV⟩ : ∃ t, t = sumV (L k) (downV L v k) k := ⟨_, rfl⟩
      obtain ⟨SO, hSO⟩ : ∃ t, t = sumO (L k) (downV L v k) k := ⟨_, rfl⟩
      obtain ⟨LV, hLV⟩ : ∃ t, t = lessV (v k) (L k) (downV L v k) k := ⟨_, rfl⟩
      rw [← hSV, ← hSO] at HSh HA
      rw [← hSV, ← hLV] at HMh
      rw [← hLV] at HV
      obtain ⟨GO, hGO⟩ : ∃ t, t = great (v k - SV) := ⟨_, rfl⟩
      rw [← hGO] at HMh HA
      obtain ⟨T, hT⟩ : ∃ T, T = downO L v k := ⟨_, rfl⟩
      rw [← hT] at HA ⊢
      obtain ⟨vk, hvk⟩ : ∃ t, t = v k := ⟨_, rfl⟩
      rw [← hvk] at HMh c3
      obtain ⟨Ak, hAk⟩ : ∃ t, t = A k := ⟨_, rfl⟩
      obtain ⟨Ck, hCk⟩ : ∃ t, t = C k := ⟨_, rfl⟩
      rw [← hAk, ← hCk] at c2 HSh
      rw [← hCk] at l7 l8
      clear hSV hSO hLV hGO hT hvk hAk hCk HSk HMk rk rk' ys ys' HS HM eS HGr
      have i0 : (0 : Int) ≤ (k : Int) := by omega
      have i1 : (k : Int) < (n : Int) := by omega
      have i2 : (k : Int) ≤ (n : Int) := by omega
      have i3 : (k : Int) ≤ (Ck : Int) := by omega
      go_wp2_with fail
      refine HSh.out.mono ?_
      rintro e w2 ⟨rfl, k2⟩
      have c3' := keep_cell k2 c3
      have hown2 := hown.keep k2
      go_wp2_with fail
      refine (HMh.out _).mono ?_
      rintro e w3 ⟨rfl, k3⟩
      have hown3 := hown2.keep k3
      clear hown hown2 c1 c2 c3 c3' k2 k3
      go_wp2_with (at_builtin; refine wpList_push (by rfl) (.tmp 40) (.tmp 42) (by rfl) W.heap.size W _ k (downV L v n) (by rfl) hown3 (by omega) LV (by exact HV.out.symm) (by rfl) ?_)
      intro v' w' hown'
      cases T <;> cases SO <;> (go_wp2; go_roundw)
      all_goals first
        | (simp [intOf]; omega)
        | exact ⟨k + 1, by omega, by go_num, by rw [HA.out]; rfl, hown'⟩
    · obtain rfl : k = n := by omega
      obtain ⟨yo, yc, rfl, ys⟩ := hown.sl
      obtain ⟨T, hT⟩ : ∃ T, T = downO L v k := ⟨_, rfl⟩
      rw [← hT]
      have HT := Hid.mkV hT
      clear hT
      go_wp2
      go_ret2
      exact ⟨yo, yc, by rw [← HT.out]; rfl, ys, below_tr hB hown.below⟩

set_option maxRecDepth 10000 in
set_option maxHeartbeats 2000000 in
theorem dfar_any (n cl cd vc : Nat) (lo do' vo : Option Addr) (L : Nat → Nat → Int) (d v : Nat → Int) (w : World) (h1 : 1 ≤ n) (hn : n ≤ 6) (hL : Grid w lo n cl n L) (hd : Sl w do' n cd d) (hv : Sl w vo n vc v) (bL : ∀ a, B64 (L a)) (bd : ∀ k, k < n → 1 ≤ d k ∧ d k ≤ 4611686018427387903) (bv : B64 v) :
    Calls Tryz.prog 21 #[.agg #[.slice lo n cl, .slice do' n cd], .slice vo n vc] w fun e w' => e = .returned (.tuple #[.int .i64 (farV (downV L v n) d n), .bool (downO L v n || farO (downV L v n) d n)]) ∧ Below w.heap.size w w' := by
  have HDn := Hid.mkV (fun W (H1 : Grid W lo n cl n L) (H2 : Sl W do' n cd d) (H3 : Sl W vo n vc v) => ddown_any n cl cd vc lo do' vo L d v W h1 hn H1 H2 H3 bL bd bv)
  have HL := Hid.mkV hL
  have HDs := Hid.mkV hd
  have HVs := Hid.mkV hv
  obtain ⟨A, C, hs, hg⟩ := hL
  obtain ⟨xl, hlo, hlc⟩ := hs.get
  obtain ⟨xd, hdo, hdc⟩ := hd.get
  obtain rfl := hlo (by omega)
  obtain rfl := hdo (by omega)
  have l1 := hs.le
  have l2 := hs.cap
  have l3 := hd.le
  have l4 := hd.cap
  have HLC := Hid.mkV hlc
  have HDC := Hid.mkV hdc
  have HGr := Hid.mkV hg
  have cG0 : (w.alloc (.cells #[.slice (some xl) n cl, .slice (some xd) n cd] 39)).cell? ⟨w.heap.size, 0, none⟩ = some (.slice (some xl) n cl) := by go_simp
  have cG1 : (w.alloc (.cells #[.slice (some xl) n cl, .slice (some xd) n cd] 39)).cell? ⟨w.heap.size, 1, none⟩ = some (.slice (some xd) n cd) := by go_simp
  have rG : GRow (w.alloc (.cells #[.slice (some xl) n cl, .slice (some xd) n cd] 39)) w.heap.size (.slice (some xl) n cl) (.slice (some xd) n cd) := crow_new w _ _
  have hB := below_al (Below.refl _ w) (.cells #[.slice (some xl) n cl, .slice (some xd) n cd] 39)
  obtain ⟨W, hW⟩ : ∃ W, W = w.alloc (.cells #[.slice (some xl) n cl, .slice (some xd) n cd] 39) := ⟨_, rfl⟩
  rw [← hW] at cG0 cG1 hB rG
  have HW := Hid.mkV hW
  clear hW
  have by' := downV_bd L v n
  obtain ⟨y, hy⟩ : ∃ y, y = downV L v n := ⟨_, rfl⟩
  rw [← hy] at HDn by' ⊢
  have HM := Hid.mkV (fun k (ao : Option Addr) (ca cb : Nat) W (H1 : Sl W ao 1 ca (fun _ => y k)) (H2 : Sl W ao 1 cb (fun _ => y k)) => ddot_sl ao ao 1 ca cb (fun _ => y k) (fun _ => y k) 20 20 W rfl (by omega) H1 H2 (b64_const (by' k)) (b64_const (by' k)) (by omega))
  have e1 : ∀ k, dk (fun _ => y k) (fun _ => y k) 1 = y k * y k := fun k => by show 0 + y k * y k = _; omega
  have HQ := Hid.mkV (fun k (hk : k < n) W => ldiv_any (clamp (rne (y k * y k) (2 ^ 20))) (d k) 20 W (by have := clamp_bd (rne (y k * y k) (2 ^ 20)); omega) (by have := clamp_bd (rne (y k * y k) (2 ^ 20)); omega) (by have := bd k hk; omega) (by have := bd k hk; omega) (by have := bd k hk; omega) (by omega))
  have eQ : Hid (∀ x k, signed x (d k) (clamp (rne ((x.natAbs : Int) * 2 ^ 20) ((d k).natAbs : Int))) = divV x (d k) 20 ∧ great (rne ((x.natAbs : Int) * 2 ^ 20) ((d k).natAbs : Int)) = divO x (d k) 20) := fun x k => ⟨rfl, rfl⟩
  have E1 := Hid.mkV e1
  clear hs hg hd hlo hdo hlc hdc hv bL bd bv hy e1 by' HGr
  go_enter Tryz.func21, Tryz.ntmps21
  go_wp2_with (first
    | (rw [← HW.out]; refine St.wpList_load isG (by rfl) _ (by rfl) _ _ (by rfl) (by with_reducible exact rG) rfl ?_)
    | fail)
  refine (HDn.out _ (HL.out.keep hB) (HDs.out.keep hB) (HVs.out.keep hB)).mono ?_
  rintro e w1 ⟨yo, yc, rfl, ys, k1⟩
  have B1 := below_tr hB k1
  have c1 := keep_cell k1 cG1
  obtain ⟨xy, hyo, hyc⟩ := ys.get
  obtain rfl := hyo (by omega)
  have l5 := ys.le
  have l6 := ys.cap
  have HYC := Hid.mkV hyc
  clear HDn HL HDs HVs rG cG0 cG1 hyo hyc ys k1
  go_wp2
  go_loopw [7, 8, 9] (fun an s ix wr => ∃ k : Nat, k ≤ n ∧ ix = .int .i64 (k : Int) ∧ s = .int .i64 (farV y d k) ∧ an = .bool (downO L v n || farO y d k) ∧ Below w1.heap.size w1 wr) (fun _ _ ix _ => n - (intOf ix).toNat)
  case atStart => exact ⟨0, by omega, rfl, rfl, by show _ = Value.bool (downO L v n || false); rw [Bool.or_false], Below.refl _ _⟩
  case round =>
    rename World => wo
    obtain ⟨k, hk, rfl, rfl, rfl, hb⟩ := hrel
    by_cases h : k < n
    · have c2 := keep_cell hb (HYC.out k h)
      have c3 := keep_cell hb c1
      have c4 := keep_cell (below_tr B1 hb) (HDC.out k h)
      obtain ⟨es1, es2⟩ := run_oneS xy n yc k h l5
      have sl1 : Sl wo (some (xy.add k)) 1 (yc - k) (fun _ => y k) := sl_one' c2 (by omega) (by omega)
      have HMk := HM.out k (some (xy.add k)) (yc - k) (yc - k)
      rw [E1.out k] at HMk
      have HMh := Hid.mkV HMk
      have HQk := HQ.out k h
      rw [(eQ.out _ k).1, (eQ.out _ k).2] at HQk
      have HQh := Hid.mkV HQk
      have bA := farV_bd y d k
      have bD := divV_bd (clamp (rne (y k * y k) (2 ^ 20))) (d k) 20
      have OA := Hid.mkV (fun W => of_any (farV y d k) W (by omega) (by omega))
      have OB := Hid.mkV (fun W => of_any (divV (clamp (rne (y k * y k) (2 ^ 20))) (d k) 20) W (by omega) (by omega))
      have AD := Hid.mkV (fun va vb W => add_any va vb (farV y d k) (divV (clamp (rne (y k * y k) (2 ^ 20))) (d k) 20) W (digs_short (by omega) (by omega)) (digs_short (by omega) (by omega)))
      have BO := Hid.mkV (fun v W => bound_is v (farV y d k + divV (clamp (rne (y k * y k) (2 ^ 20))) (d k) 20) W (digs_short (by omega) (by omega)))
      have e3 : Hid (farV y d (k + 1) = clamp (farV y d k + divV (clamp (rne (y k * y k) (2 ^ 20))) (d k) 20)) := rfl
      have e4 : Hid (farO y d (k + 1) = (farO y d k || (great (rne (y k * y k) (2 ^ 20)) || divO (clamp (rne (y k * y k) (2 ^ 20))) (d k) 20 || great (farV y d k + divV (clamp (rne (y k * y k) (2 ^ 20))) (d k) 20)))) := rfl
      rw [← e3.out] at BO
      obtain ⟨P, hP⟩ : ∃ P, P = clamp (rne (y k * y k) (2 ^ 20)) := ⟨_, rfl⟩
      obtain ⟨p, hp⟩ : ∃ P, P = great (rne (y k * y k) (2 ^ 20)) := ⟨_, rfl⟩
      rw [← hP] at HMh HQh OB AD BO e4
      rw [← hp] at HMh e4
      obtain ⟨D, hD⟩ : ∃ D, D = divV P (d k) 20 := ⟨_, rfl⟩
      obtain ⟨q, hq⟩ : ∃ q, q = divO P (d k) 20 := ⟨_, rfl⟩
      rw [← hD] at HQh OB AD BO e4
      rw [← hq] at HQh e4
      obtain ⟨u, hu⟩ : ∃ q, q = great (farV y d k + D) := ⟨_, rfl⟩
      rw [← hu] at BO e4
      obtain ⟨Sm, hSm⟩ : ∃ A, A = farV y d k + D := ⟨_, rfl⟩
      rw [← hSm] at AD BO
      obtain ⟨A', hA'⟩ : ∃ A, A = farV y d (k + 1) := ⟨_, rfl⟩
      rw [← hA'] at BO
      obtain ⟨Ak, hA⟩ : ∃ A, A = farV y d k := ⟨_, rfl⟩
      rw [← hA] at OA AD ⊢
      obtain ⟨T, hT⟩ : ∃ T, T = (downO L v n || farO y d k) := ⟨_, rfl⟩
      have e5 : Hid ((downO L v n || farO y d (k + 1)) = (T || ((p || q) || u))) := by
        show (downO L v n || farO y d (k + 1)) = _
        rw [e4.out, hT]
        simp only [Bool.or_assoc]
      rw [← hT]
      obtain ⟨dk', hdk⟩ : ∃ q, q = d k := ⟨_, rfl⟩
      rw [← hdk] at HQh c4
      have HA' := Hid.mkV hA'
      clear hP hp hD hq hu hSm hA hA' hT hdk HMk HQk e3 e4 bA bD HM HQ eQ E1
      have i0 : (0 : Int) ≤ (k : Int) := by omega
      have i1 : (k : Int) < (n : Int) := by omega
      have w0 : IntKind.i64.wrap ((k : Int) + 1) = (k : Int) + 1 := by rw [IntKind.wrap_i64]; omega
      go_wp2
      go_region_with
        (first
          | (go_at_call 43; refine (HMh.out _ (sl1.keep (Vc.below_drew' _)) (sl1.keep (Vc.below_drew' _))).mono ?_; rintro e w2 ⟨rfl, k2'⟩
             have k2 : Below wo.heap.size wo w2 := below_tr (Vc.below_drew' _) k2'
             have c3' := keep_cell k2 c3
             have c4' := keep_cell k2 c4
             clear k2'))
      go_wp2_with fail
      refine (HQh.out _).mono ?_
      rintro e w3 ⟨rfl, k3'⟩
      have k3 : Below w2.heap.size w2 w3 := by rw [k3']; exact Below.refl _ _
      clear k3'
      go_wp2_with fail
      refine (OA.out _).mono ?_
      rintro e w4 ⟨va, rfl, i4, k4⟩
      go_wp2_with fail
      refine (OB.out _).mono ?_
      rintro e w5 ⟨vb, rfl, i5, k5⟩
      go_wp2_with fail
      refine (AD.out _ _ _ (i4.below k5) i5).mono ?_
      rintro e w6 ⟨vs, rfl, i6, k6⟩
      go_wp2_with fail
      refine (BO.out _ _ i6).mono ?_
      rintro e w7 ⟨rfl, k7⟩
      have b7 := below_tr (below_tr (below_tr (below_tr (below_tr (below_tr hb k2) k3) k4) k5) k6) k7
      clear c2 c3 c4 c3' c4' k2 k3 k4 k5 k6 k7 i4 i5 i6 hb
      cases T <;> cases p <;> cases q <;> (go_wp2; go_roundw)
      all_goals first
        | (simp [intOf]; omega)
        | exact ⟨k + 1, by omega, by go_num, by rw [HA'.out], by rw [e5.out]; rfl, b7⟩
    · obtain rfl : k = n := by omega
      obtain ⟨T, hT⟩ : ∃ T, T = (downO L v k || farO y d k) := ⟨_, rfl⟩
      obtain ⟨S, hS⟩ : ∃ T, T = farV y d k := ⟨_, rfl⟩
      rw [← hT, ← hS]
      have HT := Hid.mkV hT
      have HS := Hid.mkV hS
      clear hT hS
      go_wp2
      go_ret2
      exact ⟨by rw [← HT.out, ← HS.out]; rfl, below_tr B1 hb⟩

set_option maxRecDepth 10000 in
set_option maxHeartbeats 1000000 in
theorem dlog_any (n cl cd : Nat) (lo do' : Option Addr) (d : Nat → Int) (w : World) (h1 : 1 ≤ n) (hn : n ≤ 6) (hd : Sl w do' n cd d) (bd : ∀ k, k < n → 1 ≤ d k ∧ d k ≤ 4611686018427387903) :
    Calls Tryz.prog 19 #[.agg #[.slice lo n cl, .slice do' n cd]] w fun e w' => e = .returned (.int .i64 (logS d n)) ∧ Below w.heap.size w w' := by
  obtain ⟨xd, hdo, hdc⟩ := hd.get
  obtain rfl := hdo (by omega)
  have l3 := hd.le
  have l4 := hd.cap
  have HDC := Hid.mkV hdc
  have cG1 : (w.alloc (.cells #[.slice lo n cl, .slice (some xd) n cd] 39)).cell? ⟨w.heap.size, 1, none⟩ = some (.slice (some xd) n cd) := by go_simp
  have hB := below_al (Below.refl _ w) (.cells #[.slice lo n cl, .slice (some xd) n cd] 39)
  obtain ⟨W, hW⟩ : ∃ W, W = w.alloc (.cells #[.slice lo n cl, .slice (some xd) n cd] 39) := ⟨_, rfl⟩
  rw [← hW] at cG1 hB
  have HW := Hid.mkV hW
  have HL := Hid.mkV (fun k (hk : k < n) W => rlog_any (d k) 20 W (bd k hk).1 (bd k hk).2 (by omega))
  clear hW hd hdo hdc bd
  go_enter Tryz.func19, Tryz.ntmps19
  go_wp2_with (first | (rw [← HW.out]) | fail)
  go_loopw [3, 4] (fun a ix wr => ∃ k : Nat, k ≤ n ∧ ix = .int .i64 (k : Int) ∧ a = .int .i64 (logS d k) ∧ Below W.heap.size W wr) (fun _ ix _ => n - (intOf ix).toNat)
  case atStart => exact ⟨0, by omega, rfl, rfl, Below.refl _ _⟩
  case round =>
    obtain ⟨k, hk, rfl, rfl, hb⟩ := hrel
    have c1 := keep_cell hb cG1
    by_cases h : k < n
    · have c2 := keep_cell (below_tr hB hb) (HDC.out k h)
      have HLk := Hid.mkV (HL.out k h)
      have e3 : IntKind.i64.wrap (logS d k + Gw.lgb (d k) (Gw.dn (d k)) ((20 : Nat) : Int)) = logS d (k + 1) := rfl
      obtain ⟨A, hA⟩ : ∃ A, A = logS d k := ⟨_, rfl⟩
      obtain ⟨A', hA'⟩ : ∃ A, A = logS d (k + 1) := ⟨_, rfl⟩
      obtain ⟨V, hV⟩ : ∃ A, A = Gw.lgb (d k) (Gw.dn (d k)) ((20 : Nat) : Int) := ⟨_, rfl⟩
      obtain ⟨x, hx⟩ : ∃ A, A = d k := ⟨_, rfl⟩
      rw [← hV] at HLk e3
      rw [← hA, ← hA'] at e3
      rw [← hA]
      rw [← hx] at HLk c2
      have HA' := Hid.mkV hA'
      clear hA hA' hV hx
      have i0 : (0 : Int) ≤ (k : Int) := by omega
      have i1 : (k : Int) < (n : Int) := by omega
      go_wp2_with fail
      refine (HLk.out _).mono ?_
      rintro e w2 ⟨rfl, k2⟩
      go_wp2
      go_roundw
      case rel => exact ⟨k + 1, by omega, by go_num, by rw [HA'.out], below_tr hb k2⟩
      case measure => simp [intOf]; omega
    · obtain rfl : k = n := by omega
      go_wp2
      go_ret
      exact ⟨rfl, below_tr hB hb⟩

end Go.Proofs.YtfgjigkgfflofaaGreatDoor

/-
  The document's answer of layer 9 (radomeref09): Solve.
-/
set_option linter.unusedSimpArgs false
set_option linter.unusedVariables false
namespace Go.Proofs.YtfgjigkgfflofaaGreatDoor
open Go.RowKit Vc Mt St Qn Dt Dec Ld

namespace Ld
theorem anyb_back (g : Nat → Bool) (n : Nat) : anyb (fun s => g (n - 1 - s)) n = anyb g n := by
  cases e : anyb g n with
  | false => exact anyb_false.2 fun k hk => anyb_false.1 e _ (by omega)
  | true =>
    cases e2 : anyb (fun s => g (n - 1 - s)) n with
    | true => rfl
    | false =>
      have : anyb g n = false := anyb_false.2 fun k hk => by
        have := anyb_false.1 e2 (n - 1 - k) (by omega)
        rwa [show n - 1 - (n - 1 - k) = k by omega] at this
      rw [this] at e; cases e
end Ld

set_option maxRecDepth 10000 in
set_option maxHeartbeats 4000000 in
theorem dsolve_any (n cl cd vc : Nat) (lo do' vo : Option Addr) (L : Nat → Nat → Int) (d v : Nat → Int) (w : World) (h1 : 1 ≤ n) (hn : n ≤ 6) (hL : Grid w lo n cl n L) (hd : Sl w do' n cd d) (hv : Sl w vo n vc v) (bL : ∀ a, B64 (L a)) (bd : ∀ k, k < n → 1 ≤ d k ∧ d k ≤ 4611686018427387903) (bv : B64 v) :
    Calls Tryz.prog 20 #[.agg #[.slice lo n cl, .slice do' n cd], .slice vo n vc] w fun e w' => ∃ co cc, e = .returned (.tuple #[.slice co n cc, .bool (solO n L d v)]) ∧ Sl w' co n cc (solV n L d v) ∧ Below w.heap.size w w' := by
  have HDn := Hid.mkV (fun W (H1 : Grid W lo n cl n L) (H2 : Sl W do' n cd d) (H3 : Sl W vo n vc v) => ddown_any n cl cd vc lo do' vo L d v W h1 hn H1 H2 H3 bL bd bv)
  have HL := Hid.mkV hL
  have HDs := Hid.mkV hd
  have HVs := Hid.mkV hv
  obtain ⟨A, C, hs, hg⟩ := hL
  obtain ⟨xl, hlo, hlc⟩ := hs.get
  obtain ⟨xd, hdo, hdc⟩ := hd.get
  obtain rfl := hlo (by omega)
  obtain rfl := hdo (by omega)
  have l1 := hs.le
  have l2 := hs.cap
  have l3 := hd.le
  have l4 := hd.cap
  have HLC := Hid.mkV hlc
  have HDC := Hid.mkV hdc
  have HGr := Hid.mkV hg
  have cG0 : (w.alloc (.cells #[.slice (some xl) n cl, .slice (some xd) n cd] 39)).cell? ⟨w.heap.size, 0, none⟩ = some (.slice (some xl) n cl) := by go_simp
  have cG1 : (w.alloc (.cells #[.slice (some xl) n cl, .slice (some xd) n cd] 39)).cell? ⟨w.heap.size, 1, none⟩ = some (.slice (some xd) n cd) := by go_simp
  have rG : GRow (w.alloc (.cells #[.slice (some xl) n cl, .slice (some xd) n cd] 39)) w.heap.size (.slice (some xl) n cl) (.slice (some xd) n cd) := crow_new w _ _
  have hB := below_al (Below.refl _ w) (.cells #[.slice (some xl) n cl, .slice (some xd) n cd] 39)
  obtain ⟨W, hW⟩ : ∃ W, W = w.alloc (.cells #[.slice (some xl) n cl, .slice (some xd) n cd] 39) := ⟨_, rfl⟩
  rw [← hW] at cG0 cG1 hB rG
  have HW := Hid.mkV hW
  clear hW
  have by' := downV_bd L v n
  have l9 := hv.le
  have l10 := hv.cap
  obtain ⟨y, hy⟩ : ∃ y, y = downV L v n := ⟨_, rfl⟩
  have eV : Hid (solV n L d v = upV L (byV y d) n n) := by rw [hy]; rfl
  have eO : Hid (solO n L d v = (downO L v n || (anyb (fun s => byO y d (n - 1 - s)) n || upO L (byV y d) n n))) := by
    show solO n L d v = _
    rw [anyb_back, hy]; rfl
  rw [← hy] at HDn by'
  have HQ := Hid.mkV (fun k (hk : k < n) W => ldiv_any (y k) (d k) 20 W (by have := by' k; omega) (by have := by' k; omega) (by have := bd k hk; omega) (by have := bd k hk; omega) (by have := bd k hk; omega) (by omega))
  have eQ : Hid (∀ k, signed (y k) (d k) (clamp (rne (((y k).natAbs : Int) * 2 ^ 20) ((d k).natAbs : Int))) = byV y d k ∧ great (rne (((y k).natAbs : Int) * 2 ^ 20) ((d k).natAbs : Int)) = byO y d k) := fun k => ⟨rfl, rfl⟩
  have bz : ∀ t, B64 (upV L (byV y d) n t) := fun t => b64_of (upV_bd L (byV_bd _ _) n t)
  have HS := Hid.mkV (fun t (ht : t < n) i (ao bo : Option Addr) (ca cb : Nat) W (H1 : Sl W ao t ca (fun j => L (i + 1 + j) i)) (H2 : Sl W bo t cb (fun j => upV L (byV y d) n t (i + 1 + j))) => ddot_sl ao bo t ca cb _ _ 30 30 W rfl (by omega) H1 H2 (fun k => bL _ _) (fun k => bz t _) (by omega))
  have HM := Hid.mkV (fun t i W => dless_any (byV y d i) (sumV (fun j => L (i + 1 + j) i) (fun j => upV L (byV y d) n t (i + 1 + j)) t) W (by have := byV_bd y d i; omega) (by have := byV_bd y d i; omega) (by have := sumV_bd (fun j => L (i + 1 + j) i) (fun j => upV L (byV y d) n t (i + 1 + j)) t; omega) (by have := sumV_bd (fun j => L (i + 1 + j) i) (fun j => upV L (byV y d) n t (i + 1 + j)) t; omega))
  have eS : Hid (∀ t i, clamp (rne (dk (fun j => L (i + 1 + j) i) (fun j => upV L (byV y d) n t (i + 1 + j)) t) (2 ^ 30)) = sumV (fun j => L (i + 1 + j) i) (fun j => upV L (byV y d) n t (i + 1 + j)) t ∧ great (rne (dk (fun j => L (i + 1 + j) i) (fun j => upV L (byV y d) n t (i + 1 + j)) t) (2 ^ 30)) = sumO (fun j => L (i + 1 + j) i) (fun j => upV L (byV y d) n t (i + 1 + j)) t ∧
      clamp (byV y d i - sumV (fun j => L (i + 1 + j) i) (fun j => upV L (byV y d) n t (i + 1 + j)) t) = lessV (byV y d i) (fun j => L (i + 1 + j) i) (fun j => upV L (byV y d) n t (i + 1 + j)) t) := fun t i => ⟨rfl, rfl, rfl⟩
  obtain ⟨X, hX⟩ : ∃ X, X = solV n L d v := ⟨_, rfl⟩
  obtain ⟨O, hO⟩ : ∃ O, O = solO n L d v := ⟨_, rfl⟩
  rw [← hX] at eV ⊢
  rw [← hO] at eO ⊢
  obtain ⟨i0, hi, hz0, hz1, hz2⟩ := info_parts infoI64
  clear hs hg hd hlo hdo hlc hdc hv bL bd bv hy by' bz hX hO
  go_enter Tryz.func20, Tryz.ntmps20
  go_wp2_with (first
    | (rw [← HW.out]; refine St.wpList_load isG (by rfl) _ (by rfl) _ _ (by rfl) (by with_reducible exact rG) rfl ?_)
    | fail)
  refine (HDn.out _ (HL.out.keep hB) (HDs.out.keep hB) (HVs.out.keep hB)).mono ?_
  rintro e w1 ⟨yo, yc, rfl, ys, k1⟩
  have B1 := below_tr hB k1
  have G0 := keep_cell k1 cG0
  have G1 := keep_cell k1 cG1
  obtain ⟨xy, hyo, hyc⟩ := ys.get
  obtain rfl := hyo (by omega)
  have l5 := ys.le
  have l6 := ys.cap
  have HYC := Hid.mkV hyc
  obtain ⟨g, hg⟩ : ∃ g, g = w.heap.size := ⟨_, rfl⟩
  rw [← hg] at G0 G1
  rw [← hg]
  clear HDn HL HDs HVs rG cG0 cG1 hyo hyc ys k1 hg
  go_wp2_with (at_make; refine wpList_make_full _ rfl _ _ 36 rfl w1.heap.size 2 i0 (.int .i64 0) 1 Tryz.underlying36 hi hz0 hz1 _ _ _ _ n rfl rfl (by omega) (by omega) (by rw [hz2]; omega) (by unfold maxLen; omega) (Nat.le_refl _) ?_)
  intro w2 hown2 hgrow2
  have hO2 := own_made hown2 hgrow2 (Nat.le_refl _)
  have N2 : NRow w2 w1.heap.size n (fun _ => 0) := own_whole hO2
  have k2 := hO2.below
  obtain ⟨b, hb⟩ : ∃ b, b = w1.heap.size := ⟨_, rfl⟩
  rw [← hb] at N2
  have hbw : w1.heap.size ≤ b := by omega
  have hbw2 : w.heap.size ≤ b := by have := B1.size; omega
  rw [← hb]
  have wn : IntKind.i64.wrap ((n : Int) - 1) = (n : Int) - 1 := by rw [IntKind.wrap_i64]; omega
  clear hown2 hgrow2 hO2 hb
  go_wp2
  go_loopw [7, 10] (fun an ix wr => ∃ t : Nat, ∃ j : Int, t ≤ n ∧ ix = .int .i64 j ∧ Hid (j = (n : Int) - 1 - (t : Int)) ∧ an = .bool (downO L v n || (anyb (fun s => byO y d (n - 1 - s)) t || upO L (byV y d) n t)) ∧ (∃ Z, NRow wr b n Z ∧ Hid (∀ k, n - t ≤ k → k < n → Z k = upV L (byV y d) n t k)) ∧ Below w1.heap.size w1 wr) (fun _ ix _ => (intOf ix + 1).toNat)
  case atStart => exact ⟨0, (n : Int) - 1, by omega, by first | rfl | go_num, by show (n : Int) - 1 = (n : Int) - 1 - ((0 : Nat) : Int); omega, by show _ = Value.bool (downO L v n || (false || false)); simp, ⟨_, N2, fun k h1 h2 => by omega⟩, k2⟩
  case round =>
    rename World => wo
    obtain ⟨t, j, ht, rfl, hj, rfl, ⟨Z, nr, hZ⟩, br⟩ := hrel
    by_cases h : t < n
    · obtain ⟨i, rfl⟩ : ∃ i : Nat, j = (i : Int) := ⟨j.toNat, by have := hj.out; omega⟩
      have hik : n = i + 1 + t := by have := hj.out; omega
      have hin : i < n := by omega
      have c1 := keep_cell br (HYC.out i hin)
      have c2 := keep_cell br G1
      have c3 := keep_cell (below_tr B1 br) (HDC.out i hin)
      have C0 := keep_cell br G0
      have HQk := HQ.out i hin
      rw [(eQ.out i).1, (eQ.out i).2] at HQk
      have HQh := Hid.mkV HQk
      have HSk := HS.out t h i
      rw [(eS.out t i).1, (eS.out t i).2.1] at HSk
      have HMk := HM.out t i
      rw [(eS.out t i).2.2] at HMk
      have HSh := Hid.mkV HSk
      have HMh := Hid.mkV HMk
      have e1 : n - t = i + 1 := by omega
      have e2 : n - 1 - t = i := by omega
      have e3 : Hid (∀ q, upV L (byV y d) n (t + 1) q = if q = i then lessV (byV y d i) (fun j => L (i + 1 + j) i) (fun j => upV L (byV y d) n t (i + 1 + j)) t else upV L (byV y d) n t q) := fun q => by
        show (if q = n - 1 - t then lessV (byV y d (n - 1 - t)) (fun j => L (n - t + j) (n - 1 - t)) (fun j => upV L (byV y d) n t (n - t + j)) t else upV L (byV y d) n t q) = _
        rw [e1, e2]
      have e4 : Hid ((downO L v n || (anyb (fun s => byO y d (n - 1 - s)) (t + 1) || upO L (byV y d) n (t + 1))) = ((downO L v n || (anyb (fun s => byO y d (n - 1 - s)) t || upO L (byV y d) n t)) || (byO y d i || (sumO (fun j => L (i + 1 + j) i) (fun j => upV L (byV y d) n t (i + 1 + j)) t || great (byV y d i - sumV (fun j => L (i + 1 + j) i) (fun j => upV L (byV y d) n t (i + 1 + j)) t))))) := by
        show (downO L v n || ((anyb (fun s => byO y d (n - 1 - s)) t || byO y d (n - 1 - t)) || (upO L (byV y d) n t || lessO (byV y d (n - 1 - t)) (fun j => L (n - t + j) (n - 1 - t)) (fun j => upV L (byV y d) n t (n - t + j)) t))) = _
        rw [e1, e2]
        unfold lessO
        generalize downO L v n = a1
        generalize anyb (fun s => byO y d (n - 1 - s)) t = a2
        generalize byO y d i = a3
        generalize upO L (byV y d) n t = a4
        cases a1 <;> cases a2 <;> cases a3 <;> cases a4 <;> simp
      have HZ2 : Hid (∀ q, i + 1 ≤ q → q < n → Z q = upV L (byV y d) n t q) := fun q h1 h2 => hZ.out q (by omega) h2
      obtain ⟨U, hU⟩ : ∃ U, U = upV L (byV y d) n t := ⟨_, rfl⟩
      obtain ⟨zl, hzl⟩ : ∃ z : Nat → Int, z = fun j => L (i + 1 + j) i := ⟨_, rfl⟩
      obtain ⟨zr, hzr⟩ : ∃ z : Nat → Int, z = fun j => upV L (byV y d) n t (i + 1 + j) := ⟨_, rfl⟩
      rw [← hzl, ← hzr] at HSh HMh e3 e4
      obtain ⟨SV, hSV⟩ : ∃ q, q = sumV zl zr t := ⟨_, rfl⟩
      obtain ⟨SO, hSO⟩ : ∃ q, q = sumO zl zr t := ⟨_, rfl⟩
      rw [← hSV] at HSh HMh e4
      rw [← hSO] at HSh e4
      obtain ⟨LV, hLV⟩ : ∃ q, q = lessV (byV y d i) zl zr t := ⟨_, rfl⟩
      rw [← hLV] at HMh e3
      obtain ⟨GO, hGO⟩ : ∃ q, q = great (byV y d i - SV) := ⟨_, rfl⟩
      rw [← hGO] at HMh e4
      obtain ⟨D, hD⟩ : ∃ q, q = byV y d i := ⟨_, rfl⟩
      obtain ⟨o, ho⟩ : ∃ q, q = byO y d i := ⟨_, rfl⟩
      rw [← hD] at HQh HMh
      rw [← ho] at HQh e4
      obtain ⟨T, hT⟩ : ∃ T, T = (downO L v n || (anyb (fun s => byO y d (n - 1 - s)) t || upO L (byV y d) n t)) := ⟨_, rfl⟩
      rw [← hT] at e4 ⊢
      obtain ⟨yi, hyi⟩ : ∃ q, q = y i := ⟨_, rfl⟩
      obtain ⟨di, hdi⟩ : ∃ q, q = d i := ⟨_, rfl⟩
      rw [← hyi] at HQh c1
      rw [← hdi] at HQh c3
      have HZL := Hid.mkV hzl
      have HZR := Hid.mkV hzr
      have Hik := Hid.mkV hik
      have hit : i + 1 + t = n := by omega
      have HIT := Hid.mkV hit
      have ii0 : (0 : Int) ≤ (i : Int) := by omega
      have ii1 : (i : Int) < (n : Int) := by omega
      have w1' : IntKind.i64.wrap ((i : Int) + 1) = (i : Int) + 1 := by rw [IntKind.wrap_i64]; omega
      have w2' : IntKind.i64.wrap ((i : Int) - 1) = (i : Int) - 1 := by rw [IntKind.wrap_i64]; omega
      clear hU hzl hzr hSV hSO hLV hGO hD ho hT hyi hdi HQk HSk HMk hik hit e1 e2 hZ HQ eQ HS HM eS
      go_wp2
      go_quiet (first | (go_at_call 29; refine Calls.quiet_of_same (HQh.out _)))
      have nra : NRow (wo.drewN nq) b n Z := nr
      have bra := Vc.below_drewN br nq
      have C0a : (wo.drewN nq).cell? ⟨g, 0, none⟩ = some (.slice (some xl) n cl) := C0
      obtain ⟨wa, hwa⟩ : ∃ W, W = wo.drewN nq := ⟨_, rfl⟩
      rw [← hwa] at nra bra C0a ⊢
      clear hwa nr br C0 c1 c2 c3
      go_wp2
      go_loopw [13, 14, 15] (fun vx vy jx ws => ∃ c : Nat, c ≤ t ∧ jx = .int .i64 ((i : Int) + 1 + (c : Int)) ∧ Two wa.heap.size wa ws vx c zl vy c zr) (fun _ _ jx _ => n - (intOf jx).toNat)
      case atStart => exact ⟨0, by omega, by simp, ⟨Own.nil (Below.refl _ _) (Nat.le_refl _) _, Own.nil (Below.refl _ _) (Nat.le_refl _) _, fun g h => by cases h⟩⟩
      case round =>
        rename World => wq
        obtain ⟨c, hc, rfl, hT⟩ := hrel
        have hit := HIT.out
        by_cases h3 : c < t
        · have C1 := keep_cell (below_tr B1 bra) (HLC.out (i + 1 + c) (by omega))
          have rk := (HGr.out (i + 1 + c) (by omega)).keep (below_tr B1 bra)
          obtain ⟨xa, hao, hac⟩ := rk.get
          have l7 := rk.le
          have l8 := rk.cap
          have C2 := hac i hin
          rw [hao (by omega)] at C1
          have C3 := NRow.at nra (k := i + 1 + c) (by omega)
          rw [HZ2.out (i + 1 + c) (by omega) (by omega)] at C3
          have eX : Hid (L (i + 1 + c) i = zl c) := by show L (i + 1 + c) i = zl c; rw [HZL.out]
          have eY : Hid (upV L (byV y d) n t (i + 1 + c) = zr c) := by show upV L (byV y d) n t (i + 1 + c) = zr c; rw [HZR.out]
          obtain ⟨X1, hX1⟩ : ∃ q, q = L (i + 1 + c) i := ⟨_, rfl⟩
          obtain ⟨Y1, hY1⟩ : ∃ q, q = upV L (byV y d) n t (i + 1 + c) := ⟨_, rfl⟩
          obtain ⟨Cj, hCj⟩ : ∃ q, q = C (i + 1 + c) := ⟨_, rfl⟩
          rw [← hX1] at C2 eX
          rw [← hY1] at C3 eY
          rw [← hCj] at C1 l7 l8
          have d0 := keep_cell hT.x.below C0a
          have d1 := keep_cell hT.x.below C1
          have d2 := keep_cell hT.x.below C2
          have d3 := keep_cell hT.x.below C3
          have j0 : (0 : Int) ≤ (i : Int) + 1 + (c : Int) := by omega
          have j1 : (i : Int) + 1 + (c : Int) < (n : Int) := by omega
          have j2 : ((i : Int) + 1 + (c : Int)).toNat = i + 1 + c := by omega
          have j3 : decide ((i : Int) + 1 + (c : Int) < (n : Int)) = true := decide_eq_true (by omega)
          have w3' : IntKind.i64.wrap ((i : Int) + 1 + (c : Int) + 1) = (i : Int) + 1 + (c : Int) + 1 := by rw [IntKind.wrap_i64]; omega
          clear hX1 hY1 hCj rk hao hac HQh HSh HMh hit
          go_wp2
          go_region_held3 (fun w' => w'.cell? ⟨g, 0, none⟩ = some (.slice (some xl) n cl) ∧ w'.cell? (xl.add (i + 1 + c)) = some (.slice (some xa) n Cj) ∧ w'.cell? (xa.add i) = some (.int .i64 X1) ∧ w'.cell? ⟨b, i + 1 + c, none⟩ = some (.int .i64 Y1)) (first
              | with_reducible exact ⟨d0, d1, d2, d3⟩
              | with_reducible exact ⟨keep_cell t2.x.below C0a, keep_cell t2.x.below C1, keep_cell t2.x.below C2, keep_cell t2.x.below C3⟩
              | with_reducible exact ⟨keep_cell t1.x.below C0a, keep_cell t1.x.below C1, keep_cell t1.x.below C2, keep_cell t1.x.below C3⟩
              | with_reducible exact ⟨keep_cell (t1.alloc _).x.below C0a, keep_cell (t1.alloc _).x.below C1, keep_cell (t1.alloc _).x.below C2, keep_cell (t1.alloc _).x.below C3⟩
              | with_reducible exact ⟨keep_cell hT.drew.x.below C0a, keep_cell hT.drew.x.below C1, keep_cell hT.drew.x.below C2, keep_cell hT.drew.x.below C3⟩
              | with_reducible exact ⟨keep_cell (hT.alloc _).x.below C0a, keep_cell (hT.alloc _).x.below C1, keep_cell (hT.alloc _).x.below C2, keep_cell (hT.alloc _).x.below C3⟩
              | with_reducible exact ⟨keep_cell (hT.alloc _).drew.x.below C0a, keep_cell (hT.alloc _).drew.x.below C1, keep_cell (hT.alloc _).drew.x.below C2, keep_cell (hT.alloc _).drew.x.below C3⟩
              | with_reducible exact ⟨keep_cell ((hT.alloc _).drew.alloc _).x.below C0a, keep_cell ((hT.alloc _).drew.alloc _).x.below C1, keep_cell ((hT.alloc _).drew.alloc _).x.below C2, keep_cell ((hT.alloc _).drew.alloc _).x.below C3⟩
              | with_reducible exact ⟨keep_cell ((hT.alloc _).alloc _).x.below C0a, keep_cell ((hT.alloc _).alloc _).x.below C1, keep_cell ((hT.alloc _).alloc _).x.below C2, keep_cell ((hT.alloc _).alloc _).x.below C3⟩
              | with_reducible exact ⟨keep_cell ((hT.alloc _).alloc _).drew.x.below C0a, keep_cell ((hT.alloc _).alloc _).drew.x.below C1, keep_cell ((hT.alloc _).alloc _).drew.x.below C2, keep_cell ((hT.alloc _).alloc _).drew.x.below C3⟩
              | go_keep)
            (first
              | (refine step_x (by rfl) (.tmp 56) (.tmp 65) (by rfl) (B := wa.heap.size) (w0 := wa) (vx := u13) (vy := u14) (nx := c) (ny := c) (zx := zl) (zy := zr) (by repeat (first | with_reducible exact hT | with_reducible exact t1 | with_reducible exact t2 | with_reducible refine Two.alloc ?_ _ | with_reducible refine Two.drew ?_)) (by rfl) (by omega) (y := X1) (by rfl) (by repeat (first | (with_reducible refine pend_at (B := wa.heap.size) (w0 := wa) (vx := u13) (nx := c) (ny := c) (zx := zl) (zy := zr) ?_ _ (by simp)) | (with_reducible refine pend_at (B := wa.heap.size) (w0 := wa) (vx := v1) (nx := c + 1) (ny := c) (zx := zl) (zy := zr) ?_ _ (by simp)) | with_reducible exact hT | with_reducible exact t1 | with_reducible refine Two.alloc ?_ _ | with_reducible refine Two.drew ?_ | with_reducible refine Pend.alloc ?_ _ | with_reducible refine Pend.drew ?_ | with_reducible refine p1 _ _ ?_)) (by exact eX.out) ?_; intro v1 w1 t1 p1)
              | (refine step_y (by rfl) (.tmp 67) (.tmp 72) (by rfl) (B := wa.heap.size) (w0 := wa) (vx := v1) (vy := u14) (nx := c + 1) (ny := c) (zx := zl) (zy := zr) (by repeat (first | with_reducible exact hT | with_reducible exact t1 | with_reducible exact t2 | with_reducible refine Two.alloc ?_ _ | with_reducible refine Two.drew ?_)) (by rfl) (by omega) (y := Y1) (by rfl) (by repeat (first | (with_reducible refine pend_at (B := wa.heap.size) (w0 := wa) (vx := u13) (nx := c) (ny := c) (zx := zl) (zy := zr) ?_ _ (by simp)) | (with_reducible refine pend_at (B := wa.heap.size) (w0 := wa) (vx := v1) (nx := c + 1) (ny := c) (zx := zl) (zy := zr) ?_ _ (by simp)) | with_reducible exact hT | with_reducible exact t1 | with_reducible refine Two.alloc ?_ _ | with_reducible refine Two.drew ?_ | with_reducible refine Pend.alloc ?_ _ | with_reducible refine Pend.drew ?_ | with_reducible refine p1 _ _ ?_)) (by exact eY.out) ?_; intro v2 w2 t2 p2))
          all_goals go_wp2
          all_goals go_roundw
          all_goals first
            | (simp [intOf]; omega)
            | exact ⟨c + 1, by omega, by go_num, t2⟩
            | trace_state
        · obtain rfl : c = t := by omega
          have j3 : decide ((i : Int) + 1 + (c : Int) < (n : Int)) = false := decide_eq_false (by omega)
          obtain ⟨ax, cx, rfl, sx⟩ := hT.x.sl
          obtain ⟨ay, cy, rfl, sy⟩ := hT.y.sl
          have hb := hT.x.below
          have HSq := Hid.mkV (HSh.out ax ay cx cy _ sx sy)
          have nrq := CRow.keep nra hb
          have brq := below_tr bra hb
          clear hT sx sy HSh hit HQh nra bra hb C0a
          go_wp2_with fail
          refine HSq.out.mono ?_
          rintro e w5 ⟨rfl, k5⟩
          go_wp2_with fail
          refine (HMh.out _).mono ?_
          rintro e w6 ⟨rfl, k6⟩
          have n6 := CRow.keep (CRow.keep nrq k5) k6
          have b6 := below_tr (below_tr brq k5) k6
          have f6 := CRow.free n6 i
          have c6 := NRow.at n6 hin
          clear nrq brq k5 k6 HSq HMh
          cases T <;> cases o <;> cases SO <;> (go_wp2; go_roundw)
          all_goals first
            | (show ((i : Int) - 1 + 1).toNat < ((i : Int) + 1).toNat; omega)
            | (refine ⟨c + 1, (i : Int) - 1, by omega, by first | rfl | go_num, by have := Hik.out; show (i : Int) - 1 = (n : Int) - 1 - ((c + 1 : Nat) : Int); omega, by rw [e4.out]; rfl, ⟨_, NRow.set n6 i LV, fun q h7 h8 => ?_⟩, b6.setCell hbw _⟩
               have := HIT.out
               rw [e3.out]
               show (if q = i then LV else Z q) = _
               by_cases e : q = i
               · rw [if_pos e, if_pos e]
               · rw [if_neg e, if_neg e]; exact HZ2.out q (by omega) h8)
    · obtain rfl : t = n := by omega
      obtain rfl : j = -1 := by have := hj.out; omega
      rw [← eO.out]
      go_wp2
      go_ret2
      refine ⟨_, _, rfl, (NRow.all nr (Nat.le_refl _) (by omega)).congr (fun k hk => ?_), below_tr B1 br⟩
      rw [eV.out]
      exact hZ.out k (by omega) hk

end Go.Proofs.YtfgjigkgfflofaaGreatDoor
