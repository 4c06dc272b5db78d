/-
  The document's answer of layer 9 (radomeref09): down, Solve, Far, Log.
-/
import Derived.Test.YtdgcnaijndocnaaGreatDoorLdR
import Derived.Test.YtdgcnaijndocnaaGreatDoorLgV
import Derived.Test.YtdgcnaijndocnaaGreatDoorM24
import Derived.Test.YtdgcnaijndocnaaGreatDoorM22
import Derived.Deep.RegionWith
import Derived.Deep.RegionHeld3
set_option linter.unusedSimpArgs false
set_option linter.unusedVariables false
namespace Go.Proofs.YtdgcnaijndocnaaGreatDoor
open Go.RowKit Vc Mt St Qn Dt Dec Ld
namespace Ld
theorem run_oneS (x : Addr) (n c i : Nat) (h : i < n) (hc : n ≤ c) : (∀ w : World, (Instr.sliceAt 22 (.slice (some x) n c) (some (.int .i64 (i : Int))) (some (.int .i64 ((i : Int) + 1))) none).run Tryz.prog w = .ok (.slice (some (x.add i)) 1 (c - i)) w) ∧
    ∀ w : World, (Instr.slice 22 (.slice (some x) n c) (some (.int .i64 (i : Int))) (some (.int .i64 ((i : Int) + 1))) none).run Tryz.prog w = .ok (.slice (some (x.add i)) 1 (c - i)) w := by
  have hu : Tryz.prog.underlying 22 = some (.slice (Tryz.prog.elem 22)) := by kernel_rfl
  have he : Tryz.prog.elem 22 = 2 := by kernel_rfl
  have key : ∀ w : World, (Instr.slice 22 (.slice (some x) n c) (some (.int .i64 (i : Int))) (some (.int .i64 ((i : Int) + 1))) none).run Tryz.prog w = .ok (.slice (some (x.add i)) 1 (c - i)) w := fun w => by
    rw [run_slice_lh w 22 _ _ _ hu .i64 .i64 _ _ (by omega) (by omega) (by omega), he, run_size8]
    have e1 : ((i : Int) + 1).toNat = i + 1 := by omega
    simp only [Result.andThen_ok, sliced, Int.toNat_natCast, Nat.mul_one, e1]
    rw [if_neg (by omega), Option.map_some, Nat.add_sub_cancel_left]
  exact ⟨fun w => by rw [run_sliceAt_slice w 22 _ _ _ _ hu]; exact key w, key⟩
theorem sl_one' {w : World} {x : Addr} {a : Int} {c : Nat} (h : w.cell? x = some (.int .i64 a)) (h1 : 1 ≤ c) (h2 : c ≤ 9223372036854775807) : Sl w (some x) 1 c (fun _ => a) :=
  ⟨h1, h2, fun k hk => ⟨x, rfl, by
    match k, hk with
    | 0, _ => exact h⟩⟩
theorem b64_const {a : Int} (h : -4611686018427387903 ≤ a ∧ a ≤ 4611686018427387903) : B64 (fun _ => a) := fun _ => ⟨by show -9223372036854775808 ≤ a; omega, by show a ≤ 9223372036854775807; omega⟩
end Ld
set_option maxRecDepth 10000 in
set_option maxHeartbeats 2000000 in
theorem ddown_any (n cl cd vc : Nat) (lo do' vo : Option Addr) (L : Nat → Nat → Int) (d v : Nat → Int) (w : World) (h1 : 1 ≤ n) (hn : n ≤ 6) (hL : Grid w lo n cl n L) (hd : Sl w do' n cd d) (hv : Sl w vo n vc v) (bL : ∀ a, B64 (L a)) (bd : ∀ k, k < n → 1 ≤ d k ∧ d k ≤ 4611686018427387903) (bv : B64 v) :
  Calls Tryz.prog 80 #[.agg #[.slice lo n cl, .slice do' n cd], .slice vo n vc] w fun e w' => ∃ co cc, e = .returned (.tuple #[.slice co n cc, .bool (downO L v n)]) ∧ Sl w' co n cc (downV L v n) ∧ Below w.heap.size w w' := by
 obtain ⟨A, C, hs, hg⟩ := hL
 obtain ⟨xl, hlo, hlc⟩ := hs.get
 obtain ⟨xd, hdo, hdc⟩ := hd.get
 obtain rfl := hlo (by omega)
 obtain rfl := hdo (by omega)
 have l1 := hs.le
 have l2 := hs.cap
 have l3 := hd.le
 have l4 := hd.cap
 have HLC := Hid.mkV hlc
 have HDC := Hid.mkV hdc
 have HGr := Hid.mkV hg
 have cG0 : (w.alloc (.cells #[.slice (some xl) n cl, .slice (some xd) n cd] 49)).cell? ⟨w.heap.size, 0, none⟩ = some (.slice (some xl) n cl) := by go_simp
 have cG1 : (w.alloc (.cells #[.slice (some xl) n cl, .slice (some xd) n cd] 49)).cell? ⟨w.heap.size, 1, none⟩ = some (.slice (some xd) n cd) := by go_simp
 have rG : GRow (w.alloc (.cells #[.slice (some xl) n cl, .slice (some xd) n cd] 49)) w.heap.size (.slice (some xl) n cl) (.slice (some xd) n cd) := crow_new w _ _
 have hB := below_al (Below.refl _ w) (.cells #[.slice (some xl) n cl, .slice (some xd) n cd] 49)
 obtain ⟨W, hW⟩ : ∃ W, W = w.alloc (.cells #[.slice (some xl) n cl, .slice (some xd) n cd] 49) := ⟨_, rfl⟩
 rw [← hW] at cG0 cG1 hB rG
 have HW := Hid.mkV hW
 clear hW
 obtain ⟨xv, hvo, hvc⟩ := hv.get
 obtain rfl := hvo (by omega)
 have l5 := hv.le
 have l6 := hv.cap
 have HVC := Hid.mkV hvc
 have HS := Hid.mkV (fun k (hk : k < n) (ao bo : Option Addr) (ca cb : Nat) W (H1 : Sl W ao k ca (L k)) (H2 : Sl W bo k cb (downV L v k)) => ddot_sl ao bo k ca cb (L k) (downV L v k) 30 30 W rfl (by omega) H1 H2 (bL k) (b64_of (downV_bd L v k)) (by omega))
 have HM := Hid.mkV (fun k W => dless_any (v k) (sumV (L k) (downV L v k) k) W (bv k).1 (bv k).2 (by have := sumV_bd (L k) (downV L v k) k; omega) (by have := sumV_bd (L k) (downV L v k) k; omega))
 have eS : Hid (∀ k, clamp (rne (dk (L k) (downV L v k) k) (2 ^ 30)) = sumV (L k) (downV L v k) k ∧ great (rne (dk (L k) (downV L v k) k) (2 ^ 30)) = sumO (L k) (downV L v k) k ∧ clamp (v k - sumV (L k) (downV L v k) k) = lessV (v k) (L k) (downV L v k) k) := fun k => ⟨rfl, rfl, rfl⟩
 clear hs hg hd hlo hdo hlc hdc hv hvo hvc bL bd bv rG
 go_enter Tryz.func80, Tryz.ntmps80
 go_wp2_with (first | (rw [← HW.out]) | fail)
 go_loopw [6, 7, 8] (fun y an ix wr => ∃ k : Nat, k ≤ n ∧ ix = .int .i64 (k : Int) ∧ an = .bool (downO L v k) ∧ Own W.heap.size W wr y k (downV L v n)) (fun _ _ ix _ => n - (intOf ix).toNat)
 case atStart => exact ⟨0, by omega, rfl, rfl, Own.nil (Below.refl _ _) (Nat.le_refl _) _⟩
 case round =>
  rename World => wo
  obtain ⟨k, hk, rfl, rfl, hown⟩ := hrel
  by_cases h : k < n
  ·obtain ⟨yo, yc, rfl, ys⟩ := hown.sl
   have ys' : Sl wo yo k yc (downV L v k) := ys.congr (fun j hj => downV_keep L v hj (by omega))
   have hb := below_tr hB hown.below
   have c1 := keep_cell hown.below cG0
   have c2 := keep_cell hb (HLC.out k h)
   have rk := (HGr.out k h).keep hb
   have l7 := rk.le
   have l8 := rk.cap
   have rk' : Sl wo (A k) k (C k) (L k) := ⟨by omega, rk.cap, fun j hj => rk.at' j (by omega)⟩
   have c3 := keep_cell hb (HVC.out k h)
   have HSk := HS.out k h (A k) yo (C k) yc wo rk' ys'
   have HMk := HM.out k
   rw [(eS.out k).1, (eS.out k).2.1] at HSk
   rw [(eS.out k).2.2] at HMk
   have HSh := Hid.mkV HSk
   have HMh := Hid.mkV HMk
   have HV : Hid (downV L v n k = lessV (v k) (L k) (downV L v k) k) := by
    show downV L v n k = _
    rw [downV_keep L v (j := k + 1) (by omega) (by omega)]
    exact if_pos rfl
   have HA : Hid (downO L v (k + 1) = (downO L v k || (sumO (L k) (downV L v k) k || great (v k - sumV (L k) (downV L v k) k)))) := rfl
   obtain ⟨SV, hSV⟩ : ∃ t, t = sumV (L k) (downV L v k) k := ⟨_, rfl⟩
   obtain ⟨SO, hSO⟩ : ∃ t, t = sumO (L k) (downV L v k) k := ⟨_, rfl⟩
   obtain ⟨LV, hLV⟩ : ∃ t, t = lessV (v k) (L k) (downV L v k) k := ⟨_, rfl⟩
   rw [← hSV, ← hSO] at HSh HA
   rw [← hSV, ← hLV] at HMh
   rw [← hLV] at HV
   obtain ⟨GO, hGO⟩ : ∃ t, t = great (v k - SV) := ⟨_, rfl⟩
   rw [← hGO] at HMh HA
   obtain ⟨T, hT⟩ : ∃ T, T = downO L v k := ⟨_, rfl⟩
   rw [← hT] at HA ⊢
   obtain ⟨vk, hvk⟩ : ∃ t, t = v k := ⟨_, rfl⟩
   rw [← hvk] at HMh c3
   obtain ⟨Ak, hAk⟩ : ∃ t, t = A k := ⟨_, rfl⟩
   obtain ⟨Ck, hCk⟩ : ∃ t, t = C k := ⟨_, rfl⟩
   rw [← hAk, ← hCk] at c2 HSh
   rw [← hCk] at l7 l8
   clear hSV hSO hLV hGO hT hvk hAk hCk HSk HMk rk rk' ys ys' HS HM eS HGr
   have i0 : (0 : Int) ≤ (k : Int) := by omega
   have i1 : (k : Int) < (n : Int) := by omega
   have i2 : (k : Int) ≤ (n : Int) := by omega
   have i3 : (k : Int) ≤ (Ck : Int) := by omega
   go_wp2_with fail
   refine HSh.out.mono ?_
   rintro e w2 ⟨rfl, k2⟩
   have c3' := keep_cell k2 c3
   have hown2 := hown.keep k2
   go_wp2_with fail
   refine (HMh.out _).mono ?_
   rintro e w3 ⟨rfl, k3⟩
   have hown3 := hown2.keep k3
   clear hown hown2 c1 c2 c3 c3' k2 k3
   go_wp2_with (at_builtin; refine wpList_push (by rfl) (.tmp 40) (.tmp 42) (by rfl) W.heap.size W _ k (downV L v n) (by rfl) hown3 (by omega) LV (by exact HV.out.symm) (by rfl) ?_)
   intro v' w' hown'
   cases T <;> cases SO <;> (go_wp2; go_roundw)
   all_goals first
    | (simp [intOf]; omega)
    | exact ⟨k + 1, by omega, by go_num, by rw [HA.out]; rfl, hown'⟩
  ·obtain rfl : k = n := by omega
   obtain ⟨yo, yc, rfl, ys⟩ := hown.sl
   obtain ⟨T, hT⟩ : ∃ T, T = downO L v k := ⟨_, rfl⟩
   rw [← hT]
   have HT := Hid.mkV hT
   clear hT
   go_wp2
   go_ret2
   exact ⟨yo, yc, by rw [← HT.out]; rfl, ys, below_tr hB hown.below⟩
set_option maxRecDepth 10000 in
set_option maxHeartbeats 2000000 in
theorem dfar_any (n cl cd vc : Nat) (lo do' vo : Option Addr) (L : Nat → Nat → Int) (d v : Nat → Int) (w : World) (h1 : 1 ≤ n) (hn : n ≤ 6) (hL : Grid w lo n cl n L) (hd : Sl w do' n cd d) (hv : Sl w vo n vc v) (bL : ∀ a, B64 (L a)) (bd : ∀ k, k < n → 1 ≤ d k ∧ d k ≤ 4611686018427387903) (bv : B64 v) :
    Calls Tryz.prog 32 #[.agg #[.slice lo n cl, .slice do' n cd], .slice vo n vc] w fun e w' => e = .returned (.tuple #[.int .i64 (farV (downV L v n) d n), .bool (downO L v n || farO (downV L v n) d n)]) ∧ Below w.heap.size w w' := by
  have HDn := Hid.mkV (fun W (H1 : Grid W lo n cl n L) (H2 : Sl W do' n cd d) (H3 : Sl W vo n vc v) => ddown_any n cl cd vc lo do' vo L d v W h1 hn H1 H2 H3 bL bd bv)
  have HL := Hid.mkV hL
  have HDs := Hid.mkV hd
  have HVs := Hid.mkV hv
  obtain ⟨A, C, hs, hg⟩ := hL
  obtain ⟨xl, hlo, hlc⟩ := hs.get
  obtain ⟨xd, hdo, hdc⟩ := hd.get
  obtain rfl := hlo (by omega)
  obtain rfl := hdo (by omega)
  have l1 := hs.le
  have l2 := hs.cap
  have l3 := hd.le
  have l4 := hd.cap
  have HLC := Hid.mkV hlc
  have HDC := Hid.mkV hdc
  have HGr := Hid.mkV hg
  have cG0 : (w.alloc (.cells #[.slice (some xl) n cl, .slice (some xd) n cd] 49)).cell? ⟨w.heap.size, 0, none⟩ = some (.slice (some xl) n cl) := by go_simp
  have cG1 : (w.alloc (.cells #[.slice (some xl) n cl, .slice (some xd) n cd] 49)).cell? ⟨w.heap.size, 1, none⟩ = some (.slice (some xd) n cd) := by go_simp
  have rG : GRow (w.alloc (.cells #[.slice (some xl) n cl, .slice (some xd) n cd] 49)) w.heap.size (.slice (some xl) n cl) (.slice (some xd) n cd) := crow_new w _ _
  have hB := below_al (Below.refl _ w) (.cells #[.slice (some xl) n cl, .slice (some xd) n cd] 49)
  obtain ⟨W, hW⟩ : ∃ W, W = w.alloc (.cells #[.slice (some xl) n cl, .slice (some xd) n cd] 49) := ⟨_, rfl⟩
  rw [← hW] at cG0 cG1 hB rG
  have HW := Hid.mkV hW
  clear hW
  have by' := downV_bd L v n
  obtain ⟨y, hy⟩ : ∃ y, y = downV L v n := ⟨_, rfl⟩
  rw [← hy] at HDn by' ⊢
  have HM := Hid.mkV (fun k (ao : Option Addr) (ca cb : Nat) W (H1 : Sl W ao 1 ca (fun _ => y k)) (H2 : Sl W ao 1 cb (fun _ => y k)) => ddot_sl ao ao 1 ca cb (fun _ => y k) (fun _ => y k) 20 20 W rfl (by omega) H1 H2 (b64_const (by' k)) (b64_const (by' k)) (by omega))
  have e1 : ∀ k, dk (fun _ => y k) (fun _ => y k) 1 = y k * y k := fun k => by show 0 + y k * y k = _; omega
  have HQ := Hid.mkV (fun k (hk : k < n) W => ldiv_any (clamp (rne (y k * y k) (2 ^ 20))) (d k) 20 W (by have := clamp_bd (rne (y k * y k) (2 ^ 20)); omega) (by have := clamp_bd (rne (y k * y k) (2 ^ 20)); omega) (by have := bd k hk; omega) (by have := bd k hk; omega) (by have := bd k hk; omega) (by omega))
  have eQ : Hid (∀ x k, signed x (d k) (clamp (rne ((x.natAbs : Int) * 2 ^ 20) ((d k).natAbs : Int))) = divV x (d k) 20 ∧ great (rne ((x.natAbs : Int) * 2 ^ 20) ((d k).natAbs : Int)) = divO x (d k) 20) := fun x k => ⟨rfl, rfl⟩
  have E1 := Hid.mkV e1
  clear hs hg hd hlo hdo hlc hdc hv bL bd bv hy e1 by' HGr
  go_enter Tryz.func32, Tryz.ntmps32
  go_wp2_with (first
    | (rw [← HW.out]; refine St.wpList_load isG (by rfl) _ (by rfl) _ _ (by rfl) (by with_reducible exact rG) rfl ?_)
    | fail)
  refine (HDn.out _ (HL.out.keep hB) (HDs.out.keep hB) (HVs.out.keep hB)).mono ?_
  rintro e w1 ⟨yo, yc, rfl, ys, k1⟩
  have B1 := below_tr hB k1
  have c1 := keep_cell k1 cG1
  obtain ⟨xy, hyo, hyc⟩ := ys.get
  obtain rfl := hyo (by omega)
  have l5 := ys.le
  have l6 := ys.cap
  have HYC := Hid.mkV hyc
  clear HDn HL HDs HVs rG cG0 cG1 hyo hyc ys k1
  go_wp2
  go_loopw [7, 8, 9] (fun an s ix wr => ∃ k : Nat, k ≤ n ∧ ix = .int .i64 (k : Int) ∧ s = .int .i64 (farV y d k) ∧ an = .bool (downO L v n || farO y d k) ∧ Below w1.heap.size w1 wr) (fun _ _ ix _ => n - (intOf ix).toNat)
  case atStart => exact ⟨0, by omega, rfl, rfl, by show _ = Value.bool (downO L v n || false); rw [Bool.or_false], Below.refl _ _⟩
  case round =>
    rename World => wo
    obtain ⟨k, hk, rfl, rfl, rfl, hb⟩ := hrel
    by_cases h : k < n
    · have c2 := keep_cell hb (HYC.out k h)
      have c3 := keep_cell hb c1
      have c4 := keep_cell (below_tr B1 hb) (HDC.out k h)
      obtain ⟨es1, es2⟩ := run_oneS xy n yc k h l5
      have sl1 : Sl wo (some (xy.add k)) 1 (yc - k) (fun _ => y k) := sl_one' c2 (by omega) (by omega)
      have HMk := HM.out k (some (xy.add k)) (yc - k) (yc - k)
      rw [E1.out k] at HMk
      have HMh := Hid.mkV HMk
      have HQk := HQ.out k h
      rw [(eQ.out _ k).1, (eQ.out _ k).2] at HQk
      have HQh := Hid.mkV HQk
      have bA := farV_bd y d k
      have bD := divV_bd (clamp (rne (y k * y k) (2 ^ 20))) (d k) 20
      have OA := Hid.mkV (fun W => of_any (farV y d k) W (by omega) (by omega))
      have OB := Hid.mkV (fun W => of_any (divV (clamp (rne (y k * y k) (2 ^ 20))) (d k) 20) W (by omega) (by omega))
      have AD := Hid.mkV (fun va vb W => add_any va vb (farV y d k) (divV (clamp (rne (y k * y k) (2 ^ 20))) (d k) 20) W (digs_short (by omega) (by omega)) (digs_short (by omega) (by omega)))
      have BO := Hid.mkV (fun v W => bound_is v (farV y d k + divV (clamp (rne (y k * y k) (2 ^ 20))) (d k) 20) W (digs_short (by omega) (by omega)))
      have e3 : Hid (farV y d (k + 1) = clamp (farV y d k + divV (clamp (rne (y k * y k) (2 ^ 20))) (d k) 20)) := rfl
      have e4 : Hid (farO y d (k + 1) = (farO y d k || (great (rne (y k * y k) (2 ^ 20)) || divO (clamp (rne (y k * y k) (2 ^ 20))) (d k) 20 || great (farV y d k + divV (clamp (rne (y k * y k) (2 ^ 20))) (d k) 20)))) := rfl
      rw [← e3.out] at BO
      obtain ⟨P, hP⟩ : ∃ P, P = clamp (rne (y k * y k) (2 ^ 20)) := ⟨_, rfl⟩
      obtain ⟨p, hp⟩ : ∃ P, P = great (rne (y k * y k) (2 ^ 20)) := ⟨_, rfl⟩
      rw [← hP] at HMh HQh OB AD BO e4
      rw [← hp] at HMh e4
      obtain ⟨D, hD⟩ : ∃ D, D = divV P (d k) 20 := ⟨_, rfl⟩
      obtain ⟨q, hq⟩ : ∃ q, q = divO P (d k) 20 := ⟨_, rfl⟩
      rw [← hD] at HQh OB AD BO e4
      rw [← hq] at HQh e4
      obtain ⟨u, hu⟩ : ∃ q, q = great (farV y d k + D) := ⟨_, rfl⟩
      rw [← hu] at BO e4
      obtain ⟨Sm, hSm⟩ : ∃ A, A = farV y d k + D := ⟨_, rfl⟩
      rw [← hSm] at AD BO
      obtain ⟨A', hA'⟩ : ∃ A, A = farV y d (k + 1) := ⟨_, rfl⟩
      rw [← hA'] at BO
      obtain ⟨Ak, hA⟩ : ∃ A, A = farV y d k := ⟨_, rfl⟩
      rw [← hA] at OA AD ⊢
      obtain ⟨T, hT⟩ : ∃ T, T = (downO L v n || farO y d k) := ⟨_, rfl⟩
      have e5 : Hid ((downO L v n || farO y d (k + 1)) = (T || ((p || q) || u))) := by
        show (downO L v n || farO y d (k + 1)) = _
        rw [e4.out, hT]
        simp only [Bool.or_assoc]
      rw [← hT]
      obtain ⟨dk', hdk⟩ : ∃ q, q = d k := ⟨_, rfl⟩
      rw [← hdk] at HQh c4
      have HA' := Hid.mkV hA'
      clear hP hp hD hq hu hSm hA hA' hT hdk HMk HQk e3 e4 bA bD HM HQ eQ E1
      have i0 : (0 : Int) ≤ (k : Int) := by omega
      have i1 : (k : Int) < (n : Int) := by omega
      have w0 : IntKind.i64.wrap ((k : Int) + 1) = (k : Int) + 1 := by rw [IntKind.wrap_i64]; omega
      go_wp2
      go_region_with
        (first
          | (go_at_call 81; refine (HMh.out _ (sl1.keep (Vc.below_drew' _)) (sl1.keep (Vc.below_drew' _))).mono ?_; rintro e w2 ⟨rfl, k2'⟩
             have k2 : Below wo.heap.size wo w2 := below_tr (Vc.below_drew' _) k2'
             have c3' := keep_cell k2 c3
             have c4' := keep_cell k2 c4
             clear k2'))
      go_wp2_with fail
      refine (HQh.out _).mono ?_
      rintro e w3 ⟨rfl, k3'⟩
      have k3 : Below w2.heap.size w2 w3 := by rw [k3']; exact Below.refl _ _
      clear k3'
      go_wp2_with fail
      refine (OA.out _).mono ?_
      rintro e w4 ⟨va, rfl, i4, k4⟩
      go_wp2_with fail
      refine (OB.out _).mono ?_
      rintro e w5 ⟨vb, rfl, i5, k5⟩
      go_wp2_with fail
      refine (AD.out _ _ _ (i4.below k5) i5).mono ?_
      rintro e w6 ⟨vs, rfl, i6, k6⟩
      go_wp2_with fail
      refine (BO.out _ _ i6).mono ?_
      rintro e w7 ⟨rfl, k7⟩
      have b7 := below_tr (below_tr (below_tr (below_tr (below_tr (below_tr hb k2) k3) k4) k5) k6) k7
      clear c2 c3 c4 c3' c4' k2 k3 k4 k5 k6 k7 i4 i5 i6 hb
      cases T <;> cases p <;> cases q <;> (go_wp2; go_roundw)
      all_goals first
        | (simp [intOf]; omega)
        | exact ⟨k + 1, by omega, by go_num, by rw [HA'.out], by rw [e5.out]; rfl, b7⟩
    · obtain rfl : k = n := by omega
      obtain ⟨T, hT⟩ : ∃ T, T = (downO L v k || farO y d k) := ⟨_, rfl⟩
      obtain ⟨S, hS⟩ : ∃ T, T = farV y d k := ⟨_, rfl⟩
      rw [← hT, ← hS]
      have HT := Hid.mkV hT
      have HS := Hid.mkV hS
      clear hT hS
      go_wp2
      go_ret2
      exact ⟨by rw [← HT.out, ← HS.out]; rfl, below_tr B1 hb⟩
set_option maxRecDepth 10000 in
set_option maxHeartbeats 1000000 in
theorem dlog_any (n cl cd : Nat) (lo do' : Option Addr) (d : Nat → Int) (w : World) (h1 : 1 ≤ n) (hn : n ≤ 6) (hd : Sl w do' n cd d) (bd : ∀ k, k < n → 1 ≤ d k ∧ d k ≤ 4611686018427387903) :
  Calls Tryz.prog 36 #[.agg #[.slice lo n cl, .slice do' n cd]] w fun e w' => e = .returned (.int .i64 (logS d n)) ∧ Below w.heap.size w w' := by
 obtain ⟨xd, hdo, hdc⟩ := hd.get
 obtain rfl := hdo (by omega)
 have l3 := hd.le
 have l4 := hd.cap
 have HDC := Hid.mkV hdc
 have cG1 : (w.alloc (.cells #[.slice lo n cl, .slice (some xd) n cd] 49)).cell? ⟨w.heap.size, 1, none⟩ = some (.slice (some xd) n cd) := by go_simp
 have hB := below_al (Below.refl _ w) (.cells #[.slice lo n cl, .slice (some xd) n cd] 49)
 obtain ⟨W, hW⟩ : ∃ W, W = w.alloc (.cells #[.slice lo n cl, .slice (some xd) n cd] 49) := ⟨_, rfl⟩
 rw [← hW] at cG1 hB
 have HW := Hid.mkV hW
 have HL := Hid.mkV (fun k (hk : k < n) W => rlog_any (d k) 20 W (bd k hk).1 (bd k hk).2 (by omega))
 clear hW hd hdo hdc bd
 go_enter Tryz.func36, Tryz.ntmps36
 go_wp2_with (first | (rw [← HW.out]) | fail)
 go_loopw [3, 4] (fun a ix wr => ∃ k : Nat, k ≤ n ∧ ix = .int .i64 (k : Int) ∧ a = .int .i64 (logS d k) ∧ Below W.heap.size W wr) (fun _ ix _ => n - (intOf ix).toNat)
 case atStart => exact ⟨0, by omega, rfl, rfl, Below.refl _ _⟩
 case round =>
  obtain ⟨k, hk, rfl, rfl, hb⟩ := hrel
  have c1 := keep_cell hb cG1
  by_cases h : k < n
  ·have c2 := keep_cell (below_tr hB hb) (HDC.out k h)
   have HLk := Hid.mkV (HL.out k h)
   have e3 : IntKind.i64.wrap (logS d k + Gw.lgb (d k) (Gw.dn (d k)) ((20 : Nat) : Int)) = logS d (k + 1) := rfl
   obtain ⟨A, hA⟩ : ∃ A, A = logS d k := ⟨_, rfl⟩
   obtain ⟨A', hA'⟩ : ∃ A, A = logS d (k + 1) := ⟨_, rfl⟩
   obtain ⟨V, hV⟩ : ∃ A, A = Gw.lgb (d k) (Gw.dn (d k)) ((20 : Nat) : Int) := ⟨_, rfl⟩
   obtain ⟨x, hx⟩ : ∃ A, A = d k := ⟨_, rfl⟩
   rw [← hV] at HLk e3
   rw [← hA, ← hA'] at e3
   rw [← hA]
   rw [← hx] at HLk c2
   have HA' := Hid.mkV hA'
   clear hA hA' hV hx
   have i0 : (0 : Int) ≤ (k : Int) := by omega
   have i1 : (k : Int) < (n : Int) := by omega
   go_wp2_with fail
   refine (HLk.out _).mono ?_
   rintro e w2 ⟨rfl, k2⟩
   go_wp2
   go_roundw
   case rel => exact ⟨k + 1, by omega, by go_num, by rw [HA'.out], below_tr hb k2⟩
   case measure => simp [intOf]; omega
  ·obtain rfl : k = n := by omega
   go_wp2
   go_ret
   exact ⟨rfl, below_tr hB hb⟩
end Go.Proofs.YtdgcnaijndocnaaGreatDoor
namespace Go.Proofs.YtdgcnaijndocnaaGreatDoor
open Go.RowKit Vc Mt St Qn Dt Dec Ld
namespace Ld
end Ld
end Go.Proofs.YtdgcnaijndocnaaGreatDoor
