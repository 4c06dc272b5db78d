/-
  The document's answer of layer 9 (radomeref09): down, Solve, Far, Log.
-/
import Derived.Test.YtlomfjacgomhdaaGreatDoorM19
import Derived.Test.YtlomfjacgomhdaaGreatDoorLgV
import Derived.Test.YtlomfjacgomhdaaGreatDoorM27
import Derived.Test.YtlomfjacgomhdaaGreatDoorM14
import Derived.Deep.RegionWith
import Derived.Test.YtlomfjacgomhdaaGreatDoorRegU
import Derived.Test.YtlomfjacgomhdaaGreatDoorM18
import Derived.Test.YtlomfjacgomhdaaGreatDoorM17
import Derived.Test.YtlomfjacgomhdaaGreatDoorM2
import Derived.Deep.CutRange
import Derived.Deep.RegionHeld3
import Derived.Test.YtlomfjacgomhdaaGreatDoorM16
import Derived.Deep.DeepCutAuto
set_option linter.unusedSimpArgs false
set_option linter.unusedVariables false
namespace Go.Proofs.YtlomfjacgomhdaaGreatDoor
open Go.RowKit Vc Mt St Qn Dt Dec Ld
namespace Ld
end Ld
set_option maxRecDepth 10000 in
set_option maxHeartbeats 2000000 in
theorem ddown_any (n cl cd vc : Nat) (lo do' vo : Option Addr) (L : Nat → Nat → Int) (d v : Nat → Int) (w : World) (h1 : 1 ≤ n) (hn : n ≤ 6) (hL : Grid w lo n cl n L) (hd : Sl w do' n cd d) (hv : Sl w vo n vc v) (bL : ∀ a, B64 (L a)) (bd : ∀ k, k < n → 1 ≤ d k ∧ d k ≤ 4611686018427387903) (bv : B64 v) :
  Calls Tryz.prog 96 #[.agg #[.slice lo n cl, .slice do' n cd], .slice vo n vc] w fun e w' => ∃ co cc, e = .returned (.tuple #[.slice co n cc, .bool (downO L v n)]) ∧ Sl w' co n cc (downV L v n) ∧ Below w.heap.size w w' := by
 obtain ⟨A, C, hs, hg⟩ := hL
 obtain ⟨xl, hlo, hlc⟩ := hs.get
 obtain ⟨xd, hdo, hdc⟩ := hd.get
 obtain rfl := hlo (by omega)
 obtain rfl := hdo (by omega)
 have l1 := hs.le
 have l2 := hs.cap
 have l3 := hd.le
 have l4 := hd.cap
 have HLC := Hid.mkV hlc
 have HDC := Hid.mkV hdc
 have HGr := Hid.mkV hg
 have cG0 : (w.alloc (.cells #[.slice (some xl) n cl, .slice (some xd) n cd] 49)).cell? ⟨w.heap.size, 0, none⟩ = some (.slice (some xl) n cl) := by go_simp
 have cG1 : (w.alloc (.cells #[.slice (some xl) n cl, .slice (some xd) n cd] 49)).cell? ⟨w.heap.size, 1, none⟩ = some (.slice (some xd) n cd) := by go_simp
 have rG : GRow (w.alloc (.cells #[.slice (some xl) n cl, .slice (some xd) n cd] 49)) w.heap.size (.slice (some xl) n cl) (.slice (some xd) n cd) := crow_new w _ _
 have hB := below_al (Below.refl _ w) (.cells #[.slice (some xl) n cl, .slice (some xd) n cd] 49)
 obtain ⟨W, hW⟩ : ∃ W, W = w.alloc (.cells #[.slice (some xl) n cl, .slice (some xd) n cd] 49) := ⟨_, rfl⟩
 rw [← hW] at cG0 cG1 hB rG
 have HW := Hid.mkV hW
 clear hW
 obtain ⟨xv, hvo, hvc⟩ := hv.get
 obtain rfl := hvo (by omega)
 have l5 := hv.le
 have l6 := hv.cap
 have HVC := Hid.mkV hvc
 have HS := Hid.mkV (fun k (hk : k < n) (ao bo : Option Addr) (ca cb : Nat) W (H1 : Sl W ao k ca (L k)) (H2 : Sl W bo k cb (downV L v k)) => ddot_sl ao bo k ca cb (L k) (downV L v k) 30 30 W rfl (by omega) H1 H2 (bL k) (b64_of (downV_bd L v k)) (by omega))
 have HM := Hid.mkV (fun k W => dless_any (v k) (sumV (L k) (downV L v k) k) W (bv k).1 (bv k).2 (by have := sumV_bd (L k) (downV L v k) k; omega) (by have := sumV_bd (L k) (downV L v k) k; omega))
 have eS : Hid (∀ k, clamp (rne (dk (L k) (downV L v k) k) (2 ^ 30)) = sumV (L k) (downV L v k) k ∧ great (rne (dk (L k) (downV L v k) k) (2 ^ 30)) = sumO (L k) (downV L v k) k ∧ clamp (v k - sumV (L k) (downV L v k) k) = lessV (v k) (L k) (downV L v k) k) := fun k => ⟨rfl, rfl, rfl⟩
 clear hs hg hd hlo hdo hlc hdc hv hvo hvc bL bd bv rG
 go_enter Tryz.func96, Tryz.ntmps96
 go_wp2_with (first | (rw [← HW.out]) | fail)
 go_loopw [6, 7, 8] (fun y an ix wr => ∃ k : Nat, k ≤ n ∧ ix = .int .i64 (k : Int) ∧ an = .bool (downO L v k) ∧ Own W.heap.size W wr y k (downV L v n)) (fun _ _ ix _ => n - (intOf ix).toNat)
 case atStart => exact ⟨0, by omega, rfl, rfl, Own.nil (Below.refl _ _) (Nat.le_refl _) _⟩
 case round =>
  rename World => wo
  obtain ⟨k, hk, rfl, rfl, hown⟩ := hrel
  by_cases h : k < n
  ·obtain ⟨yo, yc, rfl, ys⟩ := hown.sl
   have ys' : Sl wo yo k yc (downV L v k) := ys.congr (fun j hj => downV_keep L v hj (by omega))
   have hb := below_tr hB hown.below
   have c1 := keep_cell hown.below cG0
   have c2 := keep_cell hb (HLC.out k h)
   have rk := (HGr.out k h).keep hb
   have l7 := rk.le
   have l8 := rk.cap
   have rk' : Sl wo (A k) k (C k) (L k) := ⟨by omega, rk.cap, fun j hj => rk.at' j (by omega)⟩
   have c3 := keep_cell hb (HVC.out k h)
   have HSk := HS.out k h (A k) yo (C k) yc wo rk' ys'
   have HMk := HM.out k
   rw [(eS.out k).1, (eS.out k).2.1] at HSk
   rw [(eS.out k).2.2] at HMk
   have HSh := Hid.mkV HSk
   have HMh := Hid.mkV HMk
   have HV : Hid (downV L v n k = lessV (v k) (L k) (downV L v k) k) := by
    show downV L v n k = _
    rw [downV_keep L v (j := k + 1) (by omega) (by omega)]
    exact if_pos rfl
   have HA : Hid (downO L v (k + 1) = (downO L v k || (sumO (L k) (downV L v k) k || great (v k - sumV (L k) (downV L v k) k)))) := rfl
   obtain ⟨SV, hSV⟩ : ∃ t, t = sumV (L k) (downV L v k) k := ⟨_, rfl⟩
   obtain ⟨SO, hSO⟩ : ∃ t, t = sumO (L k) (downV L v k) k := ⟨_, rfl⟩
   obtain ⟨LV, hLV⟩ : ∃ t, t = lessV (v k) (L k) (downV L v k) k := ⟨_, rfl⟩
   rw [← hSV, ← hSO] at HSh HA
   rw [← hSV, ← hLV] at HMh
   rw [← hLV] at HV
   obtain ⟨GO, hGO⟩ : ∃ t, t = great (v k - SV) := ⟨_, rfl⟩
   rw [← hGO] at HMh HA
   obtain ⟨T, hT⟩ : ∃ T, T = downO L v k := ⟨_, rfl⟩
   rw [← hT] at HA ⊢
   obtain ⟨vk, hvk⟩ : ∃ t, t = v k := ⟨_, rfl⟩
   rw [← hvk] at HMh c3
   obtain ⟨Ak, hAk⟩ : ∃ t, t = A k := ⟨_, rfl⟩
   obtain ⟨Ck, hCk⟩ : ∃ t, t = C k := ⟨_, rfl⟩
   rw [← hAk, ← hCk] at c2 HSh
   rw [← hCk] at l7 l8
   clear hSV hSO hLV hGO hT hvk hAk hCk HSk HMk rk rk' ys ys' HS HM eS HGr
   have i0 : (0 : Int) ≤ (k : Int) := by omega
   have i1 : (k : Int) < (n : Int) := by omega
   have i2 : (k : Int) ≤ (n : Int) := by omega
   have i3 : (k : Int) ≤ (Ck : Int) := by omega
   go_wp2_with fail
   refine HSh.out.mono ?_
   rintro e w2 ⟨rfl, k2⟩
   have c3' := keep_cell k2 c3
   have hown2 := hown.keep k2
   go_wp2_with fail
   refine (HMh.out _).mono ?_
   rintro e w3 ⟨rfl, k3⟩
   have hown3 := hown2.keep k3
   clear hown hown2 c1 c2 c3 c3' k2 k3
   go_wp2_with (at_builtin; refine wpList_push (by rfl) (.tmp 40) (.tmp 42) (by rfl) W.heap.size W _ k (downV L v n) (by rfl) hown3 (by omega) LV (by exact HV.out.symm) (by rfl) ?_)
   intro v' w' hown'
   cases T <;> cases SO <;> (go_wp2; go_roundw)
   all_goals first
    | (simp [intOf]; omega)
    | exact ⟨k + 1, by omega, by go_num, by rw [HA.out]; rfl, hown'⟩
  ·obtain rfl : k = n := by omega
   obtain ⟨yo, yc, rfl, ys⟩ := hown.sl
   obtain ⟨T, hT⟩ : ∃ T, T = downO L v k := ⟨_, rfl⟩
   rw [← hT]
   have HT := Hid.mkV hT
   clear hT
   go_wp2
   go_ret2
   exact ⟨yo, yc, by rw [← HT.out]; rfl, ys, below_tr hB hown.below⟩
end Go.Proofs.YtlomfjacgomhdaaGreatDoor
namespace Go.Proofs.YtlomfjacgomhdaaGreatDoor
open Go.RowKit Vc Mt St Qn Dt Ld
namespace Ld
theorem own_zero {w : World} {B : Nat} {t : TypeId} {s : Nat} {v : Value} {n : Nat} {xs : List Value} (h : w.ownsRow B t s v n xs) : w.ownsRow 0 t s v n xs := by
  obtain ⟨h1, h2⟩ := h
  refine ⟨h1, ?_⟩
  rcases h2 with h2 | ⟨g, cap, cur, rfl, hb, hg, hn, hc, hs, ht⟩
  · exact Or.inl h2
  · exact Or.inr ⟨g, cap, cur, rfl, Nat.zero_le _, hg, hn, hc, hs, ht⟩
theorem FTwo.zero {B : Nat} {w0 w : World} {o i n : Nat} {vL vD : Value} {L : Nat → Nat → Int} {d : Nat → Int} (h : FTwo B w0 w o vL vD i n L d) : FTwo 0 w w o vL vD i n L d := by
  obtain ⟨S, h1, h2⟩ := h.two
  exact ⟨⟨S, ⟨own_zero h1.x, own_zero h1.y, h1.apart, Below.refl _ _, Nat.zero_le _⟩, h2⟩, h.gl, h.gd, h.le⟩
def lenOf : Value → Nat
  | .slice _ n _ => n
  | _ => 0
end Ld
set_option maxRecDepth 10000 in
set_option maxHeartbeats 4000000 in
theorem dof_any (n cm : Nat) (lo : Option Addr) (F : Nat → Nat → Int) (w : World) (h1 : 1 ≤ n) (hn : n ≤ 6) (hg : Grid w lo n cm n F) (hF : B2 F) :
    Calls Tryz.prog 26 #[.slice lo n cm] w fun e w' => ((¬ Same n F ∧ e = .returned (.tuple #[.agg #[.slice none 0 0, .slice none 0 0], .int .i64 1])) ∨
      (Same n F ∧ (¬ ∀ i, i < n → fine F i) ∧ e = .returned (.tuple #[.agg #[.slice none 0 0, .slice none 0 0], .int .i64 8])) ∨
      (Same n F ∧ (∀ i, i < n → fine F i) ∧ ∃ lo' cl do' cd, e = .returned (.tuple #[.agg #[.slice lo' n cl, .slice do' n cd], .int .i64 0]) ∧ Grid w' lo' n cl n (st F n).1 ∧ Sl w' do' n cd (st F n).2)) ∧ Below w.heap.size w w' := by
  have HT := Hid.mkV (fun W (H : Grid W lo n cm n F) => rturn_any n n cm lo F W h1 hn h1 hn H)
  have hgW := hg.keep (below_al (Below.refl _ w) (.cells #[.slice none 0 0, .slice none 0 0] 49))
  have rR : GRow (w.alloc (.cells #[.slice none 0 0, .slice none 0 0] 49)) w.heap.size (.slice none 0 0) (.slice none 0 0) := crow_new w _ [.slice none 0 0, .slice none 0 0]
  have hB := below_al (Below.refl _ w) (.cells #[.slice none 0 0, .slice none 0 0] 49)
  obtain ⟨W, hW⟩ : ∃ W, W = w.alloc (.cells #[.slice none 0 0, .slice none 0 0] 49) := ⟨_, rfl⟩
  rw [← hW] at rR hB hgW
  have HW := Hid.mkV hW
  obtain ⟨A, C, hs, hgr⟩ := hgW
  obtain ⟨xl, hlo, hlc⟩ := hs.get
  obtain rfl := hlo (by omega)
  have l1 := hs.le
  have l2 := hs.cap
  have HLC := Hid.mkV hlc
  have HGr := Hid.mkV hgr
  have HgW := Hid.mkV (show Grid W (some xl) n cm n F from ⟨A, C, hs, hgr⟩)
  have hg2w : w.heap.size ≤ w.heap.size := Nat.le_refl _
  obtain ⟨g2, hg2⟩ : ∃ g, g = w.heap.size := ⟨_, rfl⟩
  have hg2w : w.heap.size ≤ g2 := by omega
  rw [← hg2] at rR
  have HG2 := Hid.mkV hg2
  have HFF := Hid.mkV hF
  clear hW hg hs hlo hlc hgr hF hg2
  go_enter Tryz.func26, Tryz.ntmps26
  go_wp2_with (first | (rw [← HW.out, ← HG2.out]) | fail)
  refine (HT.out _ HgW.out).mono ?_
  rintro e w1 ⟨to', tc, rfl, hT1, k1⟩
  have R1 := CRow.keep rR k1
  have B1 := below_tr hB k1
  obtain ⟨A', C', hs', hgr'⟩ := hT1
  obtain ⟨xt, hto, htc⟩ := hs'.get
  obtain rfl := hto (by omega)
  have l3 := hs'.le
  have l4 := hs'.cap
  have HTC := Hid.mkV htc
  have HGt := Hid.mkV hgr'
  have HLC1 : Hid (∀ k, k < n → w1.cell? (xl.add k) = some (.slice (A k) n (C k))) := fun k hk => keep_cell k1 (HLC.out k hk)
  have HGr1 : Hid (∀ k, k < n → Sl w1 (A k) n (C k) (F k)) := fun k hk => (HGr.out k hk).keep k1
  clear rR hB HT HgW HLC HGr hs' hto htc hgr' k1
  go_wp2
  go_loopw [5, 6] (fun ix _ wr => ∃ i : Nat, i ≤ n ∧ ix = .int .i64 (i : Int) ∧ Hid (∀ a b, a < i → b < n → F a b = F b a) ∧ Below w1.heap.size w1 wr) (fun ix _ _ => n - (intOf ix).toNat)
  case atStart => exact ⟨0, by omega, rfl, fun a b ha => by omega, Below.refl _ _⟩
  case round =>
    rename World => wo
    obtain ⟨i, hi, rfl, hpre, br⟩ := hrel
    by_cases h : i < n
    · go_wp2
      go_loopw [6] (fun jx wr => ∃ j : Nat, j ≤ n ∧ jx = .int .i64 (j : Int) ∧ Hid (∀ b, b < j → F i b = F b i) ∧ Below w1.heap.size w1 wr) (fun jx _ => n - (intOf jx).toNat)
      case atStart => exact ⟨0, by omega, rfl, fun b hb => by omega, br⟩
      case round =>
        rename World => wp
        obtain ⟨j, hj, rfl, hpre2, br2⟩ := hrel
        by_cases h2 : j < n
        · have c1 := keep_cell br2 (HLC1.out i h)
          have c2 := keep_cell br2 (HTC.out i h)
          have r1 := (HGr1.out i h).keep br2
          have r2 := (HGt.out i h).keep br2
          obtain ⟨x1, o1, d1⟩ := r1.get
          obtain ⟨x2, o2, d2⟩ := r2.get
          have l5 := r1.le
          have l6 := r1.cap
          have l7 := r2.le
          have l8 := r2.cap
          rw [o1 (by omega)] at c1
          rw [o2 (by omega)] at c2
          have c3 := d1 j h2
          have c4 := d2 j h2
          obtain ⟨P, hP⟩ : ∃ q, q = F i j := ⟨_, rfl⟩
          obtain ⟨Q, hQ⟩ : ∃ q, q = F j i := ⟨_, rfl⟩
          rw [← hP] at c3
          rw [← hQ] at c4
          obtain ⟨Ci, hCi⟩ : ∃ q, q = C i := ⟨_, rfl⟩
          obtain ⟨Di, hDi⟩ : ∃ q, q = C' i := ⟨_, rfl⟩
          rw [← hCi] at c1 l5 l6
          rw [← hDi] at c2 l7 l8
          have HP := Hid.mkV hP
          have HQ := Hid.mkV hQ
          clear hP hQ hCi hDi r1 r2 o1 o2 d1 d2
          have i0 : (0 : Int) ≤ (i : Int) := by omega
          have i1 : (i : Int) < (n : Int) := by omega
          have i2 : (0 : Int) ≤ (j : Int) := by omega
          have i3 : (j : Int) < (n : Int) := by omega
          by_cases hPQ : P = Q
          · have e1 : (P != Q) = false := by simp [hPQ]
            have HPQ := Hid.mkV hPQ
            clear hPQ
            go_wp2
            go_quiet (fail)
            go_wp2
            go_roundw
            case rel => exact ⟨j + 1, by omega, by go_num, fun b hb => by
                rcases Nat.lt_or_ge b j with c | c
                · exact hpre2.out b c
                · obtain rfl : b = j := by omega
                  rw [← HP.out, ← HQ.out]; exact HPQ.out, Vc.below_drewN br2 _⟩
            case measure => simp [intOf]; omega
          · have e1 : (P != Q) = true := by simp [hPQ]
            have Rp := CRow.keep R1 (Vc.below_drewN br2 0)
            have hne : ¬ Same n F := fun hs => hPQ (by rw [HP.out, HQ.out]; exact hs i j h h2)
            have HNE := Hid.mkV hne
            have Rr := CRow.keep R1 br2
            clear hPQ hne Rp
            go_wp2
            go_quiet (fail)
            have Rn : GRow (wp.drewN nq) g2 (.slice none 0 0) (.slice none 0 0) := Rr
            have Bn := Vc.below_drewN (below_tr B1 br2) nq
            obtain ⟨wn, hwn⟩ : ∃ x, x = wp.drewN nq := ⟨_, rfl⟩
            rw [← hwn] at Rn Bn ⊢
            clear hwn c1 c2 c3 c4 Rr
            go_wp2_with (first
              | (refine St.wpList_store isG rfl _ _ (by rfl) _ _ _ (by rfl) (by rfl) (by with_reducible exact Rn) rfl rfl (by intro v hv; simp at hv; rcases hv with rfl | rfl <;> rfl) ?_)
              | fail)
            exact bodyPost_ret (St.results_2 isG Tryz.results26 _ _ g2 _ rfl (CRow.row Rn _) rfl) rfl ⟨Or.inl ⟨HNE.out, rfl⟩, St.below_row Bn hg2w _⟩
        · obtain rfl : j = n := by omega
          go_wp2
          go_roundw
          case rel => exact ⟨i + 1, by omega, by go_num, fun a b ha hb => by
              rcases Nat.lt_or_ge a i with c | c
              · exact hpre.out a b c hb
              · obtain rfl : a = i := by omega
                exact hpre2.out b hb, br2⟩
          case measure => simp [intOf]; omega
    · obtain rfl : n = i := by omega
      have HSame : Hid (Same n F) := fun a b ha hb => hpre.out a b ha hb
      have R2 := CRow.keep R1 br
      have B2 := below_tr B1 br
      have HLC2 : Hid (∀ k, k < n → wo.cell? (xl.add k) = some (.slice (A k) n (C k))) := fun k hk => keep_cell br (HLC1.out k hk)
      have HGr2 : Hid (∀ k, k < n → Sl wo (A k) n (C k) (F k)) := fun k hk => (HGr1.out k hk).keep br
      have R3 := CRow.alloc R2 (.cells #[.slice none 0 0, .slice none 0 0] 49)
      have O3 : GRow (wo.alloc (.cells #[.slice none 0 0, .slice none 0 0] 49)) wo.heap.size (.slice none 0 0) (.slice none 0 0) := crow_new wo _ [.slice none 0 0, .slice none 0 0]
      have k3 := below_al (Below.refl _ wo) (.cells #[.slice none 0 0, .slice none 0 0] 49)
      obtain ⟨w3, hw3⟩ : ∃ x, x = wo.alloc (.cells #[.slice none 0 0, .slice none 0 0] 49) := ⟨_, rfl⟩
      obtain ⟨g3, hg3⟩ : ∃ x, x = wo.heap.size := ⟨_, rfl⟩
      have hs3 : w3.heap.size = g3 + 1 := by rw [hw3, hg3]; simp
      rw [← hw3] at R3 O3 k3
      rw [← hg3] at O3
      have d23 : g2 < g3 := by have := R2.lt; omega
      have hwg : wo.heap.size ≤ g3 := by omega
      have T3 : FTwo wo.heap.size wo w3 (g3 + 1) (.slice none 0 0) (.slice none 0 0) 0 n (st F n).1 (st F n).2 := FTwo.nil k3 k3.size (by omega) _ _
      have HW3 := Hid.mkV hw3
      have HG3 := Hid.mkV hg3
      have hFi : ∀ i j, -9223372036854775808 ≤ F i j ∧ F i j ≤ 9223372036854775807 := fun i j => HFF.out i j
      have HFi := Hid.mkV hFi
      clear hpre R1 B1 HLC1 HGr1 br R2 k3 hw3 hg3 HTC HGt HFF hFi
      go_wp2
      rw [← HW3.out, ← HG3.out]
      go_loopw [8, 9] (fun an ix wr => ∃ i : Nat, i ≤ n ∧ ix = .int .i64 (i : Int) ∧ an = .bool false ∧ GRow wr g2 (.slice none 0 0) (.slice none 0 0) ∧ (∃ vL vD, GRow wr g3 vL vD ∧ FTwo wo.heap.size wo wr (g3 + 1) vL vD i n (st F n).1 (st F n).2) ∧ Hid (∀ k, k < i → fine F k)) (fun _ ix _ => n - (intOf ix).toNat)
      case atStart => exact ⟨0, by omega, rfl, rfl, R3, ⟨_, _, O3, T3⟩, fun k hk => by omega⟩
      case round =>
        rename World => wa
        obtain ⟨i, hi, rfl, rfl, ra, ⟨vL, vD, ga, tr⟩, hok⟩ := hrel
        obtain ⟨lo3, cl, do3, cd, rfl, rfl, gG, gS⟩ := tr.grid
        have ba := below_tr B2 tr.below
        by_cases h : i < n
        · have gG' : Grid wa lo3 i cl n (st F i).1 := gG.congr (fun a b ha hb => st_keepL F ha (by omega))
          have gS' : Sl wa do3 i cd (st F i).2 := gS.congr (fun a ha => st_keepD F ha (by omega))
          have dpos : ∀ k, k < i → 1 ≤ (st F i).2 k ∧ (st F i).2 k ≤ 4611686018427387903 := fun k hk => by
            have h2 := st_bdD F i k
            have h3 := (hok.out k hk).2
            rw [st_D F hk] at h2 ⊢
            omega
          have C2 := keep_cell tr.below (HLC2.out i h)
          have ri := (HGr2.out i h).keep tr.below
          obtain ⟨xi, oi, di'⟩ := ri.get
          rw [oi (by omega)] at C2
          have l5 := ri.le
          have l6 := ri.cap
          have HDI := Hid.mkV di'
          obtain ⟨Ci, hCi⟩ : ∃ q, q = C i := ⟨_, rfl⟩
          rw [← hCi] at C2 l5 l6
          have A0 := GRow.l ga
          have A1 := GRow.d ga
          have hbx : ∀ j, B64 (rowV (F i) (st F i).1 (st F i).2 j) := fun j => b64_of (rowV_bd _ _ _ j)
          have HbL : Hid (∀ a, B64 ((st F i).1 a)) := fun a => b64_of (st_bdL F i a)
          have HbD : Hid (B64 ((st F i).2)) := b64_of (st_bdD F i)
          have HDP := Hid.mkV dpos
          have HGG := Hid.mkV gG'
          have HGS := Hid.mkV gS'
          have HRow : Hid (∀ j k, k < j → j ≤ i → (st F n).1 i k = rowV (F i) (st F i).1 (st F i).2 j k) := fun j k hk hj => by
            rw [st_low F h (by omega), rowV_keep _ _ _ hk hj]
          clear hCi oi di' ri dpos gG' gS' gG gS
          have i0 : (0 : Int) ≤ (i : Int) := by omega
          have i1 : (i : Int) < (n : Int) := by omega
          go_wp2
          go_loopw [8, 10, 11] (fun an ps jx ws => ∃ j : Nat, j ≤ i ∧ jx = .int .i64 (j : Int) ∧ an = .bool (rowO (F i) (st F i).1 (st F i).2 j) ∧ Own wa.heap.size wa ws ps j ((st F n).1 i)) (fun _ _ jx _ => i - (intOf jx).toNat)
          case atStart => exact ⟨0, by omega, rfl, rfl, Own.nil (Below.refl _ _) (Nat.le_refl _) _⟩
          case round =>
            rename World => ws
            obtain ⟨j, hj, rfl, rfl, hown⟩ := hrel
            obtain ⟨ro, rc, rfl, rs⟩ := hown.sl
            have kb := hown.below
            have rs' : Sl ws ro j rc (rowV (F i) (st F i).1 (st F i).2 j) := rs.congr (fun k hk => HRow.out j k hk hj)
            have e0 := keep_cell kb A0
            have e1 := keep_cell kb A1
            have e2 := keep_cell kb C2
            have e3 := keep_cell kb (HDI.out j (by omega))
            by_cases h2 : j < i
            · have HRs := Hid.mkV (fun W (b : Below ws.heap.size ws W) => drest_low i j n cl cd j rc lo3 do3 ro (st F i).1 (st F i).2 (rowV (F i) (st F i).1 (st F i).2 j) (F i j) W (HGG.out.keep (below_tr kb b)) (HGS.out.keep (below_tr kb b)) (rs'.keep b) h2 (Nat.le_refl _) hi hn HbL.out HbD.out (hbx j) (HFi.out i j).1 (HFi.out i j).2)
              have bR := lessV_bd (F i j) (rowV (F i) (st F i).1 (st F i).2 j) (wv ((st F i).1 j) (st F i).2) j
              have HQ := fun W => ldiv_any (lessV (F i j) (rowV (F i) (st F i).1 (st F i).2 j) (wv ((st F i).1 j) (st F i).2) j) ((st F i).2 j) 30 W (by omega) (by omega) (by have := HDP.out j h2; omega) (by have := HDP.out j h2; omega) (by have := HDP.out j h2; omega) (by omega)
              have eq1 : ∀ x y : Int, signed x y (clamp (rne ((x.natAbs : Int) * 2 ^ 30) (y.natAbs : Int))) = divV x y 30 := fun _ _ => rfl
              have eq2 : ∀ x y : Int, great (rne ((x.natAbs : Int) * 2 ^ 30) (y.natAbs : Int)) = divO x y 30 := fun _ _ => rfl
              rw [eq1, eq2] at HQ
              have HQh := Hid.mkV HQ
              have HV : Hid ((st F n).1 i j = divV (lessV (F i j) (rowV (F i) (st F i).1 (st F i).2 j) (wv ((st F i).1 j) (st F i).2) j) ((st F i).2 j) 30) := (HRow.out (j + 1) j (by omega) (by omega)).trans (if_pos rfl)
              have HA : Hid (rowO (F i) (st F i).1 (st F i).2 (j + 1) = (rowO (F i) (st F i).1 (st F i).2 j || (anyb (wg ((st F i).1 j) (st F i).2) j || lessO (F i j) (rowV (F i) (st F i).1 (st F i).2 j) (wv ((st F i).1 j) (st F i).2) j || divO (lessV (F i j) (rowV (F i) (st F i).1 (st F i).2 j) (wv ((st F i).1 j) (st F i).2) j) ((st F i).2 j) 30))) := rfl
              have c5 := (HGS.out.keep kb)
              obtain ⟨xd, od, dd⟩ := c5.get
              have ld := c5.le
              have ld2 := c5.cap
              have DC := dd j h2
              rw [od (by omega)] at e1 HRs A1
              have HOD := Hid.mkV (od (by omega))
              obtain ⟨R, hR⟩ : ∃ q, q = lessV (F i j) (rowV (F i) (st F i).1 (st F i).2 j) (wv ((st F i).1 j) (st F i).2) j := ⟨_, rfl⟩
              obtain ⟨O1, hO1⟩ : ∃ q, q = (anyb (wg ((st F i).1 j) (st F i).2) j || lessO (F i j) (rowV (F i) (st F i).1 (st F i).2 j) (wv ((st F i).1 j) (st F i).2) j) := ⟨_, rfl⟩
              rw [← hR, ← hO1] at HRs
              rw [← hR] at HQh HV HA
              rw [← hO1] at HA
              obtain ⟨X, hX⟩ : ∃ q, q = divV R ((st F i).2 j) 30 := ⟨_, rfl⟩
              obtain ⟨O2, hO2⟩ : ∃ q, q = divO R ((st F i).2 j) 30 := ⟨_, rfl⟩
              rw [← hX, ← hO2] at HQh
              rw [← hX] at HV
              rw [← hO2] at HA
              obtain ⟨T, hT⟩ : ∃ q, q = rowO (F i) (st F i).1 (st F i).2 j := ⟨_, rfl⟩
              rw [← hT] at HA ⊢
              obtain ⟨M, hM⟩ : ∃ q, q = F i j := ⟨_, rfl⟩
              rw [← hM] at HRs e3
              obtain ⟨dj, hdj⟩ : ∃ q, q = (st F i).2 j := ⟨_, rfl⟩
              rw [← hdj] at HQh DC
              clear hR hO1 hX hO2 hT hM hdj HQ eq1 eq2 bR od dd c5 rs rs'
              have j0 : (0 : Int) ≤ (j : Int) := by omega
              have j1 : (j : Int) < (n : Int) := by omega
              have j2 : (j : Int) < (i : Int) := by omega
              go_wp2
              go_region_held3 (fun w' => w'.cell? ⟨g3, 0, none⟩ = some (.slice lo3 i cl) ∧ w'.cell? ⟨g3, 1, none⟩ = some (.slice (some xd) i cd) ∧ w'.cell? (xl.add i) = some (.slice (some xi) n Ci) ∧ w'.cell? (xi.add j) = some (.int .i64 M))
                (first
                  | with_reducible exact ⟨e0, e1, e2, e3⟩
                  | with_reducible exact ⟨keep_cell (Vc.below_drew' _) e0, keep_cell (Vc.below_drew' _) e1, keep_cell (Vc.below_drew' _) e2, keep_cell (Vc.below_drew' _) e3⟩
                  | with_reducible exact ⟨keep_cell kz e0, keep_cell kz e1, keep_cell kz e2, keep_cell kz e3⟩)
                (first
                  | (go_at_call 69; refine (HRs.out _ (Vc.below_drew' _)).mono ?_; rintro e wz ⟨rfl, kz'⟩
                     have kz : Below ws.heap.size ws wz := below_tr (Vc.below_drew' _) kz'
                     clear kz'))
              have f1 := keep_cell kz e1
              have f2 := keep_cell kz DC
              have hown2 := hown.keep kz
              clear e0 e1 e2 e3 DC
              go_wp2_with fail
              refine (HQh.out _).mono ?_
              rintro e wy ⟨rfl, hwy⟩
              have hown3 : Own wa.heap.size wa wy (.slice ro j rc) j ((st F n).1 i) := by rw [hwy]; exact hown2
              clear hwy f1 f2 hown hown2 kb
              go_wp2_with (at_builtin; refine wpList_push (by rfl) (.tmp 84) (.tmp 86) (by rfl) wa.heap.size wa _ j ((st F n).1 i) (by rfl) hown3 (by omega) X (by exact HV.out.symm) (by rfl) ?_)
              intro v' w' hown'
              cases T <;> cases O1 <;> (go_wp2; go_roundw)
              all_goals first
                | (simp [intOf]; omega)
                | exact ⟨j + 1, by omega, by go_num, by rw [HA.out]; rfl, hown'⟩
            · obtain rfl : i = j := by omega
              have HRs := Hid.mkV (fun W (b : Below ws.heap.size ws W) => drest_mid i i n cl cd i rc lo3 do3 ro (st F i).1 (st F i).2 (rowV (F i) (st F i).1 (st F i).2 i) (F i i) W (HGG.out.keep (below_tr kb b)) (HGS.out.keep (below_tr kb b)) (rs'.keep b) rfl (Nat.le_refl _) hi hn HbL.out HbD.out (hbx i) (HFi.out i i).1 (HFi.out i i).2)
              have HFi2 : Hid (fine F i ↔ (rowO (F i) (st F i).1 (st F i).2 i || (anyb (wg (rowV (F i) (st F i).1 (st F i).2 i) (st F i).2) i || lessO (F i i) (rowV (F i) (st F i).1 (st F i).2 i) (wv (rowV (F i) (st F i).1 (st F i).2 i) (st F i).2) i)) = false ∧ 0 < lessV (F i i) (rowV (F i) (st F i).1 (st F i).2 i) (wv (rowV (F i) (st F i).1 (st F i).2 i) (st F i).2) i) := Iff.rfl
              have HXd : Hid ((st F n).2 i = lessV (F i i) (rowV (F i) (st F i).1 (st F i).2 i) (wv (rowV (F i) (st F i).1 (st F i).2 i) (st F i).2) i) := st_D F h
              obtain ⟨D, hD⟩ : ∃ q, q = lessV (F i i) (rowV (F i) (st F i).1 (st F i).2 i) (wv (rowV (F i) (st F i).1 (st F i).2 i) (st F i).2) i := ⟨_, rfl⟩
              obtain ⟨O, hO⟩ : ∃ q, q = (anyb (wg (rowV (F i) (st F i).1 (st F i).2 i) (st F i).2) i || lessO (F i i) (rowV (F i) (st F i).1 (st F i).2 i) (wv (rowV (F i) (st F i).1 (st F i).2 i) (st F i).2) i) := ⟨_, rfl⟩
              rw [← hD, ← hO] at HRs HFi2
              rw [← hD] at HXd
              obtain ⟨T, hT⟩ : ∃ q, q = rowO (F i) (st F i).1 (st F i).2 i := ⟨_, rfl⟩
              rw [← hT] at HFi2 ⊢
              obtain ⟨M, hM⟩ : ∃ q, q = F i i := ⟨_, rfl⟩
              rw [← hM] at HRs e3
              have HX : Hid (D = (st F n).2 i) := HXd.out.symm
              have HV1 : Hid ((st F n).1 i i = 1073741824) := st_one F h
              have HV0 : Hid (∀ k, i < k → (st F n).1 i k = 0) := fun k hk => st_up F h hk
              clear hD hO hT hM HXd rs rs' HGG HGS HbL HbD HDP HRow HDI hbx
              go_wp2
              go_region_held3 (fun w' => w'.cell? ⟨g3, 0, none⟩ = some (.slice lo3 i cl) ∧ w'.cell? ⟨g3, 1, none⟩ = some (.slice do3 i cd) ∧ w'.cell? (xl.add i) = some (.slice (some xi) n Ci) ∧ w'.cell? (xi.add i) = some (.int .i64 M))
                (first
                  | with_reducible exact ⟨e0, e1, e2, e3⟩
                  | with_reducible exact ⟨keep_cell (Vc.below_drew' _) e0, keep_cell (Vc.below_drew' _) e1, keep_cell (Vc.below_drew' _) e2, keep_cell (Vc.below_drew' _) e3⟩
                  | with_reducible exact ⟨keep_cell kz e0, keep_cell kz e1, keep_cell kz e2, keep_cell kz e3⟩)
                (first
                  | (go_at_call 69; refine (HRs.out _ (Vc.below_drew' _)).mono ?_; rintro e wz ⟨rfl, kz'⟩
                     have kz : Below ws.heap.size ws wz := below_tr (Vc.below_drew' _) kz'
                     clear kz'))
              have kaz := below_tr kb kz
              have raz := CRow.keep ra kaz
              have gaz := CRow.keep ga kaz
              have taz := tr.keep kaz
              have baz := below_tr ba kaz
              have hown2 := hown.keep kz
              clear e0 e1 e2 e3 hown kb HRs A0 A1 C2 kaz
              by_cases hD : D ≤ 0
              · have q1 : decide (D ≤ 0) = true := decide_eq_true hD
                go_wp2_with (first
                  | (refine St.wpList_store isG rfl _ _ (by rfl) _ _ _ (by rfl) (by rfl) (by with_reducible exact raz) rfl rfl (by intro v hv; simp at hv; rcases hv with rfl | rfl <;> rfl) ?_)
                  | fail)
                exact bodyPost_ret (St.results_2 isG Tryz.results26 _ _ g2 _ rfl (CRow.row raz _) rfl) rfl ⟨Or.inr (Or.inl ⟨HSame.out, fun hall => (by have hz := HFi2.out.1 (hall i h); have hy := hz.2; omega), rfl⟩), St.below_row baz hg2w _⟩
              · have q1 : decide (D ≤ 0) = false := decide_eq_false hD
                cases O with
                | true =>
                  go_wp2_with (first
                    | (refine St.wpList_store isG rfl _ _ (by rfl) _ _ _ (by rfl) (by rfl) (by with_reducible exact raz) rfl rfl (by intro v hv; simp at hv; rcases hv with rfl | rfl <;> rfl) ?_)
                    | fail)
                  exact bodyPost_ret (St.results_2 isG Tryz.results26 _ _ g2 _ rfl (CRow.row raz _) rfl) rfl ⟨Or.inr (Or.inl ⟨HSame.out, ⟨i, h, fun hfi => (by have hz := HFi2.out.1 hfi; have hy := hz.1; cases T <;> cases hy)⟩, rfl⟩), St.below_row baz hg2w _⟩
                | false =>
                  cases T with
                  | true =>
                    go_wp2_with (first
                      | (refine St.wpList_store isG rfl _ _ (by rfl) _ _ _ (by rfl) (by rfl) (by with_reducible exact raz) rfl rfl (by intro v hv; simp at hv; rcases hv with rfl | rfl <;> rfl) ?_)
                      | fail)
                    exact bodyPost_ret (St.results_2 isG Tryz.results26 _ _ g2 _ rfl (CRow.row raz _) rfl) rfl ⟨Or.inr (Or.inl ⟨HSame.out, ⟨i, h, fun hfi => (by have hz := HFi2.out.1 hfi; have hy := hz.1; cases hy)⟩, rfl⟩), St.below_row baz hg2w _⟩
                  | false =>
                    have HFn : Hid (fine F i) := HFi2.out.2 ⟨rfl, by omega⟩
                    clear hD HFi2
                    go_wp2_with (at_builtin; refine wpList_push (by rfl) (.tmp 118) (.tmp 119) (by rfl) wa.heap.size wa _ i ((st F n).1 i) (by rfl) hown2 (by omega) 1073741824 (by exact HV1.out.symm) (by rfl) ?_)
                    intro v1' w1' hown3
                    clear hown2 raz gaz taz baz kz
                    go_wp2
                    go_loopw [10] (fun ps wr => ∃ j : Nat, i + 1 ≤ j ∧ j ≤ n ∧ Own wa.heap.size wa wr ps j ((st F n).1 i)) (fun ps _ => n - lenOf ps)
                    case atStart => exact ⟨i + 1, by omega, by omega, hown3⟩
                    case round =>
                      rename World => wq
                      obtain ⟨j, hj1, hj2, hown4⟩ := hrel
                      obtain ⟨po, pc, rfl, hps, hpf⟩ := own_fresh hown4
                      have l7 := hps.le
                      have l8 := hps.cap
                      by_cases h4 : j < n
                      · go_wp2_with (at_builtin; refine wpList_push (by rfl) (.tmp 126) (.tmp 127) (by rfl) wa.heap.size wa _ j ((st F n).1 i) (by rfl) hown4 (by omega) 0 (by exact (HV0.out j (by omega)).symm) (by rfl) ?_)
                        intro v4 w4 hown5
                        obtain ⟨ro5, rc5, rfl, _⟩ := hown5.sl
                        go_wp2
                        go_roundw
                        case rel => exact ⟨j + 1, by omega, by omega, hown5⟩
                        case measure => show n - (j + 1) < n - j; omega
                      · obtain rfl : n = j := by omega
                        have hap := tr.apart hpf
                        have rq := CRow.keep ra hown4.below
                        have gq := CRow.keep ga hown4.below
                        have tq := tr.keep hown4.below
                        obtain ⟨SS, hT, hrows⟩ := tq.two
                        have gl := tq.gl
                        have gd := tq.gd
                        have gle := tq.le
                        have a0 := GRow.l gq
                        have a1 := GRow.d gq
                        have Ea0 : ¬ ((Value.slice lo3 i cl).ownBlock = some g3 ∨ (Value.slice do3 i cd).ownBlock = some g3) := fun e => by
                          rcases e with e | e
                          · have := gl _ e; omega
                          · have := gd _ e; omega
                        have Ea1 := Ea0
                        have Ea3 : ¬ ((Value.slice lo3 i cl).ownBlock = some g2 ∨ (Value.slice do3 i cd).ownBlock = some g2) := fun e => by
                          rcases e with e | e
                          · have := gl _ e; omega
                          · have := gd _ e; omega
                        have HRo := Hid.mkV hrows
                        have HAp := Hid.mkV hap
                        have HPs := Hid.mkV hps
                        have hTd := hT.drew
                        have hBd := (But.refl (fun q => (Value.slice lo3 i cl).ownBlock = some q ∨ (Value.slice do3 i cd).ownBlock = some q) wq).drew
                        clear hrows hap hps hown4 tq tr ga ra hpf hown3 HLC2 HGr2 HV0 HV1
                        go_wp2
                        refine Ru.wp_region_U [11, 13] (fun w' => w'.cell? ⟨g3, 0, none⟩ = some (.slice lo3 i cl) ∧ w'.cell? ⟨g3, 1, none⟩ = some (.slice do3 i cd)) (by kernel_rfl) ⟨a0, a1⟩ (fun hHeld => ?_)
                        refine Ru.wpAnyU_take (i := 0) (v := .pointer (some ⟨g3, 0, none⟩)) rfl (by kernel_rfl) (by kernel_rfl) (by kernel_rfl) (by kernel_rfl) (by kernel_rfl) (by kernel_rfl) (fun _ _ _ h => h) (Or.inl ⟨by rfl, fun w hS => by obtain ⟨sc0, sc1⟩ := hS; go_simp⟩) hHeld ?_
                        simp only [Act.put, zq1, zq2, zq3, zq4, zq5, zq6]
                        refine Ru.wpAnyU_take (i := 1) (v := .slice lo3 i cl) rfl (by kernel_rfl) (by kernel_rfl) (by kernel_rfl) (by kernel_rfl) (by kernel_rfl) (by kernel_rfl) (fun _ _ _ h => h) (Or.inl ⟨by rfl, fun w hS => by obtain ⟨sc0, sc1⟩ := hS; go_simp⟩) hHeld ?_
                        simp only [Act.put, zq1, zq2, zq3, zq4, zq5, zq6]
                        refine Ru.wpAnyU_take (i := 2) (v := .slice po n pc) rfl (by kernel_rfl) (by kernel_rfl) (by kernel_rfl) (by kernel_rfl) (by kernel_rfl) (by kernel_rfl) (fun _ _ _ h => h) (Or.inl ⟨by rfl, fun w hS => by obtain ⟨sc0, sc1⟩ := hS; go_simp⟩) hHeld ?_
                        simp only [Act.put, zq1, zq2, zq3, zq4, zq5, zq6]
                        refine Ru.wpAnyU_take (i := 5) (v := .pointer (some ⟨g3, 1, none⟩)) rfl (by kernel_rfl) (by kernel_rfl) (by kernel_rfl) (by kernel_rfl) (by kernel_rfl) (by kernel_rfl) (fun _ _ _ h => h) (Or.inl ⟨by rfl, fun w hS => by obtain ⟨sc0, sc1⟩ := hS; go_simp⟩) hHeld ?_
                        simp only [Act.put, zq1, zq2, zq3, zq4, zq5, zq6]
                        refine Ru.wpAnyU_take (i := 6) (v := .slice do3 i cd) rfl (by kernel_rfl) (by kernel_rfl) (by kernel_rfl) (by kernel_rfl) (by kernel_rfl) (by kernel_rfl) (fun _ _ _ h => h) (Or.inl ⟨by rfl, fun w hS => by obtain ⟨sc0, sc1⟩ := hS; go_simp⟩) hHeld ?_
                        simp only [Act.put, zq1, zq2, zq3, zq4, zq5, zq6]
                        refine Ru.wpAnyU_take (i := 7) (v := .int .i64 D) rfl (by kernel_rfl) (by kernel_rfl) (by kernel_rfl) (by kernel_rfl) (by kernel_rfl) (by kernel_rfl) (fun _ _ _ h => h) (Or.inl ⟨by rfl, fun w hS => by obtain ⟨sc0, sc1⟩ := hS; go_simp⟩) hHeld ?_
                        simp only [Act.put, zq1, zq2, zq3, zq4, zq5, zq6]
                        refine Ru.wpAnyU_ready (rs := [3, 8]) (by kernel_rfl) (by simp) ?_
                        refine Ru.AllReadyU.cons rfl (by kernel_rfl) (fun K hK => ?_) ?_
                        · go_simp
                          have tw1 := Vg.Two.alloc hTd (.cells #[.slice po n pc] 22)
                          have bu1 := But.al hBd (.cells #[.slice po n pc] 22)
                          have pe1 := Vg.pend_at (b := wq.heap.size) hTd (.slice po n pc) 22 (by simp)
                          refine hK.out _ _ ⟨bu1.cell a0 Ea0, bu1.cell a1 Ea1⟩ (fun hHeld => ?_)
                          clear hK K
                          try simp only [Act.put, zq1, zq2, zq3, zq4, zq5, zq6]
                          refine Ru.wpAnyU_ready (rs := [4, 8]) (by kernel_rfl) (by simp) ?_
                          refine Ru.AllReadyU.cons rfl (by kernel_rfl) (fun K hK => ?_) ?_
                          · refine Vg.step_x elS (by rfl) (.tmp 130) (.tmp 132) (by rfl) tw1 (by rfl) (by omega) (by unfold maxLen; omega) (by rfl) pe1 (by rfl) ?_
                            intro v1 w2 t2 p2 q2 n2
                            obtain ⟨l1, c1, rfl⟩ := own_form t2.x
                            have bu2 : But (fun q => (Value.slice lo3 i cl).ownBlock = some q ∨ (Value.slice do3 i cd).ownBlock = some q) wq w2 := bu1.trans (but_grown q2 (fun b e => Or.inl e))
                            have n1' : ∀ q, q < wq.heap.size → (Value.slice lo3 i cl).ownBlock ≠ some q → (Value.slice l1 (i + 1) c1).ownBlock ≠ some q := fun q hq => n2 q (Nat.lt_of_lt_of_le hq bu1.size)
                            refine hK.out _ _ ⟨bu2.cell a0 Ea0, bu2.cell a1 Ea1⟩ (fun hHeld => ?_)
                            clear hK K n2 q2 p2
                            try simp only [Act.put, zq1, zq2, zq3, zq4, zq5, zq6]
                            refine Ru.wpAnyU_take (i := 10) (v := .pointer (some ⟨g3, 0, none⟩)) rfl (by kernel_rfl) (by kernel_rfl) (by kernel_rfl) (by kernel_rfl) (by kernel_rfl) (by kernel_rfl) (fun _ _ _ h => h) (Or.inl ⟨by rfl, fun w hS => by obtain ⟨sc0, sc1⟩ := hS; go_simp⟩) hHeld ?_
                            simp only [Act.put, zq1, zq2, zq3, zq4, zq5, zq6]
                            refine Ru.wpAnyU_ready (rs := [8]) (by kernel_rfl) (by simp) ?_
                            refine Ru.AllReadyU.cons rfl (by kernel_rfl) (fun K hK => ?_) Ru.AllReadyU.nil
                            go_simp
                            have tw3 := Vg.Two.alloc t2 (.cells #[.int .i64 D] 2)
                            have bu3 := But.al bu2 (.cells #[.int .i64 D] 2)
                            have pe3 := Vg.pend_at (b := w2.heap.size) t2 (.int .i64 D) 2 (by simp)
                            refine hK.out _ _ ⟨bu3.cell a0 Ea0, bu3.cell a1 Ea1⟩ (fun hHeld => ?_)
                            clear hK K
                            try simp only [Act.put, zq1, zq2, zq3, zq4, zq5, zq6]
                            refine Ru.wpAnyU_ready (rs := [9]) (by kernel_rfl) (by simp) ?_
                            refine Ru.AllReadyU.cons rfl (by kernel_rfl) (fun K hK => ?_) Ru.AllReadyU.nil
                            refine Vg.step_y elI (by rfl) (.tmp 135) (.tmp 137) (by rfl) tw3 (by rfl) (by omega) (by unfold maxLen; omega) (by rfl) pe3 (by rfl) ?_
                            intro v2 w2 t2 p2 q2 n2
                            obtain ⟨l2, c2, rfl⟩ := own_form t2.y
                            have b2 : But (fun q => (Value.slice lo3 i cl).ownBlock = some q ∨ (Value.slice do3 i cd).ownBlock = some q) wq w2 := bu3.trans (but_grown q2 (fun b e => Or.inr e))
                            have n2' : ∀ q, q < wq.heap.size → (Value.slice do3 i cd).ownBlock ≠ some q → (Value.slice l2 (i + 1) c2).ownBlock ≠ some q := fun q hq => n2 q (Nat.lt_of_lt_of_le hq bu3.size)
                            have g2' := crowBut gq b2 Ea0
                            have a0y := GRow.l g2'
                            have a1y := GRow.d g2'
                            have f0y := CRow.free g2' 0
                            have f1y := CRow.free g2' 1
                            refine hK.out _ _ ⟨b2.cell a0 Ea0, b2.cell a1 Ea1⟩ (fun hHeld => ?_)
                            clear hK K n2 q2 p2
                            try simp only [Act.put, zq1, zq2, zq3, zq4, zq5, zq6]
                            refine Ru.wpAnyU_ready (rs := [11]) (by kernel_rfl) (by simp) ?_
                            refine Ru.AllReadyU.cons2 rfl (by kernel_rfl) (fun K hK => ?_) Ru.AllReadyU.nil
                            go_simp
                            refine hK.out _ _ ?_
                            clear hK K
                            try simp only [Act.put, zq1, zq2, zq3, zq4, zq5, zq6]
                            refine wpAny_ready (rs := [12]) (by kernel_rfl) (by simp) ?_
                            refine AllReady.cons rfl (fun K hK => ?_) AllReady.nil
                            go_simp
                            refine hK _ _ ?_
                            clear hK K
                            try simp only [Act.put, zq1, zq2, zq3, zq4, zq5, zq6]
                            refine wpAny_ready (rs := [13]) (by kernel_rfl) (by simp) ?_
                            refine AllReady.cons rfl (fun K hK => ?_) AllReady.nil
                            go_simp
                            refine hK _ _ ?_
                            clear hK K
                            try simp only [Act.put, zq1, zq2, zq3, zq4, zq5, zq6]
                            refine wpAny_done (by kernel_rfl) ?_ _
                            go_wp2
                            go_roundw
                            case rel =>
                              refine ⟨i + 1, by omega, by go_num, rfl, CRow.other (CRow.other (crowBut rq b2 Ea3) _ (by show g2 ≠ g3; omega)) _ (by show g2 ≠ g3; omega), ⟨_, _, CRow.set (CRow.set g2' 0 _) 1 _, ?_⟩, fun k hk => ?_⟩
                              · exact (ftwo_push HRo.out b2 (by rw [HX.out] at t2; exact t2) n1' n2' (by omega) HPs.out HAp.out gle gl gd).put (g := g3) (by omega) (by omega) (((But.refl (fun x => x = g3) w2).set _ rfl).set _ rfl)
                              · rcases Nat.lt_or_ge k i with c | c
                                · exact hok.out k c
                                · obtain rfl : k = i := by omega
                                  exact HFn.out
                            case measure => simp [intOf]; omega
                          refine Ru.AllReadyU.cons rfl (by kernel_rfl) (fun K hK => ?_) Ru.AllReadyU.nil
                          go_simp
                          have tw5 := Vg.Two.alloc tw1 (.cells #[.int .i64 D] 2)
                          have bu5 := But.al bu1 (.cells #[.int .i64 D] 2)
                          have pe5 := Vg.pend_at (b := wq.heap.size + 1) tw1 (.int .i64 D) 2 (by simp)
                          have pk5_3 := Vg.Pend.alloc pe1 (.cells #[.int .i64 D] 2)
                          refine hK.out _ _ ⟨bu5.cell a0 Ea0, bu5.cell a1 Ea1⟩ (fun hHeld => ?_)
                          clear hK K
                          try simp only [Act.put, zq1, zq2, zq3, zq4, zq5, zq6]
                          refine Ru.wpAnyU_ready (rs := [4]) (by kernel_rfl) (by simp) ?_
                          refine Ru.AllReadyU.cons rfl (by kernel_rfl) (fun K hK => ?_) Ru.AllReadyU.nil
                          refine Vg.step_x elS (by rfl) (.tmp 130) (.tmp 132) (by rfl) tw5 (by rfl) (by omega) (by unfold maxLen; omega) (by rfl) pk5_3 (by rfl) ?_
                          intro v1 w6 t6 p6 q6 n6
                          obtain ⟨l1, c1, rfl⟩ := own_form t6.x
                          have bu6 : But (fun q => (Value.slice lo3 i cl).ownBlock = some q ∨ (Value.slice do3 i cd).ownBlock = some q) wq w6 := bu5.trans (but_grown q6 (fun b e => Or.inl e))
                          have n1' : ∀ q, q < wq.heap.size → (Value.slice lo3 i cl).ownBlock ≠ some q → (Value.slice l1 (i + 1) c1).ownBlock ≠ some q := fun q hq => n6 q (Nat.lt_of_lt_of_le hq bu5.size)
                          have pk6_8 := p6 _ _ _ pe5
                          refine hK.out _ _ ⟨bu6.cell a0 Ea0, bu6.cell a1 Ea1⟩ (fun hHeld => ?_)
                          clear hK K n6 q6 p6
                          try simp only [Act.put, zq1, zq2, zq3, zq4, zq5, zq6]
                          refine Ru.wpAnyU_take (i := 10) (v := .pointer (some ⟨g3, 0, none⟩)) rfl (by kernel_rfl) (by kernel_rfl) (by kernel_rfl) (by kernel_rfl) (by kernel_rfl) (by kernel_rfl) (fun _ _ _ h => h) (Or.inl ⟨by rfl, fun w hS => by obtain ⟨sc0, sc1⟩ := hS; go_simp⟩) hHeld ?_
                          simp only [Act.put, zq1, zq2, zq3, zq4, zq5, zq6]
                          refine Ru.wpAnyU_ready (rs := [9]) (by kernel_rfl) (by simp) ?_
                          refine Ru.AllReadyU.cons rfl (by kernel_rfl) (fun K hK => ?_) Ru.AllReadyU.nil
                          refine Vg.step_y elI (by rfl) (.tmp 135) (.tmp 137) (by rfl) t6 (by rfl) (by omega) (by unfold maxLen; omega) (by rfl) pk6_8 (by rfl) ?_
                          intro v2 w2 t2 p2 q2 n2
                          obtain ⟨l2, c2, rfl⟩ := own_form t2.y
                          have b2 : But (fun q => (Value.slice lo3 i cl).ownBlock = some q ∨ (Value.slice do3 i cd).ownBlock = some q) wq w2 := bu6.trans (but_grown q2 (fun b e => Or.inr e))
                          have n2' : ∀ q, q < wq.heap.size → (Value.slice do3 i cd).ownBlock ≠ some q → (Value.slice l2 (i + 1) c2).ownBlock ≠ some q := fun q hq => n2 q (Nat.lt_of_lt_of_le hq bu6.size)
                          have g2' := crowBut gq b2 Ea0
                          have a0y := GRow.l g2'
                          have a1y := GRow.d g2'
                          have f0y := CRow.free g2' 0
                          have f1y := CRow.free g2' 1
                          refine hK.out _ _ ⟨b2.cell a0 Ea0, b2.cell a1 Ea1⟩ (fun hHeld => ?_)
                          clear hK K n2 q2 p2
                          try simp only [Act.put, zq1, zq2, zq3, zq4, zq5, zq6]
                          refine Ru.wpAnyU_ready (rs := [11]) (by kernel_rfl) (by simp) ?_
                          refine Ru.AllReadyU.cons2 rfl (by kernel_rfl) (fun K hK => ?_) Ru.AllReadyU.nil
                          go_simp
                          refine hK.out _ _ ?_
                          clear hK K
                          try simp only [Act.put, zq1, zq2, zq3, zq4, zq5, zq6]
                          refine wpAny_ready (rs := [12]) (by kernel_rfl) (by simp) ?_
                          refine AllReady.cons rfl (fun K hK => ?_) AllReady.nil
                          go_simp
                          refine hK _ _ ?_
                          clear hK K
                          try simp only [Act.put, zq1, zq2, zq3, zq4, zq5, zq6]
                          refine wpAny_ready (rs := [13]) (by kernel_rfl) (by simp) ?_
                          refine AllReady.cons rfl (fun K hK => ?_) AllReady.nil
                          go_simp
                          refine hK _ _ ?_
                          clear hK K
                          try simp only [Act.put, zq1, zq2, zq3, zq4, zq5, zq6]
                          refine wpAny_done (by kernel_rfl) ?_ _
                          go_wp2
                          go_roundw
                          case rel =>
                            refine ⟨i + 1, by omega, by go_num, rfl, CRow.other (CRow.other (crowBut rq b2 Ea3) _ (by show g2 ≠ g3; omega)) _ (by show g2 ≠ g3; omega), ⟨_, _, CRow.set (CRow.set g2' 0 _) 1 _, ?_⟩, fun k hk => ?_⟩
                            · exact (ftwo_push HRo.out b2 (by rw [HX.out] at t2; exact t2) n1' n2' (by omega) HPs.out HAp.out gle gl gd).put (g := g3) (by omega) (by omega) (((But.refl (fun x => x = g3) w2).set _ rfl).set _ rfl)
                            · rcases Nat.lt_or_ge k i with c | c
                              · exact hok.out k c
                              · obtain rfl : k = i := by omega
                                exact HFn.out
                          case measure => simp [intOf]; omega
                        refine Ru.AllReadyU.cons rfl (by kernel_rfl) (fun K hK => ?_) Ru.AllReadyU.nil
                        go_simp
                        have tw8 := Vg.Two.alloc hTd (.cells #[.int .i64 D] 2)
                        have bu8 := But.al hBd (.cells #[.int .i64 D] 2)
                        have pe8 := Vg.pend_at (b := wq.heap.size) hTd (.int .i64 D) 2 (by simp)
                        refine hK.out _ _ ⟨bu8.cell a0 Ea0, bu8.cell a1 Ea1⟩ (fun hHeld => ?_)
                        clear hK K
                        try simp only [Act.put, zq1, zq2, zq3, zq4, zq5, zq6]
                        refine Ru.wpAnyU_ready (rs := [3]) (by kernel_rfl) (by simp) ?_
                        refine Ru.AllReadyU.cons rfl (by kernel_rfl) (fun K hK => ?_) Ru.AllReadyU.nil
                        go_simp
                        have tw9 := Vg.Two.alloc tw8 (.cells #[.slice po n pc] 22)
                        have bu9 := But.al bu8 (.cells #[.slice po n pc] 22)
                        have pe9 := Vg.pend_at (b := wq.heap.size + 1) tw8 (.slice po n pc) 22 (by simp)
                        have pk9_8 := Vg.Pend.alloc pe8 (.cells #[.slice po n pc] 22)
                        refine hK.out _ _ ⟨bu9.cell a0 Ea0, bu9.cell a1 Ea1⟩ (fun hHeld => ?_)
                        clear hK K
                        try simp only [Act.put, zq1, zq2, zq3, zq4, zq5, zq6]
                        refine Ru.wpAnyU_ready (rs := [4]) (by kernel_rfl) (by simp) ?_
                        refine Ru.AllReadyU.cons rfl (by kernel_rfl) (fun K hK => ?_) Ru.AllReadyU.nil
                        refine Vg.step_x elS (by rfl) (.tmp 130) (.tmp 132) (by rfl) tw9 (by rfl) (by omega) (by unfold maxLen; omega) (by rfl) pe9 (by rfl) ?_
                        intro v1 w10 t10 p10 q10 n10
                        obtain ⟨l1, c1, rfl⟩ := own_form t10.x
                        have bu10 : But (fun q => (Value.slice lo3 i cl).ownBlock = some q ∨ (Value.slice do3 i cd).ownBlock = some q) wq w10 := bu9.trans (but_grown q10 (fun b e => Or.inl e))
                        have n1' : ∀ q, q < wq.heap.size → (Value.slice lo3 i cl).ownBlock ≠ some q → (Value.slice l1 (i + 1) c1).ownBlock ≠ some q := fun q hq => n10 q (Nat.lt_of_lt_of_le hq bu9.size)
                        have pk10_8 := p10 _ _ _ pk9_8
                        refine hK.out _ _ ⟨bu10.cell a0 Ea0, bu10.cell a1 Ea1⟩ (fun hHeld => ?_)
                        clear hK K n10 q10 p10
                        try simp only [Act.put, zq1, zq2, zq3, zq4, zq5, zq6]
                        refine Ru.wpAnyU_take (i := 10) (v := .pointer (some ⟨g3, 0, none⟩)) rfl (by kernel_rfl) (by kernel_rfl) (by kernel_rfl) (by kernel_rfl) (by kernel_rfl) (by kernel_rfl) (fun _ _ _ h => h) (Or.inl ⟨by rfl, fun w hS => by obtain ⟨sc0, sc1⟩ := hS; go_simp⟩) hHeld ?_
                        simp only [Act.put, zq1, zq2, zq3, zq4, zq5, zq6]
                        refine Ru.wpAnyU_ready (rs := [9]) (by kernel_rfl) (by simp) ?_
                        refine Ru.AllReadyU.cons rfl (by kernel_rfl) (fun K hK => ?_) Ru.AllReadyU.nil
                        refine Vg.step_y elI (by rfl) (.tmp 135) (.tmp 137) (by rfl) t10 (by rfl) (by omega) (by unfold maxLen; omega) (by rfl) pk10_8 (by rfl) ?_
                        intro v2 w2 t2 p2 q2 n2
                        obtain ⟨l2, c2, rfl⟩ := own_form t2.y
                        have b2 : But (fun q => (Value.slice lo3 i cl).ownBlock = some q ∨ (Value.slice do3 i cd).ownBlock = some q) wq w2 := bu10.trans (but_grown q2 (fun b e => Or.inr e))
                        have n2' : ∀ q, q < wq.heap.size → (Value.slice do3 i cd).ownBlock ≠ some q → (Value.slice l2 (i + 1) c2).ownBlock ≠ some q := fun q hq => n2 q (Nat.lt_of_lt_of_le hq bu10.size)
                        have g2' := crowBut gq b2 Ea0
                        have a0y := GRow.l g2'
                        have a1y := GRow.d g2'
                        have f0y := CRow.free g2' 0
                        have f1y := CRow.free g2' 1
                        refine hK.out _ _ ⟨b2.cell a0 Ea0, b2.cell a1 Ea1⟩ (fun hHeld => ?_)
                        clear hK K n2 q2 p2
                        try simp only [Act.put, zq1, zq2, zq3, zq4, zq5, zq6]
                        refine Ru.wpAnyU_ready (rs := [11]) (by kernel_rfl) (by simp) ?_
                        refine Ru.AllReadyU.cons2 rfl (by kernel_rfl) (fun K hK => ?_) Ru.AllReadyU.nil
                        go_simp
                        refine hK.out _ _ ?_
                        clear hK K
                        try simp only [Act.put, zq1, zq2, zq3, zq4, zq5, zq6]
                        refine wpAny_ready (rs := [12]) (by kernel_rfl) (by simp) ?_
                        refine AllReady.cons rfl (fun K hK => ?_) AllReady.nil
                        go_simp
                        refine hK _ _ ?_
                        clear hK K
                        try simp only [Act.put, zq1, zq2, zq3, zq4, zq5, zq6]
                        refine wpAny_ready (rs := [13]) (by kernel_rfl) (by simp) ?_
                        refine AllReady.cons rfl (fun K hK => ?_) AllReady.nil
                        go_simp
                        refine hK _ _ ?_
                        clear hK K
                        try simp only [Act.put, zq1, zq2, zq3, zq4, zq5, zq6]
                        refine wpAny_done (by kernel_rfl) ?_ _
                        go_wp2
                        go_roundw
                        case rel =>
                          refine ⟨i + 1, by omega, by go_num, rfl, CRow.other (CRow.other (crowBut rq b2 Ea3) _ (by show g2 ≠ g3; omega)) _ (by show g2 ≠ g3; omega), ⟨_, _, CRow.set (CRow.set g2' 0 _) 1 _, ?_⟩, fun k hk => ?_⟩
                          · exact (ftwo_push HRo.out b2 (by rw [HX.out] at t2; exact t2) n1' n2' (by omega) HPs.out HAp.out gle gl gd).put (g := g3) (by omega) (by omega) (((But.refl (fun x => x = g3) w2).set _ rfl).set _ rfl)
                          · rcases Nat.lt_or_ge k i with c | c
                            · exact hok.out k c
                            · obtain rfl : k = i := by omega
                              exact HFn.out
                        case measure => simp [intOf]; omega
        · obtain rfl : n = i := by omega
          go_wp2_with (first
            | (refine St.wpList_load isG (by rfl) _ (by rfl) _ _ (by rfl) (by with_reducible exact ga) rfl ?_)
            | (refine St.wpList_store isG rfl _ _ (by rfl) _ _ _ (by rfl) (by rfl) (by with_reducible exact ra) rfl rfl (by intro v hv; simp at hv; rcases hv with rfl | rfl <;> rfl) ?_)
            | fail)
          have tr' := FTwo.put tr.zero (g := g2) (by omega) (Nat.zero_le _) (but_row wa g2 ([.slice lo3 n cl, .slice do3 n cd] : List Value).toArray)
          obtain ⟨lo2, cl2, do2, cd2, e1, e2, hg2', hs2⟩ := tr'.grid
          cases e1
          cases e2
          exact bodyPost_ret (St.results_2 isG Tryz.results26 _ _ g2 _ rfl (CRow.row ra _) rfl) rfl ⟨Or.inr (Or.inr ⟨HSame.out, hok.out, _, _, _, _, rfl, hg2', hs2⟩), St.below_row ba hg2w _⟩
end Go.Proofs.YtlomfjacgomhdaaGreatDoor
namespace Go.Proofs.YtlomfjacgomhdaaGreatDoor
open Go.RowKit Vc St Mt Dt Pr
attribute [local go_sem ↓] Go.wp_at_zero Go.wp_at_succ
namespace Ud
theorem isGap : Is 51 3 := ⟨by kernel_rfl, ⟨_, Tryz.underlying51, rfl⟩⟩
theorem isFac : Is 49 2 := ⟨by kernel_rfl, ⟨_, Tryz.underlying49, rfl⟩⟩
theorem isSt : Is 25 2 := ⟨by kernel_rfl, ⟨_, Tryz.underlying25, rfl⟩⟩
theorem builtGap (a b c : Option Addr) (i j k l m n : Nat) : Tryz.prog.built 51 [(0, .slice a i j), (1, .agg #[.slice b k l, .slice c m n])] = some #[.slice a i j, .slice b k l, .slice c m n] := by kernel_rfl
theorem buildGap {ops : Array Oper} {rest : List Oper} {o : Oper} {ac : Act} {w : World} {Q : Exit → Act → World → Prop} (x y : Operand) (ho : o.op = .build 51 #[(0, x), (1, y)]) (a b c : Option Addr) (i j k l m n : Nat) (hx : ac.eval x = .slice a i j) (hy : ac.eval y = .agg #[.slice b k l, .slice c m n]) (hw : Region.wanted o (yielded ops ac.tmps) = true)
    (h : wpList Tryz.prog ops Q rest (ac.put o.dst (.agg #[.slice a i j, .slice b k l, .slice c m n])) w) : wpList Tryz.prog ops Q (o :: rest) ac w :=
  wpList_want hw fun _ hK => by
    unfold Oper.wp execOp
    have em : ((#[(0, x), (1, y)] : Array (Nat × Operand)).map fun (i, x) => (i, ac.eval x)).toList = [(0, .slice a i j), (1, .agg #[.slice b k l, .slice c m n])] := by simp [hx, hy]
    simp only [ho, Sem.run_bind, run_build w 51 _ _ (by rw [em]; exact builtGap a b c i j k l m n), Result.andThen_ok]
    exact hK _ _ h
end Ud
open Ud
theorem Ud.addr0 (a : Addr) : a.add 0 = a := by
  cases a
  unfold Addr.add
  split <;> simp_all
set_option maxRecDepth 10000 in
set_option maxHeartbeats 1000000 in
theorem dof13_state (xo po : Option Addr) (n xc pc : Nat) (x y a b c : Int) (w : World) (hM : ∀ W, Below w.heap.size w W → Calls Tryz.prog 23 #[.agg #[.slice xo 6 xc, .slice po n pc]] W fun e w' => e = .returned (.bool false) ∧ Below W.heap.size W w') :
    Calls Tryz.prog 9 #[.agg #[.slice xo 6 xc, .slice po n pc], .agg (pv x y a b c).toArray] w fun e w' => e = .returned (.tuple #[.agg #[.slice none 0 0, .slice none 0 0, .slice none 0 0], .bool false, .int .i64 1]) ∧ Below w.heap.size w w' := by
  have t0 := ((crow_new w 25 [.slice xo 6 xc, .slice po n pc]).alloc (.cells (pv x y a b c).toArray 27)).alloc (.cells [.slice none 0 0, .slice none 0 0, .slice none 0 0].toArray 51)
  have m0 := (crow_new1 w (.cells [.slice xo 6 xc, .slice po n pc].toArray 25) 27 (pv x y a b c)).alloc (.cells [.slice none 0 0, .slice none 0 0, .slice none 0 0].toArray 51)
  have r0 := crow_new2 w (.cells [.slice xo 6 xc, .slice po n pc].toArray 25) (.cells (pv x y a b c).toArray 27) 51 [.slice none 0 0, .slice none 0 0, .slice none 0 0]
  have B0 : Below w.heap.size w (((w.alloc (.cells [.slice xo 6 xc, .slice po n pc].toArray 25)).alloc (.cells (pv x y a b c).toArray 27)).alloc (.cells [.slice none 0 0, .slice none 0 0, .slice none 0 0].toArray 51)) := below_al (below_al (below_al (Below.refl _ _) _) _) _
  obtain ⟨W, hW⟩ : ∃ W, W = ((w.alloc (.cells [.slice xo 6 xc, .slice po n pc].toArray 25)).alloc (.cells (pv x y a b c).toArray 27)).alloc (.cells [.slice none 0 0, .slice none 0 0, .slice none 0 0].toArray 51) := ⟨_, rfl⟩
  rw [← hW] at t0 m0 r0 B0
  have HW := hide hW
  clear hW
  have HM := hide (hM W B0)
  clear hM
  go_enter Tryz.func9, Tryz.ntmps9
  go_wp2_with (first
    | (erw [← HW.out]; (refine St.wpList_load isSt (by rfl) _ (by rfl) _ _ (by rfl) (by with_reducible exact t0) rfl ?_))
    | fail)
  refine HM.out.mono ?_
  rintro e w1 ⟨rfl, k1⟩
  have r1 := CRow.keep r0 k1
  have B1 := below_tr B0 k1
  go_wp2_with (first
    | (refine St.wpList_store isGap rfl _ _ (by rfl) _ _ [.slice none 0 0, .slice none 0 0, .slice none 0 0] (by rfl) (by rfl) (by with_reducible exact r1) rfl rfl (by intro v hv; simp only [List.mem_cons, List.not_mem_nil, or_false] at hv; rcases hv with rfl | rfl | rfl <;> rfl) ?_)
    | fail)
  exact bodyPost_ret (results_3 isGap Tryz.results9 _ _ (w.heap.size + 1 + 1) _ rfl (CRow.row r1 _) rfl) rfl ⟨rfl, St.below_row B1 (by omega) _⟩
set_option maxRecDepth 10000 in
set_option maxHeartbeats 1000000 in
theorem dof13_place (xo po : Option Addr) (n xc pc : Nat) (x y a b c : Int) (w : World) (hM : ∀ W, Below w.heap.size w W → Calls Tryz.prog 23 #[.agg #[.slice xo 6 xc, .slice po n pc]] W fun e w' => e = .returned (.bool true) ∧ Below W.heap.size W w') (h : ¬ MayN x y a b c) :
    Calls Tryz.prog 9 #[.agg #[.slice xo 6 xc, .slice po n pc], .agg (pv x y a b c).toArray] w fun e w' => e = .returned (.tuple #[.agg #[.slice none 0 0, .slice none 0 0, .slice none 0 0], .bool false, .int .i64 1]) ∧ Below w.heap.size w w' := by
  have t0 := ((crow_new w 25 [.slice xo 6 xc, .slice po n pc]).alloc (.cells (pv x y a b c).toArray 27)).alloc (.cells [.slice none 0 0, .slice none 0 0, .slice none 0 0].toArray 51)
  have m0 := (crow_new1 w (.cells [.slice xo 6 xc, .slice po n pc].toArray 25) 27 (pv x y a b c)).alloc (.cells [.slice none 0 0, .slice none 0 0, .slice none 0 0].toArray 51)
  have r0 := crow_new2 w (.cells [.slice xo 6 xc, .slice po n pc].toArray 25) (.cells (pv x y a b c).toArray 27) 51 [.slice none 0 0, .slice none 0 0, .slice none 0 0]
  have B0 : Below w.heap.size w (((w.alloc (.cells [.slice xo 6 xc, .slice po n pc].toArray 25)).alloc (.cells (pv x y a b c).toArray 27)).alloc (.cells [.slice none 0 0, .slice none 0 0, .slice none 0 0].toArray 51)) := below_al (below_al (below_al (Below.refl _ _) _) _) _
  obtain ⟨W, hW⟩ : ∃ W, W = ((w.alloc (.cells [.slice xo 6 xc, .slice po n pc].toArray 25)).alloc (.cells (pv x y a b c).toArray 27)).alloc (.cells [.slice none 0 0, .slice none 0 0, .slice none 0 0].toArray 51) := ⟨_, rfl⟩
  rw [← hW] at t0 m0 r0 B0
  have HW := hide hW
  clear hW
  have HM := hide (hM W B0)
  have HN := hide (fun W => rmay13_any x y a b c W)
  rw [decide_eq_false h] at HN
  clear hM h
  go_enter Tryz.func9, Tryz.ntmps9
  go_wp2_with (first
    | (erw [← HW.out]; (refine St.wpList_load isSt (by rfl) _ (by rfl) _ _ (by rfl) (by with_reducible exact t0) rfl ?_))
    | fail)
  refine HM.out.mono ?_
  rintro e w1 ⟨rfl, k1⟩
  have r1 := CRow.keep r0 k1
  have m1 := CRow.keep m0 k1
  have B1 := below_tr B0 k1
  go_wp2_with (first
    | (refine St.wpList_load isSeen (by rfl) _ (by rfl) _ _ (by rfl) (by with_reducible exact m1) rfl ?_)
    | fail)
  refine (HN.out _).mono ?_
  rintro e w2 ⟨rfl, k2⟩
  have r2 := CRow.keep r1 k2
  have B2 := below_tr B1 k2
  go_wp2_with (first
    | (refine St.wpList_store isGap rfl _ _ (by rfl) _ _ [.slice none 0 0, .slice none 0 0, .slice none 0 0] (by rfl) (by rfl) (by with_reducible exact r2) rfl rfl (by intro v hv; simp only [List.mem_cons, List.not_mem_nil, or_false] at hv; rcases hv with rfl | rfl | rfl <;> rfl) ?_)
    | fail)
  exact bodyPost_ret (results_3 isGap Tryz.results9 _ _ (w.heap.size + 1 + 1) _ rfl (CRow.row r2 _) rfl) rfl ⟨rfl, St.below_row B2 (by omega) _⟩
set_option maxRecDepth 20000 in
set_option maxHeartbeats 8000000 in
theorem dof13_any (xo po : Option Addr) (xc pc : Nat) (X : Nat → Int) (P : Nat → Nat → Int) (x y a b c : Int) (w : World) (hX : Sl w xo 6 xc X) (hP : Grid w po 6 pc 6 P) (hm : MayV X P) (hp : MayN x y a b c) :
    Calls Tryz.prog 9 #[.agg #[.slice xo 6 xc, .slice po 6 pc], .agg (pv x y a b c).toArray] w fun e w' =>
      (((¬ ∀ i, i < 2 → Ld.fine (oM P a b c) i) ∧ e = .returned (.tuple #[.agg #[.slice none 0 0, .slice none 0 0, .slice none 0 0], .bool false, .int .i64 8])) ∨
       ((∀ i, i < 2 → Ld.fine (oM P a b c) i) ∧ ∃ gv lo cl do' cd, e = .returned (.tuple #[.agg #[.slice (some ⟨gv, 0, none⟩) 2 2, .slice lo 2 cl, .slice do' 2 cd], .bool (og X P x y a b c), .int .i64 0]) ∧ Sl w' (some ⟨gv, 0, none⟩) 2 2 (v2 (ox X x) (oy X y)) ∧ Grid w' lo 2 cl 2 (Ld.st (oM P a b c) 2).1 ∧ Sl w' do' 2 cd (Ld.st (oM P a b c) 2).2)) ∧ Below w.heap.size w w' := by
  obtain ⟨xa, hxa, hxc⟩ := hX.get
  obtain rfl := hxa (by omega)
  have HX0 := hX
  have HP0 := hP
  obtain ⟨A, C, hs, hr⟩ := hP
  obtain ⟨pa, hpa, hpc⟩ := hs.get
  obtain rfl := hpa (by omega)
  obtain ⟨ra, hra, hrc⟩ := (hr 0 (by omega)).get
  obtain ⟨rb, hrb, hrd⟩ := (hr 3 (by omega)).get
  have e0 := hpc 0 (by omega)
  have e3 := hpc 3 (by omega)
  rw [hra (by omega)] at e0
  rw [hrb (by omega)] at e3
  have e00 := hrc 0 (by omega)
  have e03 := hrc 3 (by omega)
  have e33 := hrd 3 (by omega)
  have ex0 := hxc 0 (by omega)
  have ex3 := hxc 3 (by omega)
  rw [Ud.addr0] at e0 e00 ex0
  obtain ⟨rc, hrc'⟩ : ∃ q, q = C 0 := ⟨_, rfl⟩
  obtain ⟨rd, hrd'⟩ : ∃ q, q = C 3 := ⟨_, rfl⟩
  rw [← hrc'] at e0
  rw [← hrd'] at e3
  have l1 := hX.le
  have l2 := hX.cap
  have l3 := hs.le
  have l4 := hs.cap
  have l5 := (hr 0 (by omega)).le
  have l6 := (hr 0 (by omega)).cap
  have l7 := (hr 3 (by omega)).le
  have l8 := (hr 3 (by omega)).cap
  rw [← hrc'] at l5 l6
  rw [← hrd'] at l7 l8
  have t0 := ((crow_new w 25 [.slice (some xa) 6 xc, .slice (some pa) 6 pc]).alloc (.cells (pv x y a b c).toArray 27)).alloc (.cells [.slice none 0 0, .slice none 0 0, .slice none 0 0].toArray 51)
  have m0 := (crow_new1 w (.cells [.slice (some xa) 6 xc, .slice (some pa) 6 pc].toArray 25) 27 (pv x y a b c)).alloc (.cells [.slice none 0 0, .slice none 0 0, .slice none 0 0].toArray 51)
  have r0 := crow_new2 w (.cells [.slice (some xa) 6 xc, .slice (some pa) 6 pc].toArray 25) (.cells (pv x y a b c).toArray 27) 51 [.slice none 0 0, .slice none 0 0, .slice none 0 0]
  have B0 : Below w.heap.size w (((w.alloc (.cells [.slice (some xa) 6 xc, .slice (some pa) 6 pc].toArray 25)).alloc (.cells (pv x y a b c).toArray 27)).alloc (.cells [.slice none 0 0, .slice none 0 0, .slice none 0 0].toArray 51)) := below_al (below_al (below_al (Below.refl _ _) _) _) _
  obtain ⟨W, hW⟩ : ∃ W, W = ((w.alloc (.cells [.slice (some xa) 6 xc, .slice (some pa) 6 pc].toArray 25)).alloc (.cells (pv x y a b c).toArray 27)).alloc (.cells [.slice none 0 0, .slice none 0 0, .slice none 0 0].toArray 51) := ⟨_, rfl⟩
  rw [← hW] at t0 m0 r0 B0
  have HW := hide hW
  clear hW
  have hS : ∀ V, Below W.heap.size W V → (V.cell? ⟨w.heap.size, 0, none⟩ = some (.slice (some xa) 6 xc) ∧ V.cell? ⟨w.heap.size, 1, none⟩ = some (.slice (some pa) 6 pc) ∧ V.cell? pa = some (.slice (some ra) 6 rc) ∧ V.cell? (pa.add 3) = some (.slice (some rb) 6 rd) ∧ V.cell? ra = some (.int .i64 (P 0 0)) ∧ V.cell? (ra.add 3) = some (.int .i64 (P 0 3)) ∧ V.cell? (rb.add 3) = some (.int .i64 (P 3 3)) ∧ V.cell? xa = some (.int .i64 (X 0)) ∧ V.cell? (xa.add 3) = some (.int .i64 (X 3)) ∧ V.cell? ⟨w.heap.size + 1, 0, none⟩ = some (.int .i64 x) ∧ V.cell? ⟨w.heap.size + 1, 1, none⟩ = some (.int .i64 y) ∧ V.cell? ⟨w.heap.size + 1, 2, none⟩ = some (.int .i64 a) ∧ V.cell? ⟨w.heap.size + 1, 3, none⟩ = some (.int .i64 b) ∧ V.cell? ⟨w.heap.size + 1, 4, none⟩ = some (.int .i64 c)) := fun V k => ⟨CRow.cell (CRow.keep t0 k) (k := 0) rfl rfl, CRow.cell (CRow.keep t0 k) (k := 1) rfl rfl, keep_cell (below_tr B0 k) e0, keep_cell (below_tr B0 k) e3, keep_cell (below_tr B0 k) e00, keep_cell (below_tr B0 k) e03, keep_cell (below_tr B0 k) e33, keep_cell (below_tr B0 k) ex0, keep_cell (below_tr B0 k) ex3, CRow.cell (CRow.keep m0 k) (k := 0) rfl rfl, CRow.cell (CRow.keep m0 k) (k := 1) rfl rfl, CRow.cell (CRow.keep m0 k) (k := 2) rfl rfl, CRow.cell (CRow.keep m0 k) (k := 3) rfl rfl, CRow.cell (CRow.keep m0 k) (k := 4) rfl rfl⟩
  have i0 := (hm 0 (by omega))
  have i3 := (hm 3 (by omega))
  have HA := hide (fun W => radd13_no (P 0 0) a W (by have := (i0.2.2 0 (by omega)).1.1; omega) (by have := (i0.2.2 0 (by omega)).1.2; omega) (by have := hp.2.2.1.1; omega) (by have := hp.2.2.1.2; omega))
  have HB := hide (fun W => radd13_no (P 0 3) c W (by have := (i0.2.2 3 (by omega)).1.1; omega) (by have := (i0.2.2 3 (by omega)).1.2; omega) (by have := hp.2.2.2.2.1.1; omega) (by have := hp.2.2.2.2.1.2; omega))
  have HC := hide (fun W => radd13_no (P 3 3) b W (by have := (i3.2.2 3 (by omega)).1.1; omega) (by have := (i3.2.2 3 (by omega)).1.2; omega) (by have := hp.2.2.2.1.1; omega) (by have := hp.2.2.2.1.2; omega))
  have HX := hide (fun W => radd13_yes x (X 0) W (by have := hp.1.1; omega) (by have := hp.1.2; omega) (by have := i0.1.1; omega) (by have := i0.1.2; omega))
  have HY := hide (fun W => radd13_yes y (X 3) W (by have := hp.2.1.1; omega) (by have := hp.2.1.2; omega) (by have := i3.1.1; omega) (by have := i3.1.2; omega))
  have HM := hide (rmay12_grid true (some xa) (some pa) xc pc X P W (HX0.keep B0) (HP0.keep B0) ⟨fun _ => hm, fun _ => rfl⟩)
  have HN := hide (fun W => rmay13_any x y a b c W)
  rw [decide_eq_true hp] at HN
  have HF := hide (fun lo cm W (g : Grid W lo 2 cm 2 (oM P a b c)) => dof_any 2 cm lo (oM P a b c) W (by omega) (by omega) g (g2_b (cl64 _) (cl64 _) (cl64 _)))
  have eG : Hid (og X P x y a b c = (Qn.great (P 0 0 + a) || Qn.great (P 0 3 + c) || Qn.great (P 3 3 + b) || Qn.great (x - X 0) || Qn.great (y - X 3))) := rfl
  have eM : Hid (oM P a b c = g2 (Qn.clamp (P 0 0 + a)) (Qn.clamp (P 0 3 + c)) (Qn.clamp (P 3 3 + b))) := rfl
  have eX : Hid (ox X x = Qn.clamp (x - X 0)) := rfl
  have eY : Hid (oy X y = Qn.clamp (y - X 3)) := rfl
  have hSame := g2_same (oa P a) (ob P c) (oc P b)
  have HSm : Hid (Ld.Same 2 (oM P a b c)) := hSame
  obtain ⟨va, hva⟩ : ∃ z, z = Qn.clamp (P 0 0 + a) := ⟨_, rfl⟩
  obtain ⟨vb, hvb⟩ : ∃ z, z = Qn.clamp (P 0 3 + c) := ⟨_, rfl⟩
  obtain ⟨vc, hvc⟩ : ∃ z, z = Qn.clamp (P 3 3 + b) := ⟨_, rfl⟩
  obtain ⟨vx, hvx⟩ : ∃ z, z = Qn.clamp (x - X 0) := ⟨_, rfl⟩
  obtain ⟨vy, hvy⟩ : ∃ z, z = Qn.clamp (y - X 3) := ⟨_, rfl⟩
  obtain ⟨qa, hqa⟩ : ∃ z, z = Qn.great (P 0 0 + a) := ⟨_, rfl⟩
  obtain ⟨qb, hqb⟩ : ∃ z, z = Qn.great (P 0 3 + c) := ⟨_, rfl⟩
  obtain ⟨qc, hqc⟩ : ∃ z, z = Qn.great (P 3 3 + b) := ⟨_, rfl⟩
  obtain ⟨qx, hqx⟩ : ∃ z, z = Qn.great (x - X 0) := ⟨_, rfl⟩
  obtain ⟨qy, hqy⟩ : ∃ z, z = Qn.great (y - X 3) := ⟨_, rfl⟩
  rw [← hva, ← hqa] at HA
  rw [← hvb, ← hqb] at HB
  rw [← hvc, ← hqc] at HC
  rw [← hvx, ← hqx] at HX
  rw [← hvy, ← hqy] at HY
  rw [← hqa, ← hqb, ← hqc, ← hqx, ← hqy] at eG
  rw [← hva, ← hvb, ← hvc] at eM
  rw [← hvx] at eX
  rw [← hvy] at eY
  rw [eG.out, eX.out, eY.out]
  obtain ⟨Mx, hMx⟩ : ∃ M, M = oM P a b c := ⟨_, rfl⟩
  rw [← hMx] at HF eM HSm ⊢
  obtain ⟨p00, hp00⟩ : ∃ z, z = P 0 0 := ⟨_, rfl⟩
  obtain ⟨p03, hp03⟩ : ∃ z, z = P 0 3 := ⟨_, rfl⟩
  obtain ⟨p33, hp33⟩ : ∃ z, z = P 3 3 := ⟨_, rfl⟩
  obtain ⟨x0, hx0⟩ : ∃ z, z = X 0 := ⟨_, rfl⟩
  obtain ⟨x3, hx3⟩ : ∃ z, z = X 3 := ⟨_, rfl⟩
  rw [← hp00] at HA hS
  rw [← hp03] at HB hS
  rw [← hp33] at HC hS
  rw [← hx0] at HX hS
  rw [← hx3] at HY hS
  have HS := hide hS
  have HR : Hid (∀ V, Below W.heap.size W V → CRow V (w.heap.size + 1 + 1) 51 [.slice none 0 0, .slice none 0 0, .slice none 0 0]) := fun V k => CRow.keep r0 k
  have m0' := m0
  clear hS hxa hxc hs hr hpa hpc hra hrc hrb hrd e0 e3 e00 e03 e33 ex0 ex3 i0 i3 hSame hva hvb hvc hvx hvy hqa hqb hqc hqx hqy hMx hp00 hp03 hp33 hx0 hx3 hrc' hrd' HX0 HP0 hX hm hp eG eX eY r0
  go_enter Tryz.func9, Tryz.ntmps9
  go_wp2_with (first
    | (erw [← HW.out]; (refine St.wpList_load isSt (by rfl) _ (by rfl) _ _ (by rfl) (by with_reducible exact t0) rfl ?_))
    | fail)
  refine HM.out.mono ?_
  rintro e w1 ⟨rfl, k1⟩
  have m1 := CRow.keep m0 k1
  go_wp2_with (first
    | (refine St.wpList_load isSeen (by rfl) _ (by rfl) _ _ (by rfl) (by with_reducible exact m1) rfl ?_)
    | fail)
  refine (HN.out _).mono ?_
  rintro e w2 ⟨rfl, k2⟩
  have D2 := below_tr k1 k2
  clear m0 m0' m1 k1 k2 HM HN HW t0
  go_upto_region 3 with fail
  refine Ru.wp_region_U [] (fun w' => w'.cell? ⟨w.heap.size, 0, none⟩ = some (.slice (some xa) 6 xc) ∧ w'.cell? ⟨w.heap.size, 1, none⟩ = some (.slice (some pa) 6 pc) ∧ w'.cell? pa = some (.slice (some ra) 6 rc) ∧ w'.cell? (pa.add 3) = some (.slice (some rb) 6 rd) ∧ w'.cell? ra = some (.int .i64 p00) ∧ w'.cell? (ra.add 3) = some (.int .i64 p03) ∧ w'.cell? (rb.add 3) = some (.int .i64 p33) ∧ w'.cell? xa = some (.int .i64 x0) ∧ w'.cell? (xa.add 3) = some (.int .i64 x3) ∧ w'.cell? ⟨w.heap.size + 1, 0, none⟩ = some (.int .i64 x) ∧ w'.cell? ⟨w.heap.size + 1, 1, none⟩ = some (.int .i64 y) ∧ w'.cell? ⟨w.heap.size + 1, 2, none⟩ = some (.int .i64 a) ∧ w'.cell? ⟨w.heap.size + 1, 3, none⟩ = some (.int .i64 b) ∧ w'.cell? ⟨w.heap.size + 1, 4, none⟩ = some (.int .i64 c)) (by kernel_rfl) (HS.out _ (below_tr D2 (Vc.below_drew' _))) (fun hHeld => ?_)
  refine Ru.wpAnyU_take (i := 0) (v := .pointer (some ⟨w.heap.size, 1, none⟩)) rfl (by kernel_rfl) (by kernel_rfl) (by kernel_rfl) (by kernel_rfl) (by kernel_rfl) (by kernel_rfl) (fun _ _ _ h => h) (Or.inl ⟨by kernel_rfl, fun w hS => by obtain ⟨sc0, sc1, sc2, sc3, sc4, sc5, sc6, sc7, sc8, sc9, sc10, sc11, sc12, sc13⟩ := hS; go_simp⟩) hHeld ?_
  simp only [Act.put, zq1, zq2, zq3, zq4, zq5, zq6]
  refine Ru.wpAnyU_take (i := 1) (v := .slice (some pa) 6 pc) rfl (by kernel_rfl) (by kernel_rfl) (by kernel_rfl) (by kernel_rfl) (by kernel_rfl) (by kernel_rfl) (fun _ _ _ h => h) (Or.inl ⟨by kernel_rfl, fun w hS => by obtain ⟨sc0, sc1, sc2, sc3, sc4, sc5, sc6, sc7, sc8, sc9, sc10, sc11, sc12, sc13⟩ := hS; go_simp⟩) hHeld ?_
  simp only [Act.put, zq1, zq2, zq3, zq4, zq5, zq6]
  refine Ru.wpAnyU_take (i := 2) (v := .pointer (some pa)) rfl (by kernel_rfl) (by kernel_rfl) (by kernel_rfl) (by kernel_rfl) (by kernel_rfl) (by kernel_rfl) (fun _ _ _ h => h) (Or.inl ⟨by kernel_rfl, fun w hS => by obtain ⟨sc0, sc1, sc2, sc3, sc4, sc5, sc6, sc7, sc8, sc9, sc10, sc11, sc12, sc13⟩ := hS; go_simp⟩) hHeld ?_
  simp only [Act.put, zq1, zq2, zq3, zq4, zq5, zq6]
  refine Ru.wpAnyU_take (i := 3) (v := .slice (some ra) 6 rc) rfl (by kernel_rfl) (by kernel_rfl) (by kernel_rfl) (by kernel_rfl) (by kernel_rfl) (by kernel_rfl) (fun _ _ _ h => h) (Or.inl ⟨by kernel_rfl, fun w hS => by obtain ⟨sc0, sc1, sc2, sc3, sc4, sc5, sc6, sc7, sc8, sc9, sc10, sc11, sc12, sc13⟩ := hS; go_simp⟩) hHeld ?_
  simp only [Act.put, zq1, zq2, zq3, zq4, zq5, zq6]
  refine Ru.wpAnyU_take (i := 4) (v := .pointer (some ra)) rfl (by kernel_rfl) (by kernel_rfl) (by kernel_rfl) (by kernel_rfl) (by kernel_rfl) (by kernel_rfl) (fun _ _ _ h => h) (Or.inl ⟨by kernel_rfl, fun w hS => by obtain ⟨sc0, sc1, sc2, sc3, sc4, sc5, sc6, sc7, sc8, sc9, sc10, sc11, sc12, sc13⟩ := hS; go_simp⟩) hHeld ?_
  simp only [Act.put, zq1, zq2, zq3, zq4, zq5, zq6]
  refine Ru.wpAnyU_take (i := 5) (v := .int .i64 p00) rfl (by kernel_rfl) (by kernel_rfl) (by kernel_rfl) (by kernel_rfl) (by kernel_rfl) (by kernel_rfl) (fun _ _ _ h => h) (Or.inl ⟨by kernel_rfl, fun w hS => by obtain ⟨sc0, sc1, sc2, sc3, sc4, sc5, sc6, sc7, sc8, sc9, sc10, sc11, sc12, sc13⟩ := hS; go_simp⟩) hHeld ?_
  simp only [Act.put, zq1, zq2, zq3, zq4, zq5, zq6]
  refine Ru.wpAnyU_take (i := 6) (v := .pointer (some ⟨w.heap.size + 1, 2, none⟩)) rfl (by kernel_rfl) (by kernel_rfl) (by kernel_rfl) (by kernel_rfl) (by kernel_rfl) (by kernel_rfl) (fun _ _ _ h => h) (Or.inl ⟨by kernel_rfl, fun w hS => by obtain ⟨sc0, sc1, sc2, sc3, sc4, sc5, sc6, sc7, sc8, sc9, sc10, sc11, sc12, sc13⟩ := hS; go_simp⟩) hHeld ?_
  simp only [Act.put, zq1, zq2, zq3, zq4, zq5, zq6]
  refine Ru.wpAnyU_take (i := 7) (v := .int .i64 a) rfl (by kernel_rfl) (by kernel_rfl) (by kernel_rfl) (by kernel_rfl) (by kernel_rfl) (by kernel_rfl) (fun _ _ _ h => h) (Or.inl ⟨by kernel_rfl, fun w hS => by obtain ⟨sc0, sc1, sc2, sc3, sc4, sc5, sc6, sc7, sc8, sc9, sc10, sc11, sc12, sc13⟩ := hS; go_simp⟩) hHeld ?_
  simp only [Act.put, zq1, zq2, zq3, zq4, zq5, zq6]
  refine Ru.wpAnyU_ready (rs := [8]) (by kernel_rfl) (by simp) ?_
  refine Ru.AllReadyU.cons rfl (by kernel_rfl) (fun K hK => ?_) Ru.AllReadyU.nil
  go_simp
  refine (HA.out _).mono ?_
  rintro _ w3 ⟨rfl, k3⟩
  have D3 := below_tr (below_tr D2 (Vc.below_drew' _)) k3
  go_wp2_with fail
  refine hK.out _ _ (HS.out _ D3) (fun hHeld => ?_)
  clear hK K
  try simp only [Act.put, zq1, zq2, zq3, zq4, zq5, zq6]
  refine Ru.wpAnyU_take (i := 9) (v := .tuple #[.int .i64 va, .bool qa]) rfl (by kernel_rfl) (by kernel_rfl) (by kernel_rfl) (by kernel_rfl) (by kernel_rfl) (by kernel_rfl) (fun _ _ _ h => h) (Or.inl ⟨by kernel_rfl, fun w hS => by obtain ⟨sc0, sc1, sc2, sc3, sc4, sc5, sc6, sc7, sc8, sc9, sc10, sc11, sc12, sc13⟩ := hS; go_simp⟩) hHeld ?_
  simp only [Act.put, zq1, zq2, zq3, zq4, zq5, zq6]
  refine Ru.wpAnyU_take (i := 10) (v := .int .i64 va) rfl (by kernel_rfl) (by kernel_rfl) (by kernel_rfl) (by kernel_rfl) (by kernel_rfl) (by kernel_rfl) (fun _ _ _ h => h) (Or.inl ⟨by kernel_rfl, fun w hS => by obtain ⟨sc0, sc1, sc2, sc3, sc4, sc5, sc6, sc7, sc8, sc9, sc10, sc11, sc12, sc13⟩ := hS; go_simp⟩) hHeld ?_
  simp only [Act.put, zq1, zq2, zq3, zq4, zq5, zq6]
  refine Ru.wpAnyU_take (i := 11) (v := .bool qa) rfl (by kernel_rfl) (by kernel_rfl) (by kernel_rfl) (by kernel_rfl) (by kernel_rfl) (by kernel_rfl) (fun _ _ _ h => h) (Or.inl ⟨by kernel_rfl, fun w hS => by obtain ⟨sc0, sc1, sc2, sc3, sc4, sc5, sc6, sc7, sc8, sc9, sc10, sc11, sc12, sc13⟩ := hS; go_simp⟩) hHeld ?_
  simp only [Act.put, zq1, zq2, zq3, zq4, zq5, zq6]
  refine Ru.wpAnyU_take (i := 12) (v := .int .i64 va) rfl (by kernel_rfl) (by kernel_rfl) (by kernel_rfl) (by kernel_rfl) (by kernel_rfl) (by kernel_rfl) (fun _ _ _ h => h) (Or.inl ⟨by kernel_rfl, fun w hS => by obtain ⟨sc0, sc1, sc2, sc3, sc4, sc5, sc6, sc7, sc8, sc9, sc10, sc11, sc12, sc13⟩ := hS; go_simp⟩) hHeld ?_
  simp only [Act.put, zq1, zq2, zq3, zq4, zq5, zq6]
  refine Ru.wpAnyU_take (i := 13) (v := .bool qa) rfl (by kernel_rfl) (by kernel_rfl) (by kernel_rfl) (by kernel_rfl) (by kernel_rfl) (by kernel_rfl) (fun _ _ _ h => h) (Or.inl ⟨by kernel_rfl, fun w hS => by obtain ⟨sc0, sc1, sc2, sc3, sc4, sc5, sc6, sc7, sc8, sc9, sc10, sc11, sc12, sc13⟩ := hS; go_simp⟩) hHeld ?_
  simp only [Act.put, zq1, zq2, zq3, zq4, zq5, zq6]
  refine Ru.wpAnyU_done (by kernel_rfl) ?_
  go_upto_region 4 with fail
  refine Ru.wp_region_U [] (fun w' => w'.cell? ⟨w.heap.size, 0, none⟩ = some (.slice (some xa) 6 xc) ∧ w'.cell? ⟨w.heap.size, 1, none⟩ = some (.slice (some pa) 6 pc) ∧ w'.cell? pa = some (.slice (some ra) 6 rc) ∧ w'.cell? (pa.add 3) = some (.slice (some rb) 6 rd) ∧ w'.cell? ra = some (.int .i64 p00) ∧ w'.cell? (ra.add 3) = some (.int .i64 p03) ∧ w'.cell? (rb.add 3) = some (.int .i64 p33) ∧ w'.cell? xa = some (.int .i64 x0) ∧ w'.cell? (xa.add 3) = some (.int .i64 x3) ∧ w'.cell? ⟨w.heap.size + 1, 0, none⟩ = some (.int .i64 x) ∧ w'.cell? ⟨w.heap.size + 1, 1, none⟩ = some (.int .i64 y) ∧ w'.cell? ⟨w.heap.size + 1, 2, none⟩ = some (.int .i64 a) ∧ w'.cell? ⟨w.heap.size + 1, 3, none⟩ = some (.int .i64 b) ∧ w'.cell? ⟨w.heap.size + 1, 4, none⟩ = some (.int .i64 c)) (by kernel_rfl) (HS.out _ (below_tr D3 (Vc.below_drew' _))) (fun hHeld => ?_)
  refine Ru.wpAnyU_take (i := 0) (v := .pointer (some ⟨w.heap.size, 1, none⟩)) rfl (by kernel_rfl) (by kernel_rfl) (by kernel_rfl) (by kernel_rfl) (by kernel_rfl) (by kernel_rfl) (fun _ _ _ h => h) (Or.inl ⟨by kernel_rfl, fun w hS => by obtain ⟨sc0, sc1, sc2, sc3, sc4, sc5, sc6, sc7, sc8, sc9, sc10, sc11, sc12, sc13⟩ := hS; go_simp⟩) hHeld ?_
  simp only [Act.put, zq1, zq2, zq3, zq4, zq5, zq6]
  refine Ru.wpAnyU_take (i := 1) (v := .slice (some pa) 6 pc) rfl (by kernel_rfl) (by kernel_rfl) (by kernel_rfl) (by kernel_rfl) (by kernel_rfl) (by kernel_rfl) (fun _ _ _ h => h) (Or.inl ⟨by kernel_rfl, fun w hS => by obtain ⟨sc0, sc1, sc2, sc3, sc4, sc5, sc6, sc7, sc8, sc9, sc10, sc11, sc12, sc13⟩ := hS; go_simp⟩) hHeld ?_
  simp only [Act.put, zq1, zq2, zq3, zq4, zq5, zq6]
  refine Ru.wpAnyU_take (i := 2) (v := .pointer (some pa)) rfl (by kernel_rfl) (by kernel_rfl) (by kernel_rfl) (by kernel_rfl) (by kernel_rfl) (by kernel_rfl) (fun _ _ _ h => h) (Or.inl ⟨by kernel_rfl, fun w hS => by obtain ⟨sc0, sc1, sc2, sc3, sc4, sc5, sc6, sc7, sc8, sc9, sc10, sc11, sc12, sc13⟩ := hS; go_simp⟩) hHeld ?_
  simp only [Act.put, zq1, zq2, zq3, zq4, zq5, zq6]
  refine Ru.wpAnyU_take (i := 3) (v := .slice (some ra) 6 rc) rfl (by kernel_rfl) (by kernel_rfl) (by kernel_rfl) (by kernel_rfl) (by kernel_rfl) (by kernel_rfl) (fun _ _ _ h => h) (Or.inl ⟨by kernel_rfl, fun w hS => by obtain ⟨sc0, sc1, sc2, sc3, sc4, sc5, sc6, sc7, sc8, sc9, sc10, sc11, sc12, sc13⟩ := hS; go_simp⟩) hHeld ?_
  simp only [Act.put, zq1, zq2, zq3, zq4, zq5, zq6]
  refine Ru.wpAnyU_take (i := 4) (v := .pointer (some (ra.add 3))) rfl (by kernel_rfl) (by kernel_rfl) (by kernel_rfl) (by kernel_rfl) (by kernel_rfl) (by kernel_rfl) (fun _ _ _ h => h) (Or.inl ⟨by kernel_rfl, fun w hS => by obtain ⟨sc0, sc1, sc2, sc3, sc4, sc5, sc6, sc7, sc8, sc9, sc10, sc11, sc12, sc13⟩ := hS; go_simp⟩) hHeld ?_
  simp only [Act.put, zq1, zq2, zq3, zq4, zq5, zq6]
  refine Ru.wpAnyU_take (i := 5) (v := .int .i64 p03) rfl (by kernel_rfl) (by kernel_rfl) (by kernel_rfl) (by kernel_rfl) (by kernel_rfl) (by kernel_rfl) (fun _ _ _ h => h) (Ud.yieldsI (by kernel_rfl) _ (by rfl) (ra.add 3) _ (by rfl) (fun w h => h.2.2.2.2.2.1)) hHeld ?_
  simp only [Act.put, zq1, zq2, zq3, zq4, zq5, zq6]
  refine Ru.wpAnyU_take (i := 6) (v := .pointer (some ⟨w.heap.size + 1, 4, none⟩)) rfl (by kernel_rfl) (by kernel_rfl) (by kernel_rfl) (by kernel_rfl) (by kernel_rfl) (by kernel_rfl) (fun _ _ _ h => h) (Or.inl ⟨by kernel_rfl, fun w hS => by obtain ⟨sc0, sc1, sc2, sc3, sc4, sc5, sc6, sc7, sc8, sc9, sc10, sc11, sc12, sc13⟩ := hS; go_simp⟩) hHeld ?_
  simp only [Act.put, zq1, zq2, zq3, zq4, zq5, zq6]
  refine Ru.wpAnyU_take (i := 7) (v := .int .i64 c) rfl (by kernel_rfl) (by kernel_rfl) (by kernel_rfl) (by kernel_rfl) (by kernel_rfl) (by kernel_rfl) (fun _ _ _ h => h) (Or.inl ⟨by kernel_rfl, fun w hS => by obtain ⟨sc0, sc1, sc2, sc3, sc4, sc5, sc6, sc7, sc8, sc9, sc10, sc11, sc12, sc13⟩ := hS; go_simp⟩) hHeld ?_
  simp only [Act.put, zq1, zq2, zq3, zq4, zq5, zq6]
  refine Ru.wpAnyU_ready (rs := [8]) (by kernel_rfl) (by simp) ?_
  refine Ru.AllReadyU.cons rfl (by kernel_rfl) (fun K hK => ?_) Ru.AllReadyU.nil
  go_simp
  refine (HB.out _).mono ?_
  rintro _ w4 ⟨rfl, k4⟩
  have D4 := below_tr (below_tr D3 (Vc.below_drew' _)) k4
  go_wp2_with fail
  refine hK.out _ _ (HS.out _ D4) (fun hHeld => ?_)
  clear hK K
  try simp only [Act.put, zq1, zq2, zq3, zq4, zq5, zq6]
  refine Ru.wpAnyU_take (i := 9) (v := .tuple #[.int .i64 vb, .bool qb]) rfl (by kernel_rfl) (by kernel_rfl) (by kernel_rfl) (by kernel_rfl) (by kernel_rfl) (by kernel_rfl) (fun _ _ _ h => h) (Or.inl ⟨by kernel_rfl, fun w hS => by obtain ⟨sc0, sc1, sc2, sc3, sc4, sc5, sc6, sc7, sc8, sc9, sc10, sc11, sc12, sc13⟩ := hS; go_simp⟩) hHeld ?_
  simp only [Act.put, zq1, zq2, zq3, zq4, zq5, zq6]
  refine Ru.wpAnyU_take (i := 10) (v := .int .i64 vb) rfl (by kernel_rfl) (by kernel_rfl) (by kernel_rfl) (by kernel_rfl) (by kernel_rfl) (by kernel_rfl) (fun _ _ _ h => h) (Or.inl ⟨by kernel_rfl, fun w hS => by obtain ⟨sc0, sc1, sc2, sc3, sc4, sc5, sc6, sc7, sc8, sc9, sc10, sc11, sc12, sc13⟩ := hS; go_simp⟩) hHeld ?_
  simp only [Act.put, zq1, zq2, zq3, zq4, zq5, zq6]
  refine Ru.wpAnyU_take (i := 11) (v := .bool qb) rfl (by kernel_rfl) (by kernel_rfl) (by kernel_rfl) (by kernel_rfl) (by kernel_rfl) (by kernel_rfl) (fun _ _ _ h => h) (Or.inl ⟨by kernel_rfl, fun w hS => by obtain ⟨sc0, sc1, sc2, sc3, sc4, sc5, sc6, sc7, sc8, sc9, sc10, sc11, sc12, sc13⟩ := hS; go_simp⟩) hHeld ?_
  simp only [Act.put, zq1, zq2, zq3, zq4, zq5, zq6]
  refine Ru.wpAnyU_take (i := 12) (v := .int .i64 vb) rfl (by kernel_rfl) (by kernel_rfl) (by kernel_rfl) (by kernel_rfl) (by kernel_rfl) (by kernel_rfl) (fun _ _ _ h => h) (Or.inl ⟨by kernel_rfl, fun w hS => by obtain ⟨sc0, sc1, sc2, sc3, sc4, sc5, sc6, sc7, sc8, sc9, sc10, sc11, sc12, sc13⟩ := hS; go_simp⟩) hHeld ?_
  simp only [Act.put, zq1, zq2, zq3, zq4, zq5, zq6]
  refine Ru.wpAnyU_take (i := 13) (v := .bool qb) rfl (by kernel_rfl) (by kernel_rfl) (by kernel_rfl) (by kernel_rfl) (by kernel_rfl) (by kernel_rfl) (fun _ _ _ h => h) (Or.inl ⟨by kernel_rfl, fun w hS => by obtain ⟨sc0, sc1, sc2, sc3, sc4, sc5, sc6, sc7, sc8, sc9, sc10, sc11, sc12, sc13⟩ := hS; go_simp⟩) hHeld ?_
  simp only [Act.put, zq1, zq2, zq3, zq4, zq5, zq6]
  refine Ru.wpAnyU_done (by kernel_rfl) ?_
  go_upto_region 5 with fail
  refine Ru.wp_region_U [] (fun w' => w'.cell? ⟨w.heap.size, 0, none⟩ = some (.slice (some xa) 6 xc) ∧ w'.cell? ⟨w.heap.size, 1, none⟩ = some (.slice (some pa) 6 pc) ∧ w'.cell? pa = some (.slice (some ra) 6 rc) ∧ w'.cell? (pa.add 3) = some (.slice (some rb) 6 rd) ∧ w'.cell? ra = some (.int .i64 p00) ∧ w'.cell? (ra.add 3) = some (.int .i64 p03) ∧ w'.cell? (rb.add 3) = some (.int .i64 p33) ∧ w'.cell? xa = some (.int .i64 x0) ∧ w'.cell? (xa.add 3) = some (.int .i64 x3) ∧ w'.cell? ⟨w.heap.size + 1, 0, none⟩ = some (.int .i64 x) ∧ w'.cell? ⟨w.heap.size + 1, 1, none⟩ = some (.int .i64 y) ∧ w'.cell? ⟨w.heap.size + 1, 2, none⟩ = some (.int .i64 a) ∧ w'.cell? ⟨w.heap.size + 1, 3, none⟩ = some (.int .i64 b) ∧ w'.cell? ⟨w.heap.size + 1, 4, none⟩ = some (.int .i64 c)) (by kernel_rfl) (HS.out _ (below_tr D4 (Vc.below_drew' _))) (fun hHeld => ?_)
  refine Ru.wpAnyU_take (i := 0) (v := .pointer (some ⟨w.heap.size, 1, none⟩)) rfl (by kernel_rfl) (by kernel_rfl) (by kernel_rfl) (by kernel_rfl) (by kernel_rfl) (by kernel_rfl) (fun _ _ _ h => h) (Or.inl ⟨by kernel_rfl, fun w hS => by obtain ⟨sc0, sc1, sc2, sc3, sc4, sc5, sc6, sc7, sc8, sc9, sc10, sc11, sc12, sc13⟩ := hS; go_simp⟩) hHeld ?_
  simp only [Act.put, zq1, zq2, zq3, zq4, zq5, zq6]
  refine Ru.wpAnyU_take (i := 1) (v := .slice (some pa) 6 pc) rfl (by kernel_rfl) (by kernel_rfl) (by kernel_rfl) (by kernel_rfl) (by kernel_rfl) (by kernel_rfl) (fun _ _ _ h => h) (Or.inl ⟨by kernel_rfl, fun w hS => by obtain ⟨sc0, sc1, sc2, sc3, sc4, sc5, sc6, sc7, sc8, sc9, sc10, sc11, sc12, sc13⟩ := hS; go_simp⟩) hHeld ?_
  simp only [Act.put, zq1, zq2, zq3, zq4, zq5, zq6]
  refine Ru.wpAnyU_take (i := 2) (v := .pointer (some (pa.add 3))) rfl (by kernel_rfl) (by kernel_rfl) (by kernel_rfl) (by kernel_rfl) (by kernel_rfl) (by kernel_rfl) (fun _ _ _ h => h) (Or.inl ⟨by kernel_rfl, fun w hS => by obtain ⟨sc0, sc1, sc2, sc3, sc4, sc5, sc6, sc7, sc8, sc9, sc10, sc11, sc12, sc13⟩ := hS; go_simp⟩) hHeld ?_
  simp only [Act.put, zq1, zq2, zq3, zq4, zq5, zq6]
  refine Ru.wpAnyU_take (i := 3) (v := .slice (some rb) 6 rd) rfl (by kernel_rfl) (by kernel_rfl) (by kernel_rfl) (by kernel_rfl) (by kernel_rfl) (by kernel_rfl) (fun _ _ _ h => h) (Ud.yieldsL (by kernel_rfl) _ (by rfl) (pa.add 3) _ (by rfl) (fun w h => h.2.2.2.1)) hHeld ?_
  simp only [Act.put, zq1, zq2, zq3, zq4, zq5, zq6]
  refine Ru.wpAnyU_take (i := 4) (v := .pointer (some (rb.add 3))) rfl (by kernel_rfl) (by kernel_rfl) (by kernel_rfl) (by kernel_rfl) (by kernel_rfl) (by kernel_rfl) (fun _ _ _ h => h) (Or.inl ⟨by kernel_rfl, fun w hS => by obtain ⟨sc0, sc1, sc2, sc3, sc4, sc5, sc6, sc7, sc8, sc9, sc10, sc11, sc12, sc13⟩ := hS; go_simp⟩) hHeld ?_
  simp only [Act.put, zq1, zq2, zq3, zq4, zq5, zq6]
  refine Ru.wpAnyU_take (i := 5) (v := .int .i64 p33) rfl (by kernel_rfl) (by kernel_rfl) (by kernel_rfl) (by kernel_rfl) (by kernel_rfl) (by kernel_rfl) (fun _ _ _ h => h) (Ud.yieldsI (by kernel_rfl) _ (by rfl) (rb.add 3) _ (by rfl) (fun w h => h.2.2.2.2.2.2.1)) hHeld ?_
  simp only [Act.put, zq1, zq2, zq3, zq4, zq5, zq6]
  refine Ru.wpAnyU_take (i := 6) (v := .pointer (some ⟨w.heap.size + 1, 3, none⟩)) rfl (by kernel_rfl) (by kernel_rfl) (by kernel_rfl) (by kernel_rfl) (by kernel_rfl) (by kernel_rfl) (fun _ _ _ h => h) (Or.inl ⟨by kernel_rfl, fun w hS => by obtain ⟨sc0, sc1, sc2, sc3, sc4, sc5, sc6, sc7, sc8, sc9, sc10, sc11, sc12, sc13⟩ := hS; go_simp⟩) hHeld ?_
  simp only [Act.put, zq1, zq2, zq3, zq4, zq5, zq6]
  refine Ru.wpAnyU_take (i := 7) (v := .int .i64 b) rfl (by kernel_rfl) (by kernel_rfl) (by kernel_rfl) (by kernel_rfl) (by kernel_rfl) (by kernel_rfl) (fun _ _ _ h => h) (Or.inl ⟨by kernel_rfl, fun w hS => by obtain ⟨sc0, sc1, sc2, sc3, sc4, sc5, sc6, sc7, sc8, sc9, sc10, sc11, sc12, sc13⟩ := hS; go_simp⟩) hHeld ?_
  simp only [Act.put, zq1, zq2, zq3, zq4, zq5, zq6]
  refine Ru.wpAnyU_ready (rs := [8]) (by kernel_rfl) (by simp) ?_
  refine Ru.AllReadyU.cons rfl (by kernel_rfl) (fun K hK => ?_) Ru.AllReadyU.nil
  go_simp
  refine (HC.out _).mono ?_
  rintro _ w5 ⟨rfl, k5⟩
  have D5 := below_tr (below_tr D4 (Vc.below_drew' _)) k5
  go_wp2_with fail
  refine hK.out _ _ (HS.out _ D5) (fun hHeld => ?_)
  clear hK K
  try simp only [Act.put, zq1, zq2, zq3, zq4, zq5, zq6]
  refine Ru.wpAnyU_take (i := 9) (v := .tuple #[.int .i64 vc, .bool qc]) rfl (by kernel_rfl) (by kernel_rfl) (by kernel_rfl) (by kernel_rfl) (by kernel_rfl) (by kernel_rfl) (fun _ _ _ h => h) (Or.inl ⟨by kernel_rfl, fun w hS => by obtain ⟨sc0, sc1, sc2, sc3, sc4, sc5, sc6, sc7, sc8, sc9, sc10, sc11, sc12, sc13⟩ := hS; go_simp⟩) hHeld ?_
  simp only [Act.put, zq1, zq2, zq3, zq4, zq5, zq6]
  refine Ru.wpAnyU_take (i := 10) (v := .int .i64 vc) rfl (by kernel_rfl) (by kernel_rfl) (by kernel_rfl) (by kernel_rfl) (by kernel_rfl) (by kernel_rfl) (fun _ _ _ h => h) (Or.inl ⟨by kernel_rfl, fun w hS => by obtain ⟨sc0, sc1, sc2, sc3, sc4, sc5, sc6, sc7, sc8, sc9, sc10, sc11, sc12, sc13⟩ := hS; go_simp⟩) hHeld ?_
  simp only [Act.put, zq1, zq2, zq3, zq4, zq5, zq6]
  refine Ru.wpAnyU_take (i := 11) (v := .bool qc) rfl (by kernel_rfl) (by kernel_rfl) (by kernel_rfl) (by kernel_rfl) (by kernel_rfl) (by kernel_rfl) (fun _ _ _ h => h) (Or.inl ⟨by kernel_rfl, fun w hS => by obtain ⟨sc0, sc1, sc2, sc3, sc4, sc5, sc6, sc7, sc8, sc9, sc10, sc11, sc12, sc13⟩ := hS; go_simp⟩) hHeld ?_
  simp only [Act.put, zq1, zq2, zq3, zq4, zq5, zq6]
  refine Ru.wpAnyU_take (i := 12) (v := .int .i64 vc) rfl (by kernel_rfl) (by kernel_rfl) (by kernel_rfl) (by kernel_rfl) (by kernel_rfl) (by kernel_rfl) (fun _ _ _ h => h) (Or.inl ⟨by kernel_rfl, fun w hS => by obtain ⟨sc0, sc1, sc2, sc3, sc4, sc5, sc6, sc7, sc8, sc9, sc10, sc11, sc12, sc13⟩ := hS; go_simp⟩) hHeld ?_
  simp only [Act.put, zq1, zq2, zq3, zq4, zq5, zq6]
  refine Ru.wpAnyU_take (i := 13) (v := .bool qc) rfl (by kernel_rfl) (by kernel_rfl) (by kernel_rfl) (by kernel_rfl) (by kernel_rfl) (by kernel_rfl) (fun _ _ _ h => h) (Or.inl ⟨by kernel_rfl, fun w hS => by obtain ⟨sc0, sc1, sc2, sc3, sc4, sc5, sc6, sc7, sc8, sc9, sc10, sc11, sc12, sc13⟩ := hS; go_simp⟩) hHeld ?_
  simp only [Act.put, zq1, zq2, zq3, zq4, zq5, zq6]
  refine Ru.wpAnyU_done (by kernel_rfl) ?_
  go_upto_region 6 with fail
  refine Ru.wp_region_U [] (fun w' => w'.cell? ⟨w.heap.size, 0, none⟩ = some (.slice (some xa) 6 xc) ∧ w'.cell? ⟨w.heap.size, 1, none⟩ = some (.slice (some pa) 6 pc) ∧ w'.cell? pa = some (.slice (some ra) 6 rc) ∧ w'.cell? (pa.add 3) = some (.slice (some rb) 6 rd) ∧ w'.cell? ra = some (.int .i64 p00) ∧ w'.cell? (ra.add 3) = some (.int .i64 p03) ∧ w'.cell? (rb.add 3) = some (.int .i64 p33) ∧ w'.cell? xa = some (.int .i64 x0) ∧ w'.cell? (xa.add 3) = some (.int .i64 x3) ∧ w'.cell? ⟨w.heap.size + 1, 0, none⟩ = some (.int .i64 x) ∧ w'.cell? ⟨w.heap.size + 1, 1, none⟩ = some (.int .i64 y) ∧ w'.cell? ⟨w.heap.size + 1, 2, none⟩ = some (.int .i64 a) ∧ w'.cell? ⟨w.heap.size + 1, 3, none⟩ = some (.int .i64 b) ∧ w'.cell? ⟨w.heap.size + 1, 4, none⟩ = some (.int .i64 c)) (by kernel_rfl) (HS.out _ (below_tr D5 (Vc.below_drew' _))) (fun hHeld => ?_)
  refine Ru.wpAnyU_take (i := 0) (v := .pointer (some ⟨w.heap.size + 1, 0, none⟩)) rfl (by kernel_rfl) (by kernel_rfl) (by kernel_rfl) (by kernel_rfl) (by kernel_rfl) (by kernel_rfl) (fun _ _ _ h => h) (Or.inl ⟨by kernel_rfl, fun w hS => by obtain ⟨sc0, sc1, sc2, sc3, sc4, sc5, sc6, sc7, sc8, sc9, sc10, sc11, sc12, sc13⟩ := hS; go_simp⟩) hHeld ?_
  simp only [Act.put, zq1, zq2, zq3, zq4, zq5, zq6]
  refine Ru.wpAnyU_take (i := 1) (v := .int .i64 x) rfl (by kernel_rfl) (by kernel_rfl) (by kernel_rfl) (by kernel_rfl) (by kernel_rfl) (by kernel_rfl) (fun _ _ _ h => h) (Or.inl ⟨by kernel_rfl, fun w hS => by obtain ⟨sc0, sc1, sc2, sc3, sc4, sc5, sc6, sc7, sc8, sc9, sc10, sc11, sc12, sc13⟩ := hS; go_simp⟩) hHeld ?_
  simp only [Act.put, zq1, zq2, zq3, zq4, zq5, zq6]
  refine Ru.wpAnyU_take (i := 2) (v := .pointer (some ⟨w.heap.size, 0, none⟩)) rfl (by kernel_rfl) (by kernel_rfl) (by kernel_rfl) (by kernel_rfl) (by kernel_rfl) (by kernel_rfl) (fun _ _ _ h => h) (Or.inl ⟨by kernel_rfl, fun w hS => by obtain ⟨sc0, sc1, sc2, sc3, sc4, sc5, sc6, sc7, sc8, sc9, sc10, sc11, sc12, sc13⟩ := hS; go_simp⟩) hHeld ?_
  simp only [Act.put, zq1, zq2, zq3, zq4, zq5, zq6]
  refine Ru.wpAnyU_take (i := 3) (v := .slice (some xa) 6 xc) rfl (by kernel_rfl) (by kernel_rfl) (by kernel_rfl) (by kernel_rfl) (by kernel_rfl) (by kernel_rfl) (fun _ _ _ h => h) (Or.inl ⟨by kernel_rfl, fun w hS => by obtain ⟨sc0, sc1, sc2, sc3, sc4, sc5, sc6, sc7, sc8, sc9, sc10, sc11, sc12, sc13⟩ := hS; go_simp⟩) hHeld ?_
  simp only [Act.put, zq1, zq2, zq3, zq4, zq5, zq6]
  refine Ru.wpAnyU_take (i := 4) (v := .pointer (some xa)) rfl (by kernel_rfl) (by kernel_rfl) (by kernel_rfl) (by kernel_rfl) (by kernel_rfl) (by kernel_rfl) (fun _ _ _ h => h) (Or.inl ⟨by kernel_rfl, fun w hS => by obtain ⟨sc0, sc1, sc2, sc3, sc4, sc5, sc6, sc7, sc8, sc9, sc10, sc11, sc12, sc13⟩ := hS; go_simp⟩) hHeld ?_
  simp only [Act.put, zq1, zq2, zq3, zq4, zq5, zq6]
  refine Ru.wpAnyU_take (i := 5) (v := .int .i64 x0) rfl (by kernel_rfl) (by kernel_rfl) (by kernel_rfl) (by kernel_rfl) (by kernel_rfl) (by kernel_rfl) (fun _ _ _ h => h) (Or.inl ⟨by kernel_rfl, fun w hS => by obtain ⟨sc0, sc1, sc2, sc3, sc4, sc5, sc6, sc7, sc8, sc9, sc10, sc11, sc12, sc13⟩ := hS; go_simp⟩) hHeld ?_
  simp only [Act.put, zq1, zq2, zq3, zq4, zq5, zq6]
  refine Ru.wpAnyU_ready (rs := [6]) (by kernel_rfl) (by simp) ?_
  refine Ru.AllReadyU.cons rfl (by kernel_rfl) (fun K hK => ?_) Ru.AllReadyU.nil
  go_simp
  refine (HX.out _).mono ?_
  rintro _ w6 ⟨rfl, k6⟩
  have D6 := below_tr (below_tr D5 (Vc.below_drew' _)) k6
  go_wp2_with fail
  refine hK.out _ _ (HS.out _ D6) (fun hHeld => ?_)
  clear hK K
  try simp only [Act.put, zq1, zq2, zq3, zq4, zq5, zq6]
  refine Ru.wpAnyU_take (i := 7) (v := .tuple #[.int .i64 vx, .bool qx]) rfl (by kernel_rfl) (by kernel_rfl) (by kernel_rfl) (by kernel_rfl) (by kernel_rfl) (by kernel_rfl) (fun _ _ _ h => h) (Or.inl ⟨by kernel_rfl, fun w hS => by obtain ⟨sc0, sc1, sc2, sc3, sc4, sc5, sc6, sc7, sc8, sc9, sc10, sc11, sc12, sc13⟩ := hS; go_simp⟩) hHeld ?_
  simp only [Act.put, zq1, zq2, zq3, zq4, zq5, zq6]
  refine Ru.wpAnyU_take (i := 8) (v := .int .i64 vx) rfl (by kernel_rfl) (by kernel_rfl) (by kernel_rfl) (by kernel_rfl) (by kernel_rfl) (by kernel_rfl) (fun _ _ _ h => h) (Or.inl ⟨by kernel_rfl, fun w hS => by obtain ⟨sc0, sc1, sc2, sc3, sc4, sc5, sc6, sc7, sc8, sc9, sc10, sc11, sc12, sc13⟩ := hS; go_simp⟩) hHeld ?_
  simp only [Act.put, zq1, zq2, zq3, zq4, zq5, zq6]
  refine Ru.wpAnyU_take (i := 9) (v := .bool qx) rfl (by kernel_rfl) (by kernel_rfl) (by kernel_rfl) (by kernel_rfl) (by kernel_rfl) (by kernel_rfl) (fun _ _ _ h => h) (Or.inl ⟨by kernel_rfl, fun w hS => by obtain ⟨sc0, sc1, sc2, sc3, sc4, sc5, sc6, sc7, sc8, sc9, sc10, sc11, sc12, sc13⟩ := hS; go_simp⟩) hHeld ?_
  simp only [Act.put, zq1, zq2, zq3, zq4, zq5, zq6]
  refine Ru.wpAnyU_take (i := 10) (v := .int .i64 vx) rfl (by kernel_rfl) (by kernel_rfl) (by kernel_rfl) (by kernel_rfl) (by kernel_rfl) (by kernel_rfl) (fun _ _ _ h => h) (Or.inl ⟨by kernel_rfl, fun w hS => by obtain ⟨sc0, sc1, sc2, sc3, sc4, sc5, sc6, sc7, sc8, sc9, sc10, sc11, sc12, sc13⟩ := hS; go_simp⟩) hHeld ?_
  simp only [Act.put, zq1, zq2, zq3, zq4, zq5, zq6]
  refine Ru.wpAnyU_take (i := 11) (v := .bool qx) rfl (by kernel_rfl) (by kernel_rfl) (by kernel_rfl) (by kernel_rfl) (by kernel_rfl) (by kernel_rfl) (fun _ _ _ h => h) (Or.inl ⟨by kernel_rfl, fun w hS => by obtain ⟨sc0, sc1, sc2, sc3, sc4, sc5, sc6, sc7, sc8, sc9, sc10, sc11, sc12, sc13⟩ := hS; go_simp⟩) hHeld ?_
  simp only [Act.put, zq1, zq2, zq3, zq4, zq5, zq6]
  refine Ru.wpAnyU_done (by kernel_rfl) ?_
  go_upto_region 7 with fail
  refine Ru.wp_region_U [] (fun w' => w'.cell? ⟨w.heap.size, 0, none⟩ = some (.slice (some xa) 6 xc) ∧ w'.cell? ⟨w.heap.size, 1, none⟩ = some (.slice (some pa) 6 pc) ∧ w'.cell? pa = some (.slice (some ra) 6 rc) ∧ w'.cell? (pa.add 3) = some (.slice (some rb) 6 rd) ∧ w'.cell? ra = some (.int .i64 p00) ∧ w'.cell? (ra.add 3) = some (.int .i64 p03) ∧ w'.cell? (rb.add 3) = some (.int .i64 p33) ∧ w'.cell? xa = some (.int .i64 x0) ∧ w'.cell? (xa.add 3) = some (.int .i64 x3) ∧ w'.cell? ⟨w.heap.size + 1, 0, none⟩ = some (.int .i64 x) ∧ w'.cell? ⟨w.heap.size + 1, 1, none⟩ = some (.int .i64 y) ∧ w'.cell? ⟨w.heap.size + 1, 2, none⟩ = some (.int .i64 a) ∧ w'.cell? ⟨w.heap.size + 1, 3, none⟩ = some (.int .i64 b) ∧ w'.cell? ⟨w.heap.size + 1, 4, none⟩ = some (.int .i64 c)) (by kernel_rfl) (HS.out _ (below_tr D6 (Vc.below_drew' _))) (fun hHeld => ?_)
  refine Ru.wpAnyU_take (i := 0) (v := .pointer (some ⟨w.heap.size + 1, 1, none⟩)) rfl (by kernel_rfl) (by kernel_rfl) (by kernel_rfl) (by kernel_rfl) (by kernel_rfl) (by kernel_rfl) (fun _ _ _ h => h) (Or.inl ⟨by kernel_rfl, fun w hS => by obtain ⟨sc0, sc1, sc2, sc3, sc4, sc5, sc6, sc7, sc8, sc9, sc10, sc11, sc12, sc13⟩ := hS; go_simp⟩) hHeld ?_
  simp only [Act.put, zq1, zq2, zq3, zq4, zq5, zq6]
  refine Ru.wpAnyU_take (i := 1) (v := .int .i64 y) rfl (by kernel_rfl) (by kernel_rfl) (by kernel_rfl) (by kernel_rfl) (by kernel_rfl) (by kernel_rfl) (fun _ _ _ h => h) (Or.inl ⟨by kernel_rfl, fun w hS => by obtain ⟨sc0, sc1, sc2, sc3, sc4, sc5, sc6, sc7, sc8, sc9, sc10, sc11, sc12, sc13⟩ := hS; go_simp⟩) hHeld ?_
  simp only [Act.put, zq1, zq2, zq3, zq4, zq5, zq6]
  refine Ru.wpAnyU_take (i := 2) (v := .pointer (some ⟨w.heap.size, 0, none⟩)) rfl (by kernel_rfl) (by kernel_rfl) (by kernel_rfl) (by kernel_rfl) (by kernel_rfl) (by kernel_rfl) (fun _ _ _ h => h) (Or.inl ⟨by kernel_rfl, fun w hS => by obtain ⟨sc0, sc1, sc2, sc3, sc4, sc5, sc6, sc7, sc8, sc9, sc10, sc11, sc12, sc13⟩ := hS; go_simp⟩) hHeld ?_
  simp only [Act.put, zq1, zq2, zq3, zq4, zq5, zq6]
  refine Ru.wpAnyU_take (i := 3) (v := .slice (some xa) 6 xc) rfl (by kernel_rfl) (by kernel_rfl) (by kernel_rfl) (by kernel_rfl) (by kernel_rfl) (by kernel_rfl) (fun _ _ _ h => h) (Or.inl ⟨by kernel_rfl, fun w hS => by obtain ⟨sc0, sc1, sc2, sc3, sc4, sc5, sc6, sc7, sc8, sc9, sc10, sc11, sc12, sc13⟩ := hS; go_simp⟩) hHeld ?_
  simp only [Act.put, zq1, zq2, zq3, zq4, zq5, zq6]
  refine Ru.wpAnyU_take (i := 4) (v := .pointer (some (xa.add 3))) rfl (by kernel_rfl) (by kernel_rfl) (by kernel_rfl) (by kernel_rfl) (by kernel_rfl) (by kernel_rfl) (fun _ _ _ h => h) (Or.inl ⟨by kernel_rfl, fun w hS => by obtain ⟨sc0, sc1, sc2, sc3, sc4, sc5, sc6, sc7, sc8, sc9, sc10, sc11, sc12, sc13⟩ := hS; go_simp⟩) hHeld ?_
  simp only [Act.put, zq1, zq2, zq3, zq4, zq5, zq6]
  refine Ru.wpAnyU_take (i := 5) (v := .int .i64 x3) rfl (by kernel_rfl) (by kernel_rfl) (by kernel_rfl) (by kernel_rfl) (by kernel_rfl) (by kernel_rfl) (fun _ _ _ h => h) (Ud.yieldsI (by kernel_rfl) _ (by rfl) (xa.add 3) _ (by rfl) (fun w h => h.2.2.2.2.2.2.2.2.1)) hHeld ?_
  simp only [Act.put, zq1, zq2, zq3, zq4, zq5, zq6]
  refine Ru.wpAnyU_ready (rs := [6]) (by kernel_rfl) (by simp) ?_
  refine Ru.AllReadyU.cons rfl (by kernel_rfl) (fun K hK => ?_) Ru.AllReadyU.nil
  go_simp
  refine (HY.out _).mono ?_
  rintro _ w7 ⟨rfl, k7⟩
  have D7 := below_tr (below_tr D6 (Vc.below_drew' _)) k7
  go_wp2_with fail
  refine hK.out _ _ (HS.out _ D7) (fun hHeld => ?_)
  clear hK K
  try simp only [Act.put, zq1, zq2, zq3, zq4, zq5, zq6]
  refine Ru.wpAnyU_take (i := 7) (v := .tuple #[.int .i64 vy, .bool qy]) rfl (by kernel_rfl) (by kernel_rfl) (by kernel_rfl) (by kernel_rfl) (by kernel_rfl) (by kernel_rfl) (fun _ _ _ h => h) (Or.inl ⟨by kernel_rfl, fun w hS => by obtain ⟨sc0, sc1, sc2, sc3, sc4, sc5, sc6, sc7, sc8, sc9, sc10, sc11, sc12, sc13⟩ := hS; go_simp⟩) hHeld ?_
  simp only [Act.put, zq1, zq2, zq3, zq4, zq5, zq6]
  refine Ru.wpAnyU_take (i := 8) (v := .int .i64 vy) rfl (by kernel_rfl) (by kernel_rfl) (by kernel_rfl) (by kernel_rfl) (by kernel_rfl) (by kernel_rfl) (fun _ _ _ h => h) (Or.inl ⟨by kernel_rfl, fun w hS => by obtain ⟨sc0, sc1, sc2, sc3, sc4, sc5, sc6, sc7, sc8, sc9, sc10, sc11, sc12, sc13⟩ := hS; go_simp⟩) hHeld ?_
  simp only [Act.put, zq1, zq2, zq3, zq4, zq5, zq6]
  refine Ru.wpAnyU_take (i := 9) (v := .bool qy) rfl (by kernel_rfl) (by kernel_rfl) (by kernel_rfl) (by kernel_rfl) (by kernel_rfl) (by kernel_rfl) (fun _ _ _ h => h) (Or.inl ⟨by kernel_rfl, fun w hS => by obtain ⟨sc0, sc1, sc2, sc3, sc4, sc5, sc6, sc7, sc8, sc9, sc10, sc11, sc12, sc13⟩ := hS; go_simp⟩) hHeld ?_
  simp only [Act.put, zq1, zq2, zq3, zq4, zq5, zq6]
  refine Ru.wpAnyU_take (i := 10) (v := .int .i64 vy) rfl (by kernel_rfl) (by kernel_rfl) (by kernel_rfl) (by kernel_rfl) (by kernel_rfl) (by kernel_rfl) (fun _ _ _ h => h) (Or.inl ⟨by kernel_rfl, fun w hS => by obtain ⟨sc0, sc1, sc2, sc3, sc4, sc5, sc6, sc7, sc8, sc9, sc10, sc11, sc12, sc13⟩ := hS; go_simp⟩) hHeld ?_
  simp only [Act.put, zq1, zq2, zq3, zq4, zq5, zq6]
  refine Ru.wpAnyU_take (i := 11) (v := .bool qy) rfl (by kernel_rfl) (by kernel_rfl) (by kernel_rfl) (by kernel_rfl) (by kernel_rfl) (by kernel_rfl) (fun _ _ _ h => h) (Or.inl ⟨by kernel_rfl, fun w hS => by obtain ⟨sc0, sc1, sc2, sc3, sc4, sc5, sc6, sc7, sc8, sc9, sc10, sc11, sc12, sc13⟩ := hS; go_simp⟩) hHeld ?_
  simp only [Act.put, zq1, zq2, zq3, zq4, zq5, zq6]
  refine Ru.wpAnyU_done (by kernel_rfl) ?_
  have x1 : CRow (w7.alloc (.cells #[.int .i64 va, .int .i64 vb] 2)) w7.heap.size 2 (vals 2 (v2 va vb)) := crow_new w7 2 (vals 2 (v2 va vb))
  have x2 : CRow ((w7.alloc (.cells #[.int .i64 va, .int .i64 vb] 2)).alloc (.cells #[.int .i64 vb, .int .i64 vc] 2)) (w7.heap.size + 1) 2 (vals 2 (v2 vb vc)) := crow_new1 w7 (.cells #[.int .i64 va, .int .i64 vb] 2) 2 (vals 2 (v2 vb vc))
  have x3 : CRow (((w7.alloc (.cells #[.int .i64 va, .int .i64 vb] 2)).alloc (.cells #[.int .i64 vb, .int .i64 vc] 2)).alloc (.cells #[.slice (some ⟨w7.heap.size, 0, none⟩) 2 2, .slice (some ⟨w7.heap.size + 1, 0, none⟩) 2 2] 22)) (w7.heap.size + 1 + 1) 22 [.slice (some ⟨w7.heap.size, 0, none⟩) 2 2, .slice (some ⟨w7.heap.size + 1, 0, none⟩) 2 2] := crow_new2 w7 (.cells #[.int .i64 va, .int .i64 vb] 2) (.cells #[.int .i64 vb, .int .i64 vc] 2) 22 _
  have g8 := grid2 x3 ((x1.alloc (.cells #[.int .i64 vb, .int .i64 vc] 2)).alloc (.cells #[.slice (some ⟨w7.heap.size, 0, none⟩) 2 2, .slice (some ⟨w7.heap.size + 1, 0, none⟩) 2 2] 22)) (x2.alloc (.cells #[.slice (some ⟨w7.heap.size, 0, none⟩) 2 2, .slice (some ⟨w7.heap.size + 1, 0, none⟩) 2 2] 22))
  have g8' : Grid (((w7.alloc (.cells #[.int .i64 va, .int .i64 vb] 2)).alloc (.cells #[.int .i64 vb, .int .i64 vc] 2)).alloc (.cells #[.slice (some ⟨w7.heap.size, 0, none⟩) 2 2, .slice (some ⟨w7.heap.size + 1, 0, none⟩) 2 2] 22)) (some ⟨w7.heap.size + 1 + 1, 0, none⟩) 2 2 2 Mx := g8.congr (fun i j hi hj => by rw [eM.out]; exact g2_rows va vb vc i j hi hj)
  have K8 : Below w7.heap.size w7 (((w7.alloc (.cells #[.int .i64 va, .int .i64 vb] 2)).alloc (.cells #[.int .i64 vb, .int .i64 vc] 2)).alloc (.cells #[.slice (some ⟨w7.heap.size, 0, none⟩) 2 2, .slice (some ⟨w7.heap.size + 1, 0, none⟩) 2 2] 22)) := below_al (below_al (below_al (Below.refl _ _) _) _) _
  have HG8 := hide g8'
  clear x1 x2 x3 g8 g8'
  go_wp2_with fail
  refine (HF.out _ _ _ HG8.out).mono ?_
  rintro e w8 ⟨hcase, k8⟩
  have D8 := below_tr (below_tr D7 K8) k8
  clear k8 K8 HG8 HF
  rcases hcase with ⟨hn, _⟩ | ⟨_, hnf, rfl⟩ | ⟨_, hf, lo, cl, do', cd, rfl, gL, sD⟩
  · exact absurd HSm.out hn
  · have HNF := hide hnf
    clear hnf
    go_wp2_with (first
      | (refine St.wpList_storeNew isFac rfl _ _ (by rfl) _ [.slice none 0 0, .slice none 0 0] [.slice none 0 0, .slice none 0 0] (by rfl) (by rfl) rfl rfl (by intro v hv; simp only [List.mem_cons, List.not_mem_nil, or_false] at hv; rcases hv with rfl | rfl <;> rfl) ?_; intro w9 f9 k9; have D9 := below_tr D8 k9; have r9 := HR.out _ D9)
      | (refine St.wpList_store isGap rfl _ _ (by rfl) _ _ [.slice none 0 0, .slice none 0 0, .slice none 0 0] (by rfl) (by rfl) (by with_reducible exact r9) rfl rfl (by intro v hv; simp only [List.mem_cons, List.not_mem_nil, or_false] at hv; rcases hv with rfl | rfl | rfl <;> rfl) ?_)
      | fail)
    exact bodyPost_ret (results_3 isGap Tryz.results9 _ _ (w.heap.size + 1 + 1) _ rfl (CRow.row r9 _) rfl) rfl ⟨Or.inl ⟨HNF.out, rfl⟩, St.below_row (below_tr B0 D9) (by omega) _⟩
  · have HFi := hide hf
    have HGL := hide gL
    have HSD := hide sD
    clear hf gL sD
    go_upto_region 11 with (first
      | (refine St.wpList_storeNew isFac rfl _ _ (by rfl) _ [.slice none 0 0, .slice none 0 0] [.slice lo 2 cl, .slice do' 2 cd] (by rfl) (by rfl) rfl rfl (by intro v hv; simp only [List.mem_cons, List.not_mem_nil, or_false] at hv; rcases hv with rfl | rfl <;> rfl) ?_; intro w9 f9 k9; have D9 := below_tr D8 k9; have r9 := HR.out _ D9)
      | fail)
    have v0 : CRow (w9.alloc (.cells #[.int .i64 vx, .int .i64 vy] 2)) w9.heap.size 2 (vals 2 (v2 vx vy)) := crow_new w9 2 (vals 2 (v2 vx vy))
    have k10 := below_al (Below.refl _ w9) (.cells #[.int .i64 vx, .int .i64 vy] 2)
    obtain ⟨wv, hwv⟩ : ∃ W, W = w9.alloc (.cells #[.int .i64 vx, .int .i64 vy] 2) := ⟨_, rfl⟩
    rw [← hwv] at v0 k10
    have HV := hide hwv
    have f10 := CRow.keep f9 k10
    have D10 := below_tr D9 k10
    have r10 := HR.out _ D10
    have sV := crow_sl v0 (by omega)
    have gE := (HGL.out.keep k9).keep k10
    have sE := (HSD.out.keep k9).keep k10
    have lt1 := CRow.lt r10
    have lt2 := CRow.lt v0
    clear hwv f9 k9 k10 D9 r9 HGL HSD
    have nI : ∀ z, Value.int .i64 z ∉ ([.slice none 0 0, .slice none 0 0, .slice none 0 0] : List Value) := fun z h => by simp at h
    have nL : ∀ q c, Value.slice q 2 c ∉ ([.slice none 0 0, .slice none 0 0, .slice none 0 0] : List Value) := fun q c h => by simp at h
    have kE := but_row wv (w.heap.size + 1 + 1) ([.slice (some ⟨w9.heap.size, 0, none⟩) 2 2, .slice lo 2 cl, .slice do' 2 cd] : List Value).toArray
    have sV' := sl_keep r10 nI sV (by omega) kE
    have gE' := grid_keep r10 nI nL gE (by omega) kE
    have sE' := sl_keep r10 nI sE (by omega) kE
    have rE := CRow.row r10 [.slice (some ⟨w9.heap.size, 0, none⟩) 2 2, .slice lo 2 cl, .slice do' 2 cd]
    have BE := St.below_row (below_tr B0 D10) (g := w.heap.size + 1 + 1) (by omega) ([.slice (some ⟨w9.heap.size, 0, none⟩) 2 2, .slice lo 2 cl, .slice do' 2 cd] : List Value).toArray
    clear nI nL kE sV gE sE lt1 lt2
    cases qa with
    | true =>
      go_wp2_with (first
        | (rw [← HV.out])
        | (refine St.wpList_load isFac (by rfl) _ (by rfl) _ _ (by rfl) (by with_reducible exact f10) rfl ?_)
        | (refine Ud.buildGap _ _ (by with_reducible rfl) _ _ _ _ _ _ _ _ _ (by rfl) (by rfl) (by kernel_rfl) ?_)
        | (refine St.wpList_store isGap rfl _ _ (by rfl) _ _ [.slice (some ⟨w9.heap.size, 0, none⟩) 2 2, .slice lo 2 cl, .slice do' 2 cd] (by rfl) (by rfl) (by with_reducible exact r10) rfl rfl (by intro v hv; simp only [List.mem_cons, List.not_mem_nil, or_false] at hv; rcases hv with rfl | rfl | rfl <;> rfl) ?_)
        | fail)
      exact bodyPost_ret (results_3 isGap Tryz.results9 _ _ (w.heap.size + 1 + 1) _ rfl rE rfl) rfl ⟨Or.inr ⟨HFi.out, _, _, _, _, _, rfl, sV', gE', sE'⟩, BE⟩
    | false =>
      cases qb with
      | true =>
        go_wp2_with (first
          | (rw [← HV.out])
          | (refine St.wpList_load isFac (by rfl) _ (by rfl) _ _ (by rfl) (by with_reducible exact f10) rfl ?_)
          | (refine Ud.buildGap _ _ (by with_reducible rfl) _ _ _ _ _ _ _ _ _ (by rfl) (by rfl) (by kernel_rfl) ?_)
          | (refine St.wpList_store isGap rfl _ _ (by rfl) _ _ [.slice (some ⟨w9.heap.size, 0, none⟩) 2 2, .slice lo 2 cl, .slice do' 2 cd] (by rfl) (by rfl) (by with_reducible exact r10) rfl rfl (by intro v hv; simp only [List.mem_cons, List.not_mem_nil, or_false] at hv; rcases hv with rfl | rfl | rfl <;> rfl) ?_)
          | fail)
        exact bodyPost_ret (results_3 isGap Tryz.results9 _ _ (w.heap.size + 1 + 1) _ rfl rE rfl) rfl ⟨Or.inr ⟨HFi.out, _, _, _, _, _, rfl, sV', gE', sE'⟩, BE⟩
      | false =>
        cases qc with
        | true =>
          go_wp2_with (first
            | (rw [← HV.out])
            | (refine St.wpList_load isFac (by rfl) _ (by rfl) _ _ (by rfl) (by with_reducible exact f10) rfl ?_)
            | (refine Ud.buildGap _ _ (by with_reducible rfl) _ _ _ _ _ _ _ _ _ (by rfl) (by rfl) (by kernel_rfl) ?_)
            | (refine St.wpList_store isGap rfl _ _ (by rfl) _ _ [.slice (some ⟨w9.heap.size, 0, none⟩) 2 2, .slice lo 2 cl, .slice do' 2 cd] (by rfl) (by rfl) (by with_reducible exact r10) rfl rfl (by intro v hv; simp only [List.mem_cons, List.not_mem_nil, or_false] at hv; rcases hv with rfl | rfl | rfl <;> rfl) ?_)
            | fail)
          exact bodyPost_ret (results_3 isGap Tryz.results9 _ _ (w.heap.size + 1 + 1) _ rfl rE rfl) rfl ⟨Or.inr ⟨HFi.out, _, _, _, _, _, rfl, sV', gE', sE'⟩, BE⟩
        | false =>
          cases qx with
          | true =>
            go_wp2_with (first
              | (rw [← HV.out])
              | (refine St.wpList_load isFac (by rfl) _ (by rfl) _ _ (by rfl) (by with_reducible exact f10) rfl ?_)
              | (refine Ud.buildGap _ _ (by with_reducible rfl) _ _ _ _ _ _ _ _ _ (by rfl) (by rfl) (by kernel_rfl) ?_)
              | (refine St.wpList_store isGap rfl _ _ (by rfl) _ _ [.slice (some ⟨w9.heap.size, 0, none⟩) 2 2, .slice lo 2 cl, .slice do' 2 cd] (by rfl) (by rfl) (by with_reducible exact r10) rfl rfl (by intro v hv; simp only [List.mem_cons, List.not_mem_nil, or_false] at hv; rcases hv with rfl | rfl | rfl <;> rfl) ?_)
              | fail)
            exact bodyPost_ret (results_3 isGap Tryz.results9 _ _ (w.heap.size + 1 + 1) _ rfl rE rfl) rfl ⟨Or.inr ⟨HFi.out, _, _, _, _, _, rfl, sV', gE', sE'⟩, BE⟩
          | false =>
            go_wp2_with (first
              | (rw [← HV.out])
              | (refine St.wpList_load isFac (by rfl) _ (by rfl) _ _ (by rfl) (by with_reducible exact f10) rfl ?_)
              | (refine Ud.buildGap _ _ (by with_reducible rfl) _ _ _ _ _ _ _ _ _ (by rfl) (by rfl) (by kernel_rfl) ?_)
              | (refine St.wpList_store isGap rfl _ _ (by rfl) _ _ [.slice (some ⟨w9.heap.size, 0, none⟩) 2 2, .slice lo 2 cl, .slice do' 2 cd] (by rfl) (by rfl) (by with_reducible exact r10) rfl rfl (by intro v hv; simp only [List.mem_cons, List.not_mem_nil, or_false] at hv; rcases hv with rfl | rfl | rfl <;> rfl) ?_)
              | fail)
            exact bodyPost_ret (results_3 isGap Tryz.results9 _ _ (w.heap.size + 1 + 1) _ rfl rE rfl) rfl ⟨Or.inr ⟨HFi.out, _, _, _, _, _, rfl, sV', gE', sE'⟩, BE⟩
end Go.Proofs.YtlomfjacgomhdaaGreatDoor
namespace Go.Proofs.YtlomfjacgomhdaaGreatDoor
open Go.RowKit Vc Mt St Qn Dt Dec Ld
namespace Ld
theorem anyb_back (g : Nat → Bool) (n : Nat) : anyb (fun s => g (n - 1 - s)) n = anyb g n := by
  cases e : anyb g n with
  | false => exact anyb_false.2 fun k hk => anyb_false.1 e _ (by omega)
  | true =>
    cases e2 : anyb (fun s => g (n - 1 - s)) n with
    | true => rfl
    | false =>
      have : anyb g n = false := anyb_false.2 fun k hk => by
        have := anyb_false.1 e2 (n - 1 - k) (by omega)
        rwa [show n - 1 - (n - 1 - k) = k by omega] at this
      rw [this] at e; cases e
end Ld
set_option maxRecDepth 10000 in
set_option maxHeartbeats 4000000 in
theorem dsolve_own (n cl cd vc : Nat) (lo do' vo : Option Addr) (L : Nat → Nat → Int) (d v : Nat → Int) (w : World) (h1 : 1 ≤ n) (hn : n ≤ 6) (hL : Grid w lo n cl n L) (hd : Sl w do' n cd d) (hv : Sl w vo n vc v) (bL : ∀ a, B64 (L a)) (bd : ∀ k, k < n → 1 ≤ d k ∧ d k ≤ 4611686018427387903) (bv : B64 v) :
    Calls Tryz.prog 39 #[.agg #[.slice lo n cl, .slice do' n cd], .slice vo n vc] w fun e w' => ∃ b, e = .returned (.tuple #[.slice (some ⟨b, 0, none⟩) n n, .bool (solO n L d v)]) ∧ w.heap.size ≤ b ∧ Sl w' (some ⟨b, 0, none⟩) n n (solV n L d v) ∧ Below w.heap.size w w' := by
  have HDn := Hid.mkV (fun W (H1 : Grid W lo n cl n L) (H2 : Sl W do' n cd d) (H3 : Sl W vo n vc v) => ddown_any n cl cd vc lo do' vo L d v W h1 hn H1 H2 H3 bL bd bv)
  have HL := Hid.mkV hL
  have HDs := Hid.mkV hd
  have HVs := Hid.mkV hv
  obtain ⟨A, C, hs, hg⟩ := hL
  obtain ⟨xl, hlo, hlc⟩ := hs.get
  obtain ⟨xd, hdo, hdc⟩ := hd.get
  obtain rfl := hlo (by omega)
  obtain rfl := hdo (by omega)
  have l1 := hs.le
  have l2 := hs.cap
  have l3 := hd.le
  have l4 := hd.cap
  have HLC := Hid.mkV hlc
  have HDC := Hid.mkV hdc
  have HGr := Hid.mkV hg
  have cG0 : (w.alloc (.cells #[.slice (some xl) n cl, .slice (some xd) n cd] 49)).cell? ⟨w.heap.size, 0, none⟩ = some (.slice (some xl) n cl) := by go_simp
  have cG1 : (w.alloc (.cells #[.slice (some xl) n cl, .slice (some xd) n cd] 49)).cell? ⟨w.heap.size, 1, none⟩ = some (.slice (some xd) n cd) := by go_simp
  have rG : GRow (w.alloc (.cells #[.slice (some xl) n cl, .slice (some xd) n cd] 49)) w.heap.size (.slice (some xl) n cl) (.slice (some xd) n cd) := crow_new w _ _
  have hB := below_al (Below.refl _ w) (.cells #[.slice (some xl) n cl, .slice (some xd) n cd] 49)
  obtain ⟨W, hW⟩ : ∃ W, W = w.alloc (.cells #[.slice (some xl) n cl, .slice (some xd) n cd] 49) := ⟨_, rfl⟩
  rw [← hW] at cG0 cG1 hB rG
  have HW := Hid.mkV hW
  clear hW
  have by' := downV_bd L v n
  have l9 := hv.le
  have l10 := hv.cap
  obtain ⟨y, hy⟩ : ∃ y, y = downV L v n := ⟨_, rfl⟩
  have eV : Hid (solV n L d v = upV L (byV y d) n n) := by rw [hy]; rfl
  have eO : Hid (solO n L d v = (downO L v n || (anyb (fun s => byO y d (n - 1 - s)) n || upO L (byV y d) n n))) := by
    show solO n L d v = _
    rw [anyb_back, hy]; rfl
  rw [← hy] at HDn by'
  have HQ := Hid.mkV (fun k (hk : k < n) W => ldiv_any (y k) (d k) 20 W (by have := by' k; omega) (by have := by' k; omega) (by have := bd k hk; omega) (by have := bd k hk; omega) (by have := bd k hk; omega) (by omega))
  have eQ : Hid (∀ k, signed (y k) (d k) (clamp (rne (((y k).natAbs : Int) * 2 ^ 20) ((d k).natAbs : Int))) = byV y d k ∧ great (rne (((y k).natAbs : Int) * 2 ^ 20) ((d k).natAbs : Int)) = byO y d k) := fun k => ⟨rfl, rfl⟩
  have bz : ∀ t, B64 (upV L (byV y d) n t) := fun t => b64_of (upV_bd L (byV_bd _ _) n t)
  have HS := Hid.mkV (fun t (ht : t < n) i (ao bo : Option Addr) (ca cb : Nat) W (H1 : Sl W ao t ca (fun j => L (i + 1 + j) i)) (H2 : Sl W bo t cb (fun j => upV L (byV y d) n t (i + 1 + j))) => ddot_sl ao bo t ca cb _ _ 30 30 W rfl (by omega) H1 H2 (fun k => bL _ _) (fun k => bz t _) (by omega))
  have HM := Hid.mkV (fun t i W => dless_any (byV y d i) (sumV (fun j => L (i + 1 + j) i) (fun j => upV L (byV y d) n t (i + 1 + j)) t) W (by have := byV_bd y d i; omega) (by have := byV_bd y d i; omega) (by have := sumV_bd (fun j => L (i + 1 + j) i) (fun j => upV L (byV y d) n t (i + 1 + j)) t; omega) (by have := sumV_bd (fun j => L (i + 1 + j) i) (fun j => upV L (byV y d) n t (i + 1 + j)) t; omega))
  have eS : Hid (∀ t i, clamp (rne (dk (fun j => L (i + 1 + j) i) (fun j => upV L (byV y d) n t (i + 1 + j)) t) (2 ^ 30)) = sumV (fun j => L (i + 1 + j) i) (fun j => upV L (byV y d) n t (i + 1 + j)) t ∧ great (rne (dk (fun j => L (i + 1 + j) i) (fun j => upV L (byV y d) n t (i + 1 + j)) t) (2 ^ 30)) = sumO (fun j => L (i + 1 + j) i) (fun j => upV L (byV y d) n t (i + 1 + j)) t ∧
      clamp (byV y d i - sumV (fun j => L (i + 1 + j) i) (fun j => upV L (byV y d) n t (i + 1 + j)) t) = lessV (byV y d i) (fun j => L (i + 1 + j) i) (fun j => upV L (byV y d) n t (i + 1 + j)) t) := fun t i => ⟨rfl, rfl, rfl⟩
  obtain ⟨X, hX⟩ : ∃ X, X = solV n L d v := ⟨_, rfl⟩
  obtain ⟨O, hO⟩ : ∃ O, O = solO n L d v := ⟨_, rfl⟩
  rw [← hX] at eV ⊢
  rw [← hO] at eO ⊢
  obtain ⟨i0, hi, hz0, hz1, hz2⟩ := info_parts infoI64
  clear hs hg hd hlo hdo hlc hdc hv bL bd bv hy by' bz hX hO
  go_enter Tryz.func39, Tryz.ntmps39
  go_wp2_with (first
    | (rw [← HW.out]; refine St.wpList_load isG (by rfl) _ (by rfl) _ _ (by rfl) (by with_reducible exact rG) rfl ?_)
    | fail)
  refine (HDn.out _ (HL.out.keep hB) (HDs.out.keep hB) (HVs.out.keep hB)).mono ?_
  rintro e w1 ⟨yo, yc, rfl, ys, k1⟩
  have B1 := below_tr hB k1
  have G0 := keep_cell k1 cG0
  have G1 := keep_cell k1 cG1
  obtain ⟨xy, hyo, hyc⟩ := ys.get
  obtain rfl := hyo (by omega)
  have l5 := ys.le
  have l6 := ys.cap
  have HYC := Hid.mkV hyc
  obtain ⟨g, hg⟩ : ∃ g, g = w.heap.size := ⟨_, rfl⟩
  rw [← hg] at G0 G1
  rw [← hg]
  clear HDn HL HDs HVs rG cG0 cG1 hyo hyc ys k1 hg
  go_wp2_with (at_make; refine wpList_make_full _ rfl _ _ 22 rfl w1.heap.size 2 i0 (.int .i64 0) 1 Tryz.underlying22 hi hz0 hz1 _ _ _ _ n rfl rfl (by omega) (by omega) (by rw [hz2]; omega) (by unfold maxLen; omega) (Nat.le_refl _) ?_)
  intro w2 hown2 hgrow2
  have hO2 := own_made hown2 hgrow2 (Nat.le_refl _)
  have N2 : NRow w2 w1.heap.size n (fun _ => 0) := own_whole hO2
  have k2 := hO2.below
  obtain ⟨b, hb⟩ : ∃ b, b = w1.heap.size := ⟨_, rfl⟩
  rw [← hb] at N2
  have hbw : w1.heap.size ≤ b := by omega
  have hbw2 : w.heap.size ≤ b := by have := B1.size; omega
  rw [← hb]
  have wn : IntKind.i64.wrap ((n : Int) - 1) = (n : Int) - 1 := by rw [IntKind.wrap_i64]; omega
  clear hown2 hgrow2 hO2 hb
  go_wp2
  go_loopw [7, 10] (fun an ix wr => ∃ t : Nat, ∃ j : Int, t ≤ n ∧ ix = .int .i64 j ∧ Hid (j = (n : Int) - 1 - (t : Int)) ∧ an = .bool (downO L v n || (anyb (fun s => byO y d (n - 1 - s)) t || upO L (byV y d) n t)) ∧ (∃ Z, NRow wr b n Z ∧ Hid (∀ k, n - t ≤ k → k < n → Z k = upV L (byV y d) n t k)) ∧ Below w1.heap.size w1 wr) (fun _ ix _ => (intOf ix + 1).toNat)
  case atStart => exact ⟨0, (n : Int) - 1, by omega, by first | rfl | go_num, by show (n : Int) - 1 = (n : Int) - 1 - ((0 : Nat) : Int); omega, by show _ = Value.bool (downO L v n || (false || false)); simp, ⟨_, N2, fun k h1 h2 => by omega⟩, k2⟩
  case round =>
    rename World => wo
    obtain ⟨t, j, ht, rfl, hj, rfl, ⟨Z, nr, hZ⟩, br⟩ := hrel
    by_cases h : t < n
    · obtain ⟨i, rfl⟩ : ∃ i : Nat, j = (i : Int) := ⟨j.toNat, by have := hj.out; omega⟩
      have hik : n = i + 1 + t := by have := hj.out; omega
      have hin : i < n := by omega
      have c1 := keep_cell br (HYC.out i hin)
      have c2 := keep_cell br G1
      have c3 := keep_cell (below_tr B1 br) (HDC.out i hin)
      have C0 := keep_cell br G0
      have HQk := HQ.out i hin
      rw [(eQ.out i).1, (eQ.out i).2] at HQk
      have HQh := Hid.mkV HQk
      have HSk := HS.out t h i
      rw [(eS.out t i).1, (eS.out t i).2.1] at HSk
      have HMk := HM.out t i
      rw [(eS.out t i).2.2] at HMk
      have HSh := Hid.mkV HSk
      have HMh := Hid.mkV HMk
      have e1 : n - t = i + 1 := by omega
      have e2 : n - 1 - t = i := by omega
      have e3 : Hid (∀ q, upV L (byV y d) n (t + 1) q = if q = i then lessV (byV y d i) (fun j => L (i + 1 + j) i) (fun j => upV L (byV y d) n t (i + 1 + j)) t else upV L (byV y d) n t q) := fun q => by
        show (if q = n - 1 - t then lessV (byV y d (n - 1 - t)) (fun j => L (n - t + j) (n - 1 - t)) (fun j => upV L (byV y d) n t (n - t + j)) t else upV L (byV y d) n t q) = _
        rw [e1, e2]
      have e4 : Hid ((downO L v n || (anyb (fun s => byO y d (n - 1 - s)) (t + 1) || upO L (byV y d) n (t + 1))) = ((downO L v n || (anyb (fun s => byO y d (n - 1 - s)) t || upO L (byV y d) n t)) || (byO y d i || (sumO (fun j => L (i + 1 + j) i) (fun j => upV L (byV y d) n t (i + 1 + j)) t || great (byV y d i - sumV (fun j => L (i + 1 + j) i) (fun j => upV L (byV y d) n t (i + 1 + j)) t))))) := by
        show (downO L v n || ((anyb (fun s => byO y d (n - 1 - s)) t || byO y d (n - 1 - t)) || (upO L (byV y d) n t || lessO (byV y d (n - 1 - t)) (fun j => L (n - t + j) (n - 1 - t)) (fun j => upV L (byV y d) n t (n - t + j)) t))) = _
        rw [e1, e2]
        unfold lessO
        generalize downO L v n = a1
        generalize anyb (fun s => byO y d (n - 1 - s)) t = a2
        generalize byO y d i = a3
        generalize upO L (byV y d) n t = a4
        cases a1 <;> cases a2 <;> cases a3 <;> cases a4 <;> simp
      have HZ2 : Hid (∀ q, i + 1 ≤ q → q < n → Z q = upV L (byV y d) n t q) := fun q h1 h2 => hZ.out q (by omega) h2
      obtain ⟨U, hU⟩ : ∃ U, U = upV L (byV y d) n t := ⟨_, rfl⟩
      obtain ⟨zl, hzl⟩ : ∃ z : Nat → Int, z = fun j => L (i + 1 + j) i := ⟨_, rfl⟩
      obtain ⟨zr, hzr⟩ : ∃ z : Nat → Int, z = fun j => upV L (byV y d) n t (i + 1 + j) := ⟨_, rfl⟩
      rw [← hzl, ← hzr] at HSh HMh e3 e4
      obtain ⟨SV, hSV⟩ : ∃ q, q = sumV zl zr t := ⟨_, rfl⟩
      obtain ⟨SO, hSO⟩ : ∃ q, q = sumO zl zr t := ⟨_, rfl⟩
      rw [← hSV] at HSh HMh e4
      rw [← hSO] at HSh e4
      obtain ⟨LV, hLV⟩ : ∃ q, q = lessV (byV y d i) zl zr t := ⟨_, rfl⟩
      rw [← hLV] at HMh e3
      obtain ⟨GO, hGO⟩ : ∃ q, q = great (byV y d i - SV) := ⟨_, rfl⟩
      rw [← hGO] at HMh e4
      obtain ⟨D, hD⟩ : ∃ q, q = byV y d i := ⟨_, rfl⟩
      obtain ⟨o, ho⟩ : ∃ q, q = byO y d i := ⟨_, rfl⟩
      rw [← hD] at HQh HMh
      rw [← ho] at HQh e4
      obtain ⟨T, hT⟩ : ∃ T, T = (downO L v n || (anyb (fun s => byO y d (n - 1 - s)) t || upO L (byV y d) n t)) := ⟨_, rfl⟩
      rw [← hT] at e4 ⊢
      obtain ⟨yi, hyi⟩ : ∃ q, q = y i := ⟨_, rfl⟩
      obtain ⟨di, hdi⟩ : ∃ q, q = d i := ⟨_, rfl⟩
      rw [← hyi] at HQh c1
      rw [← hdi] at HQh c3
      have HZL := Hid.mkV hzl
      have HZR := Hid.mkV hzr
      have Hik := Hid.mkV hik
      have hit : i + 1 + t = n := by omega
      have HIT := Hid.mkV hit
      have ii0 : (0 : Int) ≤ (i : Int) := by omega
      have ii1 : (i : Int) < (n : Int) := by omega
      have w1' : IntKind.i64.wrap ((i : Int) + 1) = (i : Int) + 1 := by rw [IntKind.wrap_i64]; omega
      have w2' : IntKind.i64.wrap ((i : Int) - 1) = (i : Int) - 1 := by rw [IntKind.wrap_i64]; omega
      clear hU hzl hzr hSV hSO hLV hGO hD ho hT hyi hdi HQk HSk HMk hik hit e1 e2 hZ HQ eQ HS HM eS
      go_wp2
      go_quiet (first | (go_at_call 70; refine Calls.quiet_of_same (HQh.out _)))
      have nra : NRow (wo.drewN nq) b n Z := nr
      have bra := Vc.below_drewN br nq
      have C0a : (wo.drewN nq).cell? ⟨g, 0, none⟩ = some (.slice (some xl) n cl) := C0
      obtain ⟨wa, hwa⟩ : ∃ W, W = wo.drewN nq := ⟨_, rfl⟩
      rw [← hwa] at nra bra C0a ⊢
      clear hwa nr br C0 c1 c2 c3
      go_wp2
      go_loopw [13, 14, 15] (fun vx vy jx ws => ∃ c : Nat, c ≤ t ∧ jx = .int .i64 ((i : Int) + 1 + (c : Int)) ∧ Two wa.heap.size wa ws vx c zl vy c zr) (fun _ _ jx _ => n - (intOf jx).toNat)
      case atStart => exact ⟨0, by omega, by simp, ⟨Own.nil (Below.refl _ _) (Nat.le_refl _) _, Own.nil (Below.refl _ _) (Nat.le_refl _) _, fun g h => by cases h⟩⟩
      case round =>
        rename World => wq
        obtain ⟨c, hc, rfl, hT⟩ := hrel
        have hit := HIT.out
        by_cases h3 : c < t
        · have C1 := keep_cell (below_tr B1 bra) (HLC.out (i + 1 + c) (by omega))
          have rk := (HGr.out (i + 1 + c) (by omega)).keep (below_tr B1 bra)
          obtain ⟨xa, hao, hac⟩ := rk.get
          have l7 := rk.le
          have l8 := rk.cap
          have C2 := hac i hin
          rw [hao (by omega)] at C1
          have C3 := NRow.at nra (k := i + 1 + c) (by omega)
          rw [HZ2.out (i + 1 + c) (by omega) (by omega)] at C3
          have eX : Hid (L (i + 1 + c) i = zl c) := by show L (i + 1 + c) i = zl c; rw [HZL.out]
          have eY : Hid (upV L (byV y d) n t (i + 1 + c) = zr c) := by show upV L (byV y d) n t (i + 1 + c) = zr c; rw [HZR.out]
          obtain ⟨X1, hX1⟩ : ∃ q, q = L (i + 1 + c) i := ⟨_, rfl⟩
          obtain ⟨Y1, hY1⟩ : ∃ q, q = upV L (byV y d) n t (i + 1 + c) := ⟨_, rfl⟩
          obtain ⟨Cj, hCj⟩ : ∃ q, q = C (i + 1 + c) := ⟨_, rfl⟩
          rw [← hX1] at C2 eX
          rw [← hY1] at C3 eY
          rw [← hCj] at C1 l7 l8
          have d0 := keep_cell hT.x.below C0a
          have d1 := keep_cell hT.x.below C1
          have d2 := keep_cell hT.x.below C2
          have d3 := keep_cell hT.x.below C3
          have j0 : (0 : Int) ≤ (i : Int) + 1 + (c : Int) := by omega
          have j1 : (i : Int) + 1 + (c : Int) < (n : Int) := by omega
          have j2 : ((i : Int) + 1 + (c : Int)).toNat = i + 1 + c := by omega
          have j3 : decide ((i : Int) + 1 + (c : Int) < (n : Int)) = true := decide_eq_true (by omega)
          have w3' : IntKind.i64.wrap ((i : Int) + 1 + (c : Int) + 1) = (i : Int) + 1 + (c : Int) + 1 := by rw [IntKind.wrap_i64]; omega
          clear hX1 hY1 hCj rk hao hac HQh HSh HMh hit
          go_wp2
          go_region_held3 (fun w' => w'.cell? ⟨g, 0, none⟩ = some (.slice (some xl) n cl) ∧ w'.cell? (xl.add (i + 1 + c)) = some (.slice (some xa) n Cj) ∧ w'.cell? (xa.add i) = some (.int .i64 X1) ∧ w'.cell? ⟨b, i + 1 + c, none⟩ = some (.int .i64 Y1)) (first
              | with_reducible exact ⟨d0, d1, d2, d3⟩
              | with_reducible exact ⟨keep_cell t2.x.below C0a, keep_cell t2.x.below C1, keep_cell t2.x.below C2, keep_cell t2.x.below C3⟩
              | with_reducible exact ⟨keep_cell t1.x.below C0a, keep_cell t1.x.below C1, keep_cell t1.x.below C2, keep_cell t1.x.below C3⟩
              | with_reducible exact ⟨keep_cell (t1.alloc _).x.below C0a, keep_cell (t1.alloc _).x.below C1, keep_cell (t1.alloc _).x.below C2, keep_cell (t1.alloc _).x.below C3⟩
              | with_reducible exact ⟨keep_cell hT.drew.x.below C0a, keep_cell hT.drew.x.below C1, keep_cell hT.drew.x.below C2, keep_cell hT.drew.x.below C3⟩
              | with_reducible exact ⟨keep_cell (hT.alloc _).x.below C0a, keep_cell (hT.alloc _).x.below C1, keep_cell (hT.alloc _).x.below C2, keep_cell (hT.alloc _).x.below C3⟩
              | with_reducible exact ⟨keep_cell (hT.alloc _).drew.x.below C0a, keep_cell (hT.alloc _).drew.x.below C1, keep_cell (hT.alloc _).drew.x.below C2, keep_cell (hT.alloc _).drew.x.below C3⟩
              | with_reducible exact ⟨keep_cell ((hT.alloc _).drew.alloc _).x.below C0a, keep_cell ((hT.alloc _).drew.alloc _).x.below C1, keep_cell ((hT.alloc _).drew.alloc _).x.below C2, keep_cell ((hT.alloc _).drew.alloc _).x.below C3⟩
              | with_reducible exact ⟨keep_cell ((hT.alloc _).alloc _).x.below C0a, keep_cell ((hT.alloc _).alloc _).x.below C1, keep_cell ((hT.alloc _).alloc _).x.below C2, keep_cell ((hT.alloc _).alloc _).x.below C3⟩
              | with_reducible exact ⟨keep_cell ((hT.alloc _).alloc _).drew.x.below C0a, keep_cell ((hT.alloc _).alloc _).drew.x.below C1, keep_cell ((hT.alloc _).alloc _).drew.x.below C2, keep_cell ((hT.alloc _).alloc _).drew.x.below C3⟩
              | go_keep)
            (first
              | (refine step_x (by rfl) (.tmp 56) (.tmp 65) (by rfl) (B := wa.heap.size) (w0 := wa) (vx := u13) (vy := u14) (nx := c) (ny := c) (zx := zl) (zy := zr) (by repeat (first | with_reducible exact hT | with_reducible exact t1 | with_reducible exact t2 | with_reducible refine Two.alloc ?_ _ | with_reducible refine Two.drew ?_)) (by rfl) (by omega) (y := X1) (by rfl) (by repeat (first | (with_reducible refine pend_at (B := wa.heap.size) (w0 := wa) (vx := u13) (nx := c) (ny := c) (zx := zl) (zy := zr) ?_ _ (by simp)) | (with_reducible refine pend_at (B := wa.heap.size) (w0 := wa) (vx := v1) (nx := c + 1) (ny := c) (zx := zl) (zy := zr) ?_ _ (by simp)) | with_reducible exact hT | with_reducible exact t1 | with_reducible refine Two.alloc ?_ _ | with_reducible refine Two.drew ?_ | with_reducible refine Pend.alloc ?_ _ | with_reducible refine Pend.drew ?_ | with_reducible refine p1 _ _ ?_)) (by exact eX.out) ?_; intro v1 w1 t1 p1)
              | (refine step_y (by rfl) (.tmp 67) (.tmp 72) (by rfl) (B := wa.heap.size) (w0 := wa) (vx := v1) (vy := u14) (nx := c + 1) (ny := c) (zx := zl) (zy := zr) (by repeat (first | with_reducible exact hT | with_reducible exact t1 | with_reducible exact t2 | with_reducible refine Two.alloc ?_ _ | with_reducible refine Two.drew ?_)) (by rfl) (by omega) (y := Y1) (by rfl) (by repeat (first | (with_reducible refine pend_at (B := wa.heap.size) (w0 := wa) (vx := u13) (nx := c) (ny := c) (zx := zl) (zy := zr) ?_ _ (by simp)) | (with_reducible refine pend_at (B := wa.heap.size) (w0 := wa) (vx := v1) (nx := c + 1) (ny := c) (zx := zl) (zy := zr) ?_ _ (by simp)) | with_reducible exact hT | with_reducible exact t1 | with_reducible refine Two.alloc ?_ _ | with_reducible refine Two.drew ?_ | with_reducible refine Pend.alloc ?_ _ | with_reducible refine Pend.drew ?_ | with_reducible refine p1 _ _ ?_)) (by exact eY.out) ?_; intro v2 w2 t2 p2))
          all_goals go_wp2
          all_goals go_roundw
          all_goals first
            | (simp [intOf]; omega)
            | exact ⟨c + 1, by omega, by go_num, t2⟩
            | trace_state
        · obtain rfl : c = t := by omega
          have j3 : decide ((i : Int) + 1 + (c : Int) < (n : Int)) = false := decide_eq_false (by omega)
          obtain ⟨ax, cx, rfl, sx⟩ := hT.x.sl
          obtain ⟨ay, cy, rfl, sy⟩ := hT.y.sl
          have hb := hT.x.below
          have HSq := Hid.mkV (HSh.out ax ay cx cy _ sx sy)
          have nrq := CRow.keep nra hb
          have brq := below_tr bra hb
          clear hT sx sy HSh hit HQh nra bra hb C0a
          go_wp2_with fail
          refine HSq.out.mono ?_
          rintro e w5 ⟨rfl, k5⟩
          go_wp2_with fail
          refine (HMh.out _).mono ?_
          rintro e w6 ⟨rfl, k6⟩
          have n6 := CRow.keep (CRow.keep nrq k5) k6
          have b6 := below_tr (below_tr brq k5) k6
          have f6 := CRow.free n6 i
          have c6 := NRow.at n6 hin
          clear nrq brq k5 k6 HSq HMh
          cases T <;> cases o <;> cases SO <;> (go_wp2; go_roundw)
          all_goals first
            | (show ((i : Int) - 1 + 1).toNat < ((i : Int) + 1).toNat; omega)
            | (refine ⟨c + 1, (i : Int) - 1, by omega, by first | rfl | go_num, by have := Hik.out; show (i : Int) - 1 = (n : Int) - 1 - ((c + 1 : Nat) : Int); omega, by rw [e4.out]; rfl, ⟨_, NRow.set n6 i LV, fun q h7 h8 => ?_⟩, b6.setCell hbw _⟩
               have := HIT.out
               rw [e3.out]
               show (if q = i then LV else Z q) = _
               by_cases e : q = i
               · rw [if_pos e, if_pos e]
               · rw [if_neg e, if_neg e]; exact HZ2.out q (by omega) h8)
    · obtain rfl : t = n := by omega
      obtain rfl : j = -1 := by have := hj.out; omega
      rw [← eO.out]
      go_wp2
      go_ret2
      refine ⟨b, rfl, hbw2, (NRow.all nr (Nat.le_refl _) (by omega)).congr (fun k hk => ?_), below_tr B1 br⟩
      rw [eV.out]
      exact hZ.out k (by omega) hk
end Go.Proofs.YtlomfjacgomhdaaGreatDoor
namespace Go.Proofs.YtlomfjacgomhdaaGreatDoor
open Go.RowKit Vc St Mt Dt Pr Ud
attribute [local go_sem ↓] Go.wp_at_zero Go.wp_at_succ
namespace Ud
theorem rwc_but {B g : Nat} {w0 w w' : World} {L cm n m : Nat} {G C : Nat → Nat} {F : Nat → Nat → Int} (h : RwcAt B w0 w L cm G C n m F) (hg : g < B) (k : Ld.But (· = g) w w') : Grid w' (some ⟨L, 0, none⟩) n cm m F := by
  obtain ⟨cur, h1, h2⟩ := h.list
  have e : RwcAt B w' w' L cm G C n m F := ⟨⟨cur, (k.block _ (heap_lt h1) (by have := h.ownL; omega)).trans h1, h2⟩, fun j hj => (h.row j hj).of (k.block _ (h.row j hj).lt (by have := h.own j hj; omega)), h.room, h.far, h.off, h.own, h.ownL, Below.refl _ _, Nat.le_trans h.base k.size, h.cap, h.cap2⟩
  exact e.grid
theorem gap_fac {w : World} {g : Nat} {u v z : Value} (h : CRow w g 51 [u, v, z]) : w.rangeAt g 1 [v, z] := CRow.mid h fun j x hx => by
  match j, hx with
  | 0, h => exact h
  | 1, h => exact h
  | _ + 2, h => simp at h
end Ud
set_option maxRecDepth 20000 in
set_option maxHeartbeats 8000000 in
theorem dnext13_any (xo po : Option Addr) (xc pc : Nat) (X : Nat → Int) (P : Nat → Nat → Int) (x y a b c : Int) (w : World) (hX : Sl w xo 6 xc X) (hP : Grid w po 6 pc 6 P) (hm : MayV X P) (hp : MayN x y a b c) (hf : ∀ i, i < 2 → Ld.fine (oM P a b c) i) (bX : B64 X) (bP : B2 P) :
  Calls Tryz.prog 14 #[.agg #[.slice xo 6 xc, .slice po 6 pc], .agg (pv x y a b c).toArray] w fun e w' => ∃ yo yc ro rc, e = .returned (.tuple #[.agg #[.slice yo 6 yc, .slice ro 6 rc], .bool (nO X P x y a b c), .int .i64 0]) ∧ Sl w' yo 6 yc (xN X P x y a b c) ∧ Grid w' ro 6 rc 6 (zN P a b c) ∧ Below w.heap.size w w' := by
 have t0 := ((crow_new w 25 [.slice xo 6 xc, .slice po 6 pc]).alloc (.cells (pv x y a b c).toArray 27)).alloc (.cells [.slice none 0 0, .slice none 0 0].toArray 25)
 have m0 := (crow_new1 w (.cells [.slice xo 6 xc, .slice po 6 pc].toArray 25) 27 (pv x y a b c)).alloc (.cells [.slice none 0 0, .slice none 0 0].toArray 25)
 have r0 := crow_new2 w (.cells [.slice xo 6 xc, .slice po 6 pc].toArray 25) (.cells (pv x y a b c).toArray 27) 25 [.slice none 0 0, .slice none 0 0]
 have B0 : Below w.heap.size w (((w.alloc (.cells [.slice xo 6 xc, .slice po 6 pc].toArray 25)).alloc (.cells (pv x y a b c).toArray 27)).alloc (.cells [.slice none 0 0, .slice none 0 0].toArray 25)) := below_al (below_al (below_al (Below.refl _ _) _) _) _
 obtain ⟨W, hW⟩ : ∃ W, W = ((w.alloc (.cells [.slice xo 6 xc, .slice po 6 pc].toArray 25)).alloc (.cells (pv x y a b c).toArray 27)).alloc (.cells [.slice none 0 0, .slice none 0 0].toArray 25) := ⟨_, rfl⟩
 rw [← hW] at t0 m0 r0 B0
 have HW := hide hW
 have X0 := hX.keep B0
 have P0 := hP.keep B0
 have HO := hide (dof13_any xo po xc pc X P x y a b c W X0 P0 hm hp)
 have HSo := hide (fun i lo cl do' cd g V (h1 : Grid V lo 2 cl 2 (fL P a b c)) (h2 : Sl V do' 2 cd (fD P a b c)) (h3 : Sl V (some ⟨g, 0, none⟩) 2 2 (v2 (P i 0) (P i 3))) => dsolve_own 2 cl cd 2 lo do' (some ⟨g, 0, none⟩) (fL P a b c) (fD P a b c) (v2 (P i 0) (P i 3)) V (by omega) (by omega) h1 h2 h3 (fL_b P a b c) (fD_b hf) (v2_b (bP i 0) (bP i 3)))
 have HK : Hid (∀ i, Ld.solV 2 (fL P a b c) (fD P a b c) (v2 (P i 0) (P i 3)) = kr P a b c i ∧ Ld.solO 2 (fL P a b c) (fD P a b c) (v2 (P i 0) (P i 3)) = ko P a b c i) := fun i => ⟨rfl, rfl⟩
 have HKb := hide (kr_b P a b c)
 have HFi := hide hf
 have HP0 := hide P0
 obtain ⟨A, C, sP, rP⟩ := P0
 obtain ⟨pa, hpa, hpc⟩ := sP.get
 obtain rfl := hpa (by omega)
 obtain ⟨xa, hxa, hxc⟩ := X0.get
 obtain rfl := hxa (by omega)
 have l1 := X0.le
 have l2 := X0.cap
 have l3 := sP.le
 have l4 := sP.cap
 have HPC := hide hpc
 have HRP := hide rP
 have HXC := hide hxc
 have HX0 := hide X0
 have t0' := hide t0
 have m0' := hide m0
 have r0' := hide r0
 clear hW hX hP hpa hxa hpc hxc X0 sP rP hf
 go_enter Tryz.func14, Tryz.ntmps14
 go_wp2_with (first
  | (erw [← HW.out]; refine St.wpList_load isSt (by rfl) _ (by rfl) _ _ (by rfl) (by with_reducible exact t0) rfl ?_)
  | (refine St.wpList_load isSeen (by rfl) _ (by rfl) _ _ (by rfl) (by with_reducible exact m0) rfl ?_)
  | fail)
 refine HO.out.mono ?_
 rintro e w1 ⟨hc, k1⟩
 rcases hc with ⟨hn, _⟩ | ⟨_, gv, lo, cl, do', cd, rfl, sV, gL, sD⟩
 ·exact absurd HFi.out hn
 have HV1 := hide sV
 have HL1 := hide gL
 have HD1 := hide sD
 clear sV gL sD HO HW t0 m0
 go_wp2_with (first
  | (refine St.wpList_storeNew isGap rfl _ _ (by rfl) _ [.slice none 0 0, .slice none 0 0, .slice none 0 0] [.slice (some ⟨gv, 0, none⟩) 2 2, .slice lo 2 cl, .slice do' 2 cd] (by rfl) (by rfl) rfl rfl (by intro v hv; simp only [List.mem_cons, List.not_mem_nil, or_false] at hv; rcases hv with rfl | rfl | rfl <;> rfl) ?_; intro w2 n2 k2; have K2 := below_tr k1 k2)
  | fail)
 have l5 := CRow.lt n2
 obtain ⟨g7, hg7⟩ : ∃ g, g = w1.heap.size := ⟨_, rfl⟩
 rw [← hg7] at n2 l5 ⊢
 obtain ⟨q0, hq0⟩ : ∃ q, q = og X P x y a b c := ⟨_, rfl⟩
 have HQ0 : Hid (og X P x y a b c = q0) := hq0.symm
 rw [← hq0]
 have HN2 := hide n2
 have HK2 := hide K2
 have HVL : Hid (∀ V, Below w2.heap.size w2 V → Sl V (some ⟨gv, 0, none⟩) 2 2 (v2 (ox X x) (oy X y)) ∧ Grid V lo 2 cl 2 (fL P a b c) ∧ Sl V do' 2 cd (fD P a b c)) := fun V k => ⟨HV1.out.keep (below_tr k2 k), HL1.out.keep (below_tr k2 k), HD1.out.keep (below_tr k2 k)⟩
 clear n2 K2 k1 k2 hg7 hq0 HV1 HL1 HD1
 go_loopw [8, 10, 11, 12] (fun q vk vb i wr => ∃ k : Nat, k ≤ 6 ∧ i = .int .i64 (k : Int) ∧ q = .bool (nA q0 P a b c k) ∧ Ls.Tws w2.heap.size wr vk vb k k 2 6 (kr P a b c) (br P a b c) ∧ Below w2.heap.size w2 wr) (fun _ _ _ i _ => 6 - (intOf i).toNat)
 case atStart => exact ⟨0, by omega, rfl, rfl, Ls.Tws.nil (Nat.le_refl _) _ _ _ _, Below.refl _ _⟩
 case round =>
  rename World => wr
  obtain ⟨k, hk, rfl, rfl, zr, Kr⟩ := hrel
  by_cases h : k < 6
  ·have KW := below_tr HK2.out Kr
   have c1 : wr.cell? ⟨w.heap.size, 1, none⟩ = some (.slice (some pa) 6 pc) := CRow.cell (CRow.keep t0'.out KW) (k := 1) rfl rfl
   have cr := keep_cell KW (HPC.out k h)
   have sr := (HRP.out k h).keep KW
   obtain ⟨ra, hra, hrc⟩ := sr.get
   rw [hra (by omega)] at cr
   have e0 := hrc 0 (by omega)
   have e3 := hrc 3 (by omega)
   rw [Ud.addr0] at e0
   have l6 := sr.le
   have l7 := sr.cap
   obtain ⟨rc, hrc'⟩ : ∃ q, q = C k := ⟨_, rfl⟩
   rw [← hrc'] at cr l6 l7
   have HSk := hide (HSo.out k)
   rw [(HK.out k).1, (HK.out k).2] at HSk
   obtain ⟨p0, hp0⟩ : ∃ z, z = P k 0 := ⟨_, rfl⟩
   obtain ⟨p3, hp3⟩ : ∃ z, z = P k 3 := ⟨_, rfl⟩
   rw [← hp0] at e0 HSk
   rw [← hp3] at e3 HSk
   have gr := CRow.keep HN2.out Kr
   obtain ⟨q1, hq1⟩ : ∃ q, q = ko P a b c k := ⟨_, rfl⟩
   rw [← hq1] at HSk
   have HQ1 := hide hq1
   have hS : ∀ V, Below wr.heap.size wr V → (V.cell? ⟨w.heap.size, 1, none⟩ = some (.slice (some pa) 6 pc) ∧ V.cell? (pa.add k) = some (.slice (some ra) 6 rc) ∧ V.cell? ra = some (.int .i64 p0) ∧ V.cell? (ra.add 3) = some (.int .i64 p3) ∧ CRow V g7 51 [.slice (some ⟨gv, 0, none⟩) 2 2, .slice lo 2 cl, .slice do' 2 cd]) := fun V k => ⟨keep_cell k c1, keep_cell k cr, keep_cell k e0, keep_cell k e3, CRow.keep gr k⟩
   have HS := hide hS
   have k6 : (k : Int) < 6 := by omega
   clear hS hra hrc hrc' hp0 hp3 c1 cr e0 e3 gr sr hq1
   go_upto_region 8 with fail
   refine Ru.wp_region_U [] (fun w' => w'.cell? ⟨w.heap.size, 1, none⟩ = some (.slice (some pa) 6 pc) ∧ w'.cell? (pa.add k) = some (.slice (some ra) 6 rc) ∧ w'.cell? ra = some (.int .i64 p0) ∧ w'.cell? (ra.add 3) = some (.int .i64 p3) ∧ CRow w' g7 51 [.slice (some ⟨gv, 0, none⟩) 2 2, .slice lo 2 cl, .slice do' 2 cd]) (by kernel_rfl) (HS.out _ (Vc.below_drew' _)) (fun hHeld => ?_)
   refine Ru.wpAnyU_take (i := 0) (v := .pointer (some ⟨g7, 1, none⟩)) rfl (by kernel_rfl) (by kernel_rfl) (by kernel_rfl) (by kernel_rfl) (by kernel_rfl) (by kernel_rfl) (fun _ _ _ h => h) (Or.inl ⟨by kernel_rfl, fun w hS => by obtain ⟨sc0, sc1, sc2, sc3, sc4⟩ := hS; go_simp⟩) hHeld ?_
   simp only [Act.put, zq1, zq2, zq3, zq4, zq5, zq6]
   refine Ru.wpAnyU_take (i := 1) (v := .agg #[.slice lo 2 cl, .slice do' 2 cd]) rfl (by kernel_rfl) (by kernel_rfl) (by kernel_rfl) (by kernel_rfl) (by kernel_rfl) (by kernel_rfl) (fun _ _ _ h => h) (Ud.yieldsPart isFac (by kernel_rfl) _ (by rfl) g7 1 [.slice lo 2 cl, .slice do' 2 cd] (by rfl) (fun w h => gap_fac h.2.2.2.2) rfl) hHeld ?_
   simp only [Act.put, zq1, zq2, zq3, zq4, zq5, zq6]
   refine Ru.wpAnyU_take (i := 2) (v := .pointer (some ⟨w.heap.size, 1, none⟩)) rfl (by kernel_rfl) (by kernel_rfl) (by kernel_rfl) (by kernel_rfl) (by kernel_rfl) (by kernel_rfl) (fun _ _ _ h => h) (Or.inl ⟨by kernel_rfl, fun w hS => by obtain ⟨sc0, sc1, sc2, sc3, sc4⟩ := hS; go_simp⟩) hHeld ?_
   simp only [Act.put, zq1, zq2, zq3, zq4, zq5, zq6]
   refine Ru.wpAnyU_take (i := 3) (v := .slice (some pa) 6 pc) rfl (by kernel_rfl) (by kernel_rfl) (by kernel_rfl) (by kernel_rfl) (by kernel_rfl) (by kernel_rfl) (fun _ _ _ h => h) (Or.inl ⟨by kernel_rfl, fun w hS => by obtain ⟨sc0, sc1, sc2, sc3, sc4⟩ := hS; go_simp⟩) hHeld ?_
   simp only [Act.put, zq1, zq2, zq3, zq4, zq5, zq6]
   refine Ru.wpAnyU_take (i := 4) (v := .int .i64 (k : Int)) rfl (by kernel_rfl) (by kernel_rfl) (by kernel_rfl) (by kernel_rfl) (by kernel_rfl) (by kernel_rfl) (fun _ _ _ h => h) (Or.inl ⟨by kernel_rfl, fun w hS => by obtain ⟨sc0, sc1, sc2, sc3, sc4⟩ := hS; go_simp⟩) hHeld ?_
   simp only [Act.put, zq1, zq2, zq3, zq4, zq5, zq6]
   refine Ru.wpAnyU_take (i := 5) (v := .pointer (some (pa.add k))) rfl (by kernel_rfl) (by kernel_rfl) (by kernel_rfl) (by kernel_rfl) (by kernel_rfl) (by kernel_rfl) (fun _ _ _ h => h) (Or.inl ⟨by kernel_rfl, fun w hS => by obtain ⟨sc0, sc1, sc2, sc3, sc4⟩ := hS; go_simp⟩) hHeld ?_
   simp only [Act.put, zq1, zq2, zq3, zq4, zq5, zq6]
   refine Ru.wpAnyU_take (i := 6) (v := .slice (some ra) 6 rc) rfl (by kernel_rfl) (by kernel_rfl) (by kernel_rfl) (by kernel_rfl) (by kernel_rfl) (by kernel_rfl) (fun _ _ _ h => h) (Ud.yieldsL (by kernel_rfl) _ (by rfl) (pa.add k) _ (by rfl) (fun w h => h.2.1)) hHeld ?_
   simp only [Act.put, zq1, zq2, zq3, zq4, zq5, zq6]
   refine Ru.wpAnyU_take (i := 7) (v := .pointer (some ra)) rfl (by kernel_rfl) (by kernel_rfl) (by kernel_rfl) (by kernel_rfl) (by kernel_rfl) (by kernel_rfl) (fun _ _ _ h => h) (Or.inl ⟨by kernel_rfl, fun w hS => by obtain ⟨sc0, sc1, sc2, sc3, sc4⟩ := hS; go_simp⟩) hHeld ?_
   simp only [Act.put, zq1, zq2, zq3, zq4, zq5, zq6]
   refine Ru.wpAnyU_take (i := 8) (v := .int .i64 p0) rfl (by kernel_rfl) (by kernel_rfl) (by kernel_rfl) (by kernel_rfl) (by kernel_rfl) (by kernel_rfl) (fun _ _ _ h => h) (Or.inl ⟨by kernel_rfl, fun w hS => by obtain ⟨sc0, sc1, sc2, sc3, sc4⟩ := hS; go_simp⟩) hHeld ?_
   simp only [Act.put, zq1, zq2, zq3, zq4, zq5, zq6]
   refine Ru.wpAnyU_take (i := 9) (v := .pointer (some ⟨w.heap.size, 1, none⟩)) rfl (by kernel_rfl) (by kernel_rfl) (by kernel_rfl) (by kernel_rfl) (by kernel_rfl) (by kernel_rfl) (fun _ _ _ h => h) (Or.inl ⟨by kernel_rfl, fun w hS => by obtain ⟨sc0, sc1, sc2, sc3, sc4⟩ := hS; go_simp⟩) hHeld ?_
   simp only [Act.put, zq1, zq2, zq3, zq4, zq5, zq6]
   refine Ru.wpAnyU_take (i := 10) (v := .slice (some pa) 6 pc) rfl (by kernel_rfl) (by kernel_rfl) (by kernel_rfl) (by kernel_rfl) (by kernel_rfl) (by kernel_rfl) (fun _ _ _ h => h) (Or.inl ⟨by kernel_rfl, fun w hS => by obtain ⟨sc0, sc1, sc2, sc3, sc4⟩ := hS; go_simp⟩) hHeld ?_
   simp only [Act.put, zq1, zq2, zq3, zq4, zq5, zq6]
   refine Ru.wpAnyU_take (i := 11) (v := .int .i64 (k : Int)) rfl (by kernel_rfl) (by kernel_rfl) (by kernel_rfl) (by kernel_rfl) (by kernel_rfl) (by kernel_rfl) (fun _ _ _ h => h) (Or.inl ⟨by kernel_rfl, fun w hS => by obtain ⟨sc0, sc1, sc2, sc3, sc4⟩ := hS; go_simp⟩) hHeld ?_
   simp only [Act.put, zq1, zq2, zq3, zq4, zq5, zq6]
   refine Ru.wpAnyU_take (i := 12) (v := .pointer (some (pa.add k))) rfl (by kernel_rfl) (by kernel_rfl) (by kernel_rfl) (by kernel_rfl) (by kernel_rfl) (by kernel_rfl) (fun _ _ _ h => h) (Or.inl ⟨by kernel_rfl, fun w hS => by obtain ⟨sc0, sc1, sc2, sc3, sc4⟩ := hS; go_simp⟩) hHeld ?_
   simp only [Act.put, zq1, zq2, zq3, zq4, zq5, zq6]
   refine Ru.wpAnyU_take (i := 13) (v := .slice (some ra) 6 rc) rfl (by kernel_rfl) (by kernel_rfl) (by kernel_rfl) (by kernel_rfl) (by kernel_rfl) (by kernel_rfl) (fun _ _ _ h => h) (Ud.yieldsL (by kernel_rfl) _ (by rfl) (pa.add k) _ (by rfl) (fun w h => h.2.1)) hHeld ?_
   simp only [Act.put, zq1, zq2, zq3, zq4, zq5, zq6]
   refine Ru.wpAnyU_take (i := 14) (v := .pointer (some (ra.add 3))) rfl (by kernel_rfl) (by kernel_rfl) (by kernel_rfl) (by kernel_rfl) (by kernel_rfl) (by kernel_rfl) (fun _ _ _ h => h) (Or.inl ⟨by kernel_rfl, fun w hS => by obtain ⟨sc0, sc1, sc2, sc3, sc4⟩ := hS; go_simp⟩) hHeld ?_
   simp only [Act.put, zq1, zq2, zq3, zq4, zq5, zq6]
   refine Ru.wpAnyU_take (i := 15) (v := .int .i64 p3) rfl (by kernel_rfl) (by kernel_rfl) (by kernel_rfl) (by kernel_rfl) (by kernel_rfl) (by kernel_rfl) (fun _ _ _ h => h) (Ud.yieldsI (by kernel_rfl) _ (by rfl) (ra.add 3) _ (by rfl) (fun w h => h.2.2.2.1)) hHeld ?_
   simp only [Act.put, zq1, zq2, zq3, zq4, zq5, zq6]
   refine Ru.wpAnyU_ready (rs := [16]) (by kernel_rfl) (by simp) ?_
   refine Ru.AllReadyU.cons rfl (by kernel_rfl) (fun K hK => ?_) Ru.AllReadyU.nil
   go_simp
   have x1 : CRow (wr.drew.alloc (.cells #[.int .i64 p0, .int .i64 p3] 2)) wr.heap.size 2 (vals 2 (v2 p0 p3)) := crow_new wr.drew 2 (vals 2 (v2 p0 p3))
   have D1 := below_tr (Vc.below_drew' wr) (below_al (Below.refl _ wr.drew) (.cells #[.int .i64 p0, .int .i64 p3] 2))
   refine hK.out _ _ (HS.out _ D1) (fun hHeld => ?_)
   clear hK K
   try simp only [Act.put, zq1, zq2, zq3, zq4, zq5, zq6]
   refine Ru.wpAnyU_ready (rs := [17]) (by kernel_rfl) (by simp) ?_
   refine Ru.AllReadyU.cons rfl (by kernel_rfl) (fun K hK => ?_) Ru.AllReadyU.nil
   go_simp
   have s1 := Ud.crow_sl x1 (by omega)
   have vl := HVL.out _ (below_tr Kr D1)
   refine (HSk.out _ _ _ _ _ _ vl.2.1 vl.2.2 s1).mono ?_
   rintro _ w3 ⟨bk, rfl, hbk, sK, k3⟩
   have D3 := below_tr D1 k3
   have hbw : wr.heap.size ≤ bk := Nat.le_trans D1.size hbk
   go_wp2_with fail
   refine hK.out _ _ (HS.out _ D3) (fun hHeld => ?_)
   clear hK K
   try simp only [Act.put, zq1, zq2, zq3, zq4, zq5, zq6]
   refine Ru.wpAnyU_take (i := 18) (v := .tuple #[.slice (some ⟨bk, 0, none⟩) 2 2, .bool q1]) rfl (by kernel_rfl) (by kernel_rfl) (by kernel_rfl) (by kernel_rfl) (by kernel_rfl) (by kernel_rfl) (fun _ _ _ h => h) (Or.inl ⟨by kernel_rfl, fun w hS => by obtain ⟨sc0, sc1, sc2, sc3, sc4⟩ := hS; go_simp⟩) hHeld ?_
   simp only [Act.put, zq1, zq2, zq3, zq4, zq5, zq6]
   refine Ru.wpAnyU_take (i := 19) (v := .slice (some ⟨bk, 0, none⟩) 2 2) rfl (by kernel_rfl) (by kernel_rfl) (by kernel_rfl) (by kernel_rfl) (by kernel_rfl) (by kernel_rfl) (fun _ _ _ h => h) (Or.inl ⟨by kernel_rfl, fun w hS => by obtain ⟨sc0, sc1, sc2, sc3, sc4⟩ := hS; go_simp⟩) hHeld ?_
   simp only [Act.put, zq1, zq2, zq3, zq4, zq5, zq6]
   refine Ru.wpAnyU_take (i := 20) (v := .bool q1) rfl (by kernel_rfl) (by kernel_rfl) (by kernel_rfl) (by kernel_rfl) (by kernel_rfl) (by kernel_rfl) (fun _ _ _ h => h) (Or.inl ⟨by kernel_rfl, fun w hS => by obtain ⟨sc0, sc1, sc2, sc3, sc4⟩ := hS; go_simp⟩) hHeld ?_
   simp only [Act.put, zq1, zq2, zq3, zq4, zq5, zq6]
   refine Ru.wpAnyU_take (i := 21) (v := .slice (some ⟨bk, 0, none⟩) 2 2) rfl (by kernel_rfl) (by kernel_rfl) (by kernel_rfl) (by kernel_rfl) (by kernel_rfl) (by kernel_rfl) (fun _ _ _ h => h) (Or.inl ⟨by kernel_rfl, fun w hS => by obtain ⟨sc0, sc1, sc2, sc3, sc4⟩ := hS; go_simp⟩) hHeld ?_
   simp only [Act.put, zq1, zq2, zq3, zq4, zq5, zq6]
   refine Ru.wpAnyU_take (i := 22) (v := .bool q1) rfl (by kernel_rfl) (by kernel_rfl) (by kernel_rfl) (by kernel_rfl) (by kernel_rfl) (by kernel_rfl) (fun _ _ _ h => h) (Or.inl ⟨by kernel_rfl, fun w hS => by obtain ⟨sc0, sc1, sc2, sc3, sc4⟩ := hS; go_simp⟩) hHeld ?_
   simp only [Act.put, zq1, zq2, zq3, zq4, zq5, zq6]
   refine Ru.wpAnyU_done (by kernel_rfl) ?_
   have z3 := zr.keep D3
   have HAP := hide (zr.apart (ra := some ⟨bk, 0, none⟩) (fun x hx => by cases hx; exact hbw))
   have HSK := hide sK
   have K3 := below_tr Kr D3
   clear sK k3 D1 D3 x1 s1 vl zr hbk HS HSk
   go_wp2_with (first
    | (at_builtin; refine Ls.pushK (by rfl) _ _ (by rfl) w2.heap.size _ _ k k 2 6 (kr P a b c) (br P a b c) (by rfl) z3 (by omega) (by omega) (by omega) (some ⟨bk, 0, none⟩) 2 HSK.out HAP.out (by rfl) ?_)
    | fail)
   intro v1 w4 z4 b4 sK4
   have K4 := b4.below K3 K3.size (fun q e => e)
   clear z3 HAP HSK b4 K3
   go_wp2_with fail
   refine (reye_own 6 _ (by omega) (by omega)).mono ?_
   rintro e w5 ⟨L, cm, G, rfl, hA⟩
   have k5 := hA.below
   have sK5 := sK4.keep k5
   have cL := hA.cellL h
   have f0 := hA.cell h (j := 0) (by omega)
   have f3 := hA.cell h (j := 3) (by omega)
   have hgo := hA.own k h
   have hrow : CRow w5 (G k) 2 (vals 6 (eyeF k)) := hA.row k h
   have lc1 := hA.cap
   have lc2 := hA.cap2
   obtain ⟨g, hg⟩ : ∃ g, g = G k := ⟨_, rfl⟩
   rw [← hg] at cL f0 f3 hgo hrow
   have g0 : w5.cell? ⟨bk, 0, none⟩ = some (.int .i64 (kr P a b c k 0)) := by
    obtain ⟨x, hx, hc⟩ := sK5.at' 0 (by omega)
    cases hx
    exact hc
   have g1 : w5.cell? ⟨bk, 1, none⟩ = some (.int .i64 (kr P a b c k 1)) := by
    obtain ⟨x, hx, hc⟩ := sK5.at' 1 (by omega)
    cases hx
    exact hc
   have HA0 := hide (fun W => radd13_yes (eyeF k 0) (kr P a b c k 0) W (eye_b k 0).1 (eye_b k 0).2 (HKb.out k 0).1 (HKb.out k 0).2)
   have HA3 := hide (fun W => radd13_yes (eyeF k 3) (kr P a b c k 1) W (eye_b k 3).1 (eye_b k 3).2 (HKb.out k 1).1 (HKb.out k 1).2)
   obtain ⟨y0, hy0⟩ : ∃ z, z = Qn.clamp (eyeF k 0 - kr P a b c k 0) := ⟨_, rfl⟩
   obtain ⟨y3, hy3⟩ : ∃ z, z = Qn.clamp (eyeF k 3 - kr P a b c k 1) := ⟨_, rfl⟩
   obtain ⟨q2, hq2⟩ : ∃ z, z = Qn.great (eyeF k 0 - kr P a b c k 0) := ⟨_, rfl⟩
   obtain ⟨q3, hq3⟩ : ∃ z, z = Qn.great (eyeF k 3 - kr P a b c k 1) := ⟨_, rfl⟩
   rw [← hy0, ← hq2] at HA0
   rw [← hy3, ← hq3] at HA3
   have hbr : Hid (∀ j, j < 6 → (if j = 3 then y3 else if j = 0 then y0 else eyeF k j) = br P a b c k j) := fun j hj => by
    unfold br
    rw [← hy0, ← hy3]
    by_cases e0 : j = 0
    ·subst e0; rfl
    ·by_cases e3 : j = 3
     ·subst e3; rfl
     ·rw [if_neg e3, if_neg e0, if_neg e0, if_neg e3]
   have hnA : Hid (nA q0 P a b c (k + 1) = (nA q0 P a b c k || q1 || q2 || q3)) := by
    show (nA q0 P a b c k || ko P a b c k || bo0 P a b c k || bo3 P a b c k) = _
    rw [HQ1.out, hq2, hq3]; rfl
   obtain ⟨E0, hE0⟩ : ∃ z, z = eyeF k 0 := ⟨_, rfl⟩
   obtain ⟨E3, hE3⟩ : ∃ z, z = eyeF k 3 := ⟨_, rfl⟩
   obtain ⟨k0, hk0⟩ : ∃ z, z = kr P a b c k 0 := ⟨_, rfl⟩
   obtain ⟨k1, hk1⟩ : ∃ z, z = kr P a b c k 1 := ⟨_, rfl⟩
   rw [← hE0, ← hk0] at HA0
   rw [← hE3, ← hk1] at HA3
   rw [← hE0] at f0
   rw [← hE3] at f3
   rw [← hk0] at g0
   rw [← hk1] at g1
   have hS2 : ∀ V, Below w5.heap.size w5 V → (V.cell? ⟨g, 0, none⟩ = some (.int .i64 E0) ∧ V.cell? ⟨g, 3, none⟩ = some (.int .i64 E3) ∧ V.cell? ⟨bk, 0, none⟩ = some (.int .i64 k0) ∧ V.cell? ⟨bk, 1, none⟩ = some (.int .i64 k1)) := fun V k => ⟨keep_cell k f0, keep_cell k f3, keep_cell k g0, keep_cell k g1⟩
   have HS2 := hide hS2
   have HRow := hide hrow
   clear hS2 hrow hE0 hE3 hk0 hk1 hy0 hy3 hq2 hq3 hg f0 f3 g0 g1 sK4 sK5 hA HQ1
   have D5 : Below w5.heap.size w5 w5 := Below.refl _ _
   go_upto_region 11 with fail
   refine Ru.wp_region_U [] (fun w' => w'.cell? ⟨g, 0, none⟩ = some (.int .i64 E0) ∧ w'.cell? ⟨g, 3, none⟩ = some (.int .i64 E3) ∧ w'.cell? ⟨bk, 0, none⟩ = some (.int .i64 k0) ∧ w'.cell? ⟨bk, 1, none⟩ = some (.int .i64 k1)) (by kernel_rfl) (HS2.out _ (below_tr D5 (Vc.below_drew' _))) (fun hHeld => ?_)
   refine Ru.wpAnyU_take (i := 0) (v := .slice (some ⟨g, 0, none⟩) 6 6) rfl (by kernel_rfl) (by kernel_rfl) (by kernel_rfl) (by kernel_rfl) (by kernel_rfl) (by kernel_rfl) (fun _ _ _ h => h) (Or.inl ⟨by kernel_rfl, fun w hS => by obtain ⟨sc0, sc1, sc2, sc3⟩ := hS; go_simp⟩) hHeld ?_
   simp only [Act.put, zq1, zq2, zq3, zq4, zq5, zq6]
   refine Ru.wpAnyU_take (i := 1) (v := .pointer (some ⟨g, 0, none⟩)) rfl (by kernel_rfl) (by kernel_rfl) (by kernel_rfl) (by kernel_rfl) (by kernel_rfl) (by kernel_rfl) (fun _ _ _ h => h) (Or.inl ⟨by kernel_rfl, fun w hS => by obtain ⟨sc0, sc1, sc2, sc3⟩ := hS; go_simp⟩) hHeld ?_
   simp only [Act.put, zq1, zq2, zq3, zq4, zq5, zq6]
   refine Ru.wpAnyU_take (i := 2) (v := .int .i64 E0) rfl (by kernel_rfl) (by kernel_rfl) (by kernel_rfl) (by kernel_rfl) (by kernel_rfl) (by kernel_rfl) (fun _ _ _ h => h) (Or.inl ⟨by kernel_rfl, fun w hS => by obtain ⟨sc0, sc1, sc2, sc3⟩ := hS; go_simp⟩) hHeld ?_
   simp only [Act.put, zq1, zq2, zq3, zq4, zq5, zq6]
   refine Ru.wpAnyU_take (i := 3) (v := .slice (some ⟨bk, 0, none⟩) 2 2) rfl (by kernel_rfl) (by kernel_rfl) (by kernel_rfl) (by kernel_rfl) (by kernel_rfl) (by kernel_rfl) (fun _ _ _ h => h) (Or.inl ⟨by kernel_rfl, fun w hS => by obtain ⟨sc0, sc1, sc2, sc3⟩ := hS; go_simp⟩) hHeld ?_
   simp only [Act.put, zq1, zq2, zq3, zq4, zq5, zq6]
   refine Ru.wpAnyU_take (i := 4) (v := .pointer (some ⟨bk, 0, none⟩)) rfl (by kernel_rfl) (by kernel_rfl) (by kernel_rfl) (by kernel_rfl) (by kernel_rfl) (by kernel_rfl) (fun _ _ _ h => h) (Or.inl ⟨by kernel_rfl, fun w hS => by obtain ⟨sc0, sc1, sc2, sc3⟩ := hS; go_simp⟩) hHeld ?_
   simp only [Act.put, zq1, zq2, zq3, zq4, zq5, zq6]
   refine Ru.wpAnyU_take (i := 5) (v := .int .i64 k0) rfl (by kernel_rfl) (by kernel_rfl) (by kernel_rfl) (by kernel_rfl) (by kernel_rfl) (by kernel_rfl) (fun _ _ _ h => h) (Or.inl ⟨by kernel_rfl, fun w hS => by obtain ⟨sc0, sc1, sc2, sc3⟩ := hS; go_simp⟩) hHeld ?_
   simp only [Act.put, zq1, zq2, zq3, zq4, zq5, zq6]
   refine Ru.wpAnyU_ready (rs := [6]) (by kernel_rfl) (by simp) ?_
   refine Ru.AllReadyU.cons rfl (by kernel_rfl) (fun K hK => ?_) Ru.AllReadyU.nil
   go_simp
   refine (HA0.out _).mono ?_
   rintro _ w6 ⟨rfl, kw6⟩
   have D6 := below_tr (below_tr D5 (Vc.below_drew' _)) kw6
   go_wp2_with fail
   refine hK.out _ _ (HS2.out _ D6) (fun hHeld => ?_)
   clear hK K
   try simp only [Act.put, zq1, zq2, zq3, zq4, zq5, zq6]
   refine Ru.wpAnyU_take (i := 7) (v := .tuple #[.int .i64 y0, .bool q2]) rfl (by kernel_rfl) (by kernel_rfl) (by kernel_rfl) (by kernel_rfl) (by kernel_rfl) (by kernel_rfl) (fun _ _ _ h => h) (Or.inl ⟨by kernel_rfl, fun w hS => by obtain ⟨sc0, sc1, sc2, sc3⟩ := hS; go_simp⟩) hHeld ?_
   simp only [Act.put, zq1, zq2, zq3, zq4, zq5, zq6]
   refine Ru.wpAnyU_take (i := 8) (v := .int .i64 y0) rfl (by kernel_rfl) (by kernel_rfl) (by kernel_rfl) (by kernel_rfl) (by kernel_rfl) (by kernel_rfl) (fun _ _ _ h => h) (Or.inl ⟨by kernel_rfl, fun w hS => by obtain ⟨sc0, sc1, sc2, sc3⟩ := hS; go_simp⟩) hHeld ?_
   simp only [Act.put, zq1, zq2, zq3, zq4, zq5, zq6]
   refine Ru.wpAnyU_take (i := 9) (v := .bool q2) rfl (by kernel_rfl) (by kernel_rfl) (by kernel_rfl) (by kernel_rfl) (by kernel_rfl) (by kernel_rfl) (fun _ _ _ h => h) (Or.inl ⟨by kernel_rfl, fun w hS => by obtain ⟨sc0, sc1, sc2, sc3⟩ := hS; go_simp⟩) hHeld ?_
   simp only [Act.put, zq1, zq2, zq3, zq4, zq5, zq6]
   refine Ru.wpAnyU_take (i := 10) (v := .int .i64 y0) rfl (by kernel_rfl) (by kernel_rfl) (by kernel_rfl) (by kernel_rfl) (by kernel_rfl) (by kernel_rfl) (fun _ _ _ h => h) (Or.inl ⟨by kernel_rfl, fun w hS => by obtain ⟨sc0, sc1, sc2, sc3⟩ := hS; go_simp⟩) hHeld ?_
   simp only [Act.put, zq1, zq2, zq3, zq4, zq5, zq6]
   refine Ru.wpAnyU_take (i := 11) (v := .bool q2) rfl (by kernel_rfl) (by kernel_rfl) (by kernel_rfl) (by kernel_rfl) (by kernel_rfl) (by kernel_rfl) (fun _ _ _ h => h) (Or.inl ⟨by kernel_rfl, fun w hS => by obtain ⟨sc0, sc1, sc2, sc3⟩ := hS; go_simp⟩) hHeld ?_
   simp only [Act.put, zq1, zq2, zq3, zq4, zq5, zq6]
   refine Ru.wpAnyU_done (by kernel_rfl) ?_
   go_upto_region 12 with fail
   refine Ru.wp_region_U [] (fun w' => w'.cell? ⟨g, 0, none⟩ = some (.int .i64 E0) ∧ w'.cell? ⟨g, 3, none⟩ = some (.int .i64 E3) ∧ w'.cell? ⟨bk, 0, none⟩ = some (.int .i64 k0) ∧ w'.cell? ⟨bk, 1, none⟩ = some (.int .i64 k1)) (by kernel_rfl) (HS2.out _ (below_tr D6 (Vc.below_drew' _))) (fun hHeld => ?_)
   refine Ru.wpAnyU_take (i := 0) (v := .slice (some ⟨g, 0, none⟩) 6 6) rfl (by kernel_rfl) (by kernel_rfl) (by kernel_rfl) (by kernel_rfl) (by kernel_rfl) (by kernel_rfl) (fun _ _ _ h => h) (Or.inl ⟨by kernel_rfl, fun w hS => by obtain ⟨sc0, sc1, sc2, sc3⟩ := hS; go_simp⟩) hHeld ?_
   simp only [Act.put, zq1, zq2, zq3, zq4, zq5, zq6]
   refine Ru.wpAnyU_take (i := 1) (v := .pointer (some ⟨g, 3, none⟩)) rfl (by kernel_rfl) (by kernel_rfl) (by kernel_rfl) (by kernel_rfl) (by kernel_rfl) (by kernel_rfl) (fun _ _ _ h => h) (Or.inl ⟨by kernel_rfl, fun w hS => by obtain ⟨sc0, sc1, sc2, sc3⟩ := hS; go_simp⟩) hHeld ?_
   simp only [Act.put, zq1, zq2, zq3, zq4, zq5, zq6]
   refine Ru.wpAnyU_take (i := 2) (v := .int .i64 E3) rfl (by kernel_rfl) (by kernel_rfl) (by kernel_rfl) (by kernel_rfl) (by kernel_rfl) (by kernel_rfl) (fun _ _ _ h => h) (Or.inl ⟨by kernel_rfl, fun w hS => by obtain ⟨sc0, sc1, sc2, sc3⟩ := hS; go_simp⟩) hHeld ?_
   simp only [Act.put, zq1, zq2, zq3, zq4, zq5, zq6]
   refine Ru.wpAnyU_take (i := 3) (v := .slice (some ⟨bk, 0, none⟩) 2 2) rfl (by kernel_rfl) (by kernel_rfl) (by kernel_rfl) (by kernel_rfl) (by kernel_rfl) (by kernel_rfl) (fun _ _ _ h => h) (Or.inl ⟨by kernel_rfl, fun w hS => by obtain ⟨sc0, sc1, sc2, sc3⟩ := hS; go_simp⟩) hHeld ?_
   simp only [Act.put, zq1, zq2, zq3, zq4, zq5, zq6]
   refine Ru.wpAnyU_take (i := 4) (v := .pointer (some ⟨bk, 1, none⟩)) rfl (by kernel_rfl) (by kernel_rfl) (by kernel_rfl) (by kernel_rfl) (by kernel_rfl) (by kernel_rfl) (fun _ _ _ h => h) (Or.inl ⟨by kernel_rfl, fun w hS => by obtain ⟨sc0, sc1, sc2, sc3⟩ := hS; go_simp⟩) hHeld ?_
   simp only [Act.put, zq1, zq2, zq3, zq4, zq5, zq6]
   refine Ru.wpAnyU_take (i := 5) (v := .int .i64 k1) rfl (by kernel_rfl) (by kernel_rfl) (by kernel_rfl) (by kernel_rfl) (by kernel_rfl) (by kernel_rfl) (fun _ _ _ h => h) (Or.inl ⟨by kernel_rfl, fun w hS => by obtain ⟨sc0, sc1, sc2, sc3⟩ := hS; go_simp⟩) hHeld ?_
   simp only [Act.put, zq1, zq2, zq3, zq4, zq5, zq6]
   refine Ru.wpAnyU_ready (rs := [6]) (by kernel_rfl) (by simp) ?_
   refine Ru.AllReadyU.cons rfl (by kernel_rfl) (fun K hK => ?_) Ru.AllReadyU.nil
   go_simp
   refine (HA3.out _).mono ?_
   rintro _ w7 ⟨rfl, kw7⟩
   have D7 := below_tr (below_tr D6 (Vc.below_drew' _)) kw7
   go_wp2_with fail
   refine hK.out _ _ (HS2.out _ D7) (fun hHeld => ?_)
   clear hK K
   try simp only [Act.put, zq1, zq2, zq3, zq4, zq5, zq6]
   refine Ru.wpAnyU_take (i := 7) (v := .tuple #[.int .i64 y3, .bool q3]) rfl (by kernel_rfl) (by kernel_rfl) (by kernel_rfl) (by kernel_rfl) (by kernel_rfl) (by kernel_rfl) (fun _ _ _ h => h) (Or.inl ⟨by kernel_rfl, fun w hS => by obtain ⟨sc0, sc1, sc2, sc3⟩ := hS; go_simp⟩) hHeld ?_
   simp only [Act.put, zq1, zq2, zq3, zq4, zq5, zq6]
   refine Ru.wpAnyU_take (i := 8) (v := .int .i64 y3) rfl (by kernel_rfl) (by kernel_rfl) (by kernel_rfl) (by kernel_rfl) (by kernel_rfl) (by kernel_rfl) (fun _ _ _ h => h) (Or.inl ⟨by kernel_rfl, fun w hS => by obtain ⟨sc0, sc1, sc2, sc3⟩ := hS; go_simp⟩) hHeld ?_
   simp only [Act.put, zq1, zq2, zq3, zq4, zq5, zq6]
   refine Ru.wpAnyU_take (i := 9) (v := .bool q3) rfl (by kernel_rfl) (by kernel_rfl) (by kernel_rfl) (by kernel_rfl) (by kernel_rfl) (by kernel_rfl) (fun _ _ _ h => h) (Or.inl ⟨by kernel_rfl, fun w hS => by obtain ⟨sc0, sc1, sc2, sc3⟩ := hS; go_simp⟩) hHeld ?_
   simp only [Act.put, zq1, zq2, zq3, zq4, zq5, zq6]
   refine Ru.wpAnyU_take (i := 10) (v := .int .i64 y3) rfl (by kernel_rfl) (by kernel_rfl) (by kernel_rfl) (by kernel_rfl) (by kernel_rfl) (by kernel_rfl) (fun _ _ _ h => h) (Or.inl ⟨by kernel_rfl, fun w hS => by obtain ⟨sc0, sc1, sc2, sc3⟩ := hS; go_simp⟩) hHeld ?_
   simp only [Act.put, zq1, zq2, zq3, zq4, zq5, zq6]
   refine Ru.wpAnyU_take (i := 11) (v := .bool q3) rfl (by kernel_rfl) (by kernel_rfl) (by kernel_rfl) (by kernel_rfl) (by kernel_rfl) (by kernel_rfl) (fun _ _ _ h => h) (Or.inl ⟨by kernel_rfl, fun w hS => by obtain ⟨sc0, sc1, sc2, sc3⟩ := hS; go_simp⟩) hHeld ?_
   simp only [Act.put, zq1, zq2, zq3, zq4, zq5, zq6]
   refine Ru.wpAnyU_done (by kernel_rfl) ?_
   have m7 := CRow.keep HRow.out D7
   have f70 := CRow.free m7 0
   have f73 := CRow.free m7 3
   have c70 : w7.cell? ⟨g, 0, none⟩ = some (.int .i64 E0) := (HS2.out _ D7).1
   have c73 : w7.cell? ⟨g, 3, none⟩ = some (.int .i64 E3) := (HS2.out _ D7).2.1
   have m8 := CRow.set (CRow.set m7 0 (.int .i64 y0)) 3 (.int .i64 y3)
   rw [vals_set, vals_set] at m8
   have k7 := below_tr k5 D7
   have k8 : Below w4.heap.size w4 ((w7.setCell ⟨g, 0, none⟩ (.int .i64 y0)).setCell ⟨g, 3, none⟩ (.int .i64 y3)) := (k7.trans (St.below_set (x := ⟨g, 0, none⟩) k7.size hgo _)).trans (St.below_set (x := ⟨g, 3, none⟩) (by simp; exact k7.size) hgo _)
   have c83 : (w7.setCell ⟨g, 0, none⟩ (.int .i64 y0)).cell? ⟨g, 3, none⟩ = some (.int .i64 E3) := CRow.cell (CRow.set m7 0 (.int .i64 y0)) (k := 3) (by have e := CRow.cell m7 (k := 3) (v := .int .i64 (eyeF k 3)) (vals_at (by omega)) rfl; rw [c73] at e; rw [e, vals_set]; exact vals_at (by omega)) rfl
   have f83 := CRow.free (CRow.set m7 0 (.int .i64 y0)) 3
   obtain ⟨w8, hw8⟩ : ∃ W, W = (w7.setCell ⟨g, 0, none⟩ (.int .i64 y0)).setCell ⟨g, 3, none⟩ (.int .i64 y3) := ⟨_, rfl⟩
   rw [← hw8] at m8 k8
   have H8 := hide hw8
   have s8 := (Ud.crow_sl m8 (by omega)).congr (fun j hj => hbr.out j hj)
   have z8 := (z4.keep k8).swap
   have HAP2 := hide (z4.swap.apart (ra := some ⟨g, 0, none⟩) (fun x hx => by cases hx; exact hgo))
   have HS8 := hide s8
   have K8 := below_tr K4 k8
   clear hw8 m7 m8 s8 z4 k5 k7 k8 K4 HRow hbr HS2 D7 D5 HA0 HA3
   go_wp2_with (first
    | (rw [← H8.out])
    | (at_builtin; refine Ls.pushK (by rfl) _ _ (by rfl) w2.heap.size _ _ k (k + 1) 6 2 (br P a b c) (kr P a b c) (by rfl) z8 (by omega) (by omega) (by omega) (some ⟨g, 0, none⟩) 6 HS8.out HAP2.out (by rfl) ?_)
    | fail)
   intro v2 w9 z9 b9 _
   have z10 := z9.swap
   have K9 := b9.below K8 K8.size (fun q e => e)
   obtain ⟨qn, hqn⟩ : ∃ q, q = nA q0 P a b c k := ⟨_, rfl⟩
   rw [← hqn] at hnA ⊢
   clear hqn z9 b9 z8 HAP2 HS8 K8 H8
   cases qn with
   | true =>
    go_wp2
    go_roundw
    case rel => exact ⟨k + 1, by omega, by go_num, by rw [hnA.out]; rfl, z10, K9⟩
    case measure => simp [intOf]; omega
   | false =>
    cases q1 with
    | true =>
     go_wp2
     go_roundw
     case rel => exact ⟨k + 1, by omega, by go_num, by rw [hnA.out]; rfl, z10, K9⟩
     case measure => simp [intOf]; omega
    | false =>
     cases q2 with
     | true =>
      go_wp2
      go_roundw
      case rel => exact ⟨k + 1, by omega, by go_num, by rw [hnA.out]; rfl, z10, K9⟩
      case measure => simp [intOf]; omega
     | false =>
      go_wp2
      go_roundw
      case rel => exact ⟨k + 1, by omega, by go_num, by rw [hnA.out]; rfl, z10, K9⟩
      case measure => simp [intOf]; omega
  ·obtain rfl : k = 6 := by omega
   obtain ⟨lk, ck, rfl, gK⟩ := zr.gridK
   obtain ⟨lb, cb, rfl, gB⟩ := zr.gridB
   have HAp := hide (fun W lo cl vo vc (h1 : Grid W lo 6 cl 2 (kr P a b c)) (h2 : Sl W vo 2 vc (v2 (ox X x) (oy X y))) => rapply_any 6 2 cl vc lo vo (kr P a b c) (v2 (ox X x) (oy X y)) W (by omega) (by omega) h1 h2 HKb.out (v2_b (cl64 _) (cl64 _)))
   have c7 : wr.cell? ⟨g7, 0, none⟩ = some (.slice (some ⟨gv, 0, none⟩) 2 2) := CRow.cell (CRow.keep HN2.out Kr) (k := 0) rfl rfl
   have sv := (HVL.out _ Kr).1
   have hdO : anyb (fun i => Qn.great (Qn.rne (dk (kr P a b c i) (v2 (ox X x) (oy X y)) 2) (2 ^ 20))) 6 = dO X P x y a b c := rfl
   have hdV : (fun i => Qn.clamp (Qn.rne (dk (kr P a b c i) (v2 (ox X x) (oy X y)) 2) (2 ^ 20))) = dV X P x y a b c := rfl
   rw [hdO, hdV] at HAp
   obtain ⟨qa, hqa⟩ : ∃ q, q = nA q0 P a b c 6 := ⟨_, rfl⟩
   obtain ⟨qd, hqd⟩ : ∃ q, q = dO X P x y a b c := ⟨_, rfl⟩
   rw [← hqa]
   rw [← hqd] at HAp
   have HQA := hide hqa
   have HQD := hide hqd
   have HGK := hide gK
   have HGB := hide gB
   clear hdO hdV hqa hqd zr h gK gB HSo HK HVL
   go_wp2_with fail
   refine (HAp.out _ _ _ _ _ HGK.out sv).mono ?_
   rintro e w10 ⟨co, cc, rfl, hOd⟩
   have k10 := hOd.below
   obtain ⟨_, _, e1, sd, fd⟩ := own_fresh hOd
   injection e1 with ea _ ec
   subst ea ec
   obtain ⟨da, hda, hdc⟩ := sd.get
   obtain rfl := hda (by omega)
   have K10 := below_tr Kr k10
   have ld1 := sd.le
   have ld2 := sd.cap
   have HDC := hide hdc
   obtain ⟨qs, hqs⟩ : ∃ q, (qa || qd) = q := ⟨_, rfl⟩
   have HQS := hide hqs
   have KW := hide (below_tr HK2.out K10)
   have HGK1 := hide (HGK.out.keep k10)
   have HGB1 := hide (HGB.out.keep k10)
   clear sd fd hOd hda hdc c7 sv HAp Kr k10 HGK HGB hqs
   go_upto_region 17 with fail
   go_cut [8] (fun v wx => v = .bool qs ∧ wx = w10)
   case first =>
    cases qa with
    | true =>
     go_wp2
     go_meet
     exact ⟨by rw [← HQS.out]; rfl, rfl⟩
    | false =>
     go_wp2
     go_meet
     exact ⟨by rw [← HQS.out]; rfl, rfl⟩
   obtain ⟨rfl, rfl⟩ := hcut
   rename World => w11
   go_wp2_with (first
    | (refine St.wpList_storeNew isSt rfl _ _ (by rfl) _ [.slice none 0 0, .slice none 0 0] [.slice none 0 0, .slice none 0 0] (by rfl) (by rfl) rfl rfl (by intro v hv; simp only [List.mem_cons, List.not_mem_nil, or_false] at hv; rcases hv with rfl | rfl <;> rfl) ?_; intro w12 n12 k12)
    | fail)
   have l12 := CRow.lt n12
   obtain ⟨gs, hgs⟩ : ∃ g, g = w11.heap.size := ⟨_, rfl⟩
   rw [← hgs] at n12 l12 ⊢
   obtain ⟨o2, ho2⟩ : ∃ o, o = w12.heap.size := ⟨_, rfl⟩
   rw [← ho2] at l12
   have z12 : Ls.Sts o2 w12 (.slice none 0 0) (.slice none 0 0) 0 0 6 (xN X P x y a b c) (fun _ _ => 0) := Ls.Sts.nil (by omega) _ _ _
   have HE : Hid (∀ V, Ld.But (fun q => q = gs ∨ o2 ≤ q) w12 V → Below w11.heap.size w11 V) := fun V k => k.below k12 (by have := k12.size; omega) (by rintro q (e | e) <;> omega)
   have HGS : Hid (w11.heap.size ≤ gs) := by show _ ≤ _; omega
   have HL0 := CRow.lt r0'.out
   have HGW : w.heap.size + 1 + 1 < gs := by have := KW.out.size; omega
   clear k12 hgs ho2 HL0
   go_loopw [8, 23] (fun q i wl => ∃ (k : Nat) (vX : Value), k ≤ 6 ∧ i = .int .i64 (k : Int) ∧ q = .bool (nB qs X P x y a b c k) ∧ CRow wl gs 25 [vX, .slice none 0 0] ∧ Ls.Sts o2 wl vX (.slice none 0 0) k 0 6 (xN X P x y a b c) (fun _ _ => 0) ∧ Ld.But (fun q => q = gs ∨ o2 ≤ q) w12 wl) (fun _ i _ => 6 - (intOf i).toNat)
   case atStart => exact ⟨0, _, by omega, rfl, rfl, n12, z12, Ld.But.refl _ _⟩
   case round =>
    rename World => wl
    obtain ⟨k, vX, hk, rfl, rfl, nl, zl, bl⟩ := hrel
    by_cases h : k < 6
    ·have El := HE.out _ bl
     have KL := below_tr KW.out El
     have c0 : wl.cell? ⟨w.heap.size, 0, none⟩ = some (.slice (some xa) 6 xc) := CRow.cell (CRow.keep t0'.out KL) (k := 0) rfl rfl
     have cx := keep_cell KL (HXC.out k h)
     have cd := keep_cell El (HDC.out k h)
     have HA := hide (fun W => radd13_no (X k) (dV X P x y a b c k) W (bX k).1 (bX k).2 (cl64 _).1 (cl64 _).2)
     have k6 : (k : Int) < 6 := by omega
     have hx1 : Qn.clamp (X k + dV X P x y a b c k) = xN X P x y a b c k := rfl
     have hnB : Hid (nB qs X P x y a b c (k + 1) = (nB qs X P x y a b c k || Qn.great (X k + dV X P x y a b c k))) := rfl
     rw [hx1] at HA
     obtain ⟨xk, hxk⟩ : ∃ z, z = X k := ⟨_, rfl⟩
     obtain ⟨dk', hdk⟩ : ∃ z, z = dV X P x y a b c k := ⟨_, rfl⟩
     obtain ⟨y1, hy1⟩ : ∃ z, z = xN X P x y a b c k := ⟨_, rfl⟩
     rw [← hxk, ← hdk] at HA hnB
     rw [← hy1] at HA
     rw [← hxk] at cx
     rw [← hdk] at cd
     obtain ⟨q1, hq1⟩ : ∃ z, z = Qn.great (xk + dk') := ⟨_, rfl⟩
     rw [← hq1] at HA hnB
     have HY1 := hide hy1
     have hS : ∀ V, Below wl.heap.size wl V → (V.cell? ⟨w.heap.size, 0, none⟩ = some (.slice (some xa) 6 xc) ∧ V.cell? (xa.add k) = some (.int .i64 xk) ∧ V.cell? (da.add k) = some (.int .i64 dk')) := fun V k => ⟨keep_cell k c0, keep_cell k cx, keep_cell k cd⟩
     have HS := hide hS
     clear hS c0 cx cd hxk hdk hy1 hq1 hx1
     go_upto_region 22 with fail
     refine Ru.wp_region_U [] (fun w' => w'.cell? ⟨w.heap.size, 0, none⟩ = some (.slice (some xa) 6 xc) ∧ w'.cell? (xa.add k) = some (.int .i64 xk) ∧ w'.cell? (da.add k) = some (.int .i64 dk')) (by kernel_rfl) (HS.out _ (Vc.below_drew' _)) (fun hHeld => ?_)
     refine Ru.wpAnyU_take (i := 0) (v := .pointer (some ⟨w.heap.size, 0, none⟩)) rfl (by kernel_rfl) (by kernel_rfl) (by kernel_rfl) (by kernel_rfl) (by kernel_rfl) (by kernel_rfl) (fun _ _ _ h => h) (Or.inl ⟨by kernel_rfl, fun w hS => by obtain ⟨sc0, sc1, sc2⟩ := hS; go_simp⟩) hHeld ?_
     simp only [Act.put, zq1, zq2, zq3, zq4, zq5, zq6]
     refine Ru.wpAnyU_take (i := 1) (v := .slice (some xa) 6 xc) rfl (by kernel_rfl) (by kernel_rfl) (by kernel_rfl) (by kernel_rfl) (by kernel_rfl) (by kernel_rfl) (fun _ _ _ h => h) (Or.inl ⟨by kernel_rfl, fun w hS => by obtain ⟨sc0, sc1, sc2⟩ := hS; go_simp⟩) hHeld ?_
     simp only [Act.put, zq1, zq2, zq3, zq4, zq5, zq6]
     refine Ru.wpAnyU_take (i := 2) (v := .int .i64 (k : Int)) rfl (by kernel_rfl) (by kernel_rfl) (by kernel_rfl) (by kernel_rfl) (by kernel_rfl) (by kernel_rfl) (fun _ _ _ h => h) (Or.inl ⟨by kernel_rfl, fun w hS => by obtain ⟨sc0, sc1, sc2⟩ := hS; go_simp⟩) hHeld ?_
     simp only [Act.put, zq1, zq2, zq3, zq4, zq5, zq6]
     refine Ru.wpAnyU_take (i := 3) (v := .pointer (some (xa.add k))) rfl (by kernel_rfl) (by kernel_rfl) (by kernel_rfl) (by kernel_rfl) (by kernel_rfl) (by kernel_rfl) (fun _ _ _ h => h) (Or.inl ⟨by kernel_rfl, fun w hS => by obtain ⟨sc0, sc1, sc2⟩ := hS; go_simp⟩) hHeld ?_
     simp only [Act.put, zq1, zq2, zq3, zq4, zq5, zq6]
     refine Ru.wpAnyU_take (i := 4) (v := .int .i64 xk) rfl (by kernel_rfl) (by kernel_rfl) (by kernel_rfl) (by kernel_rfl) (by kernel_rfl) (by kernel_rfl) (fun _ _ _ h => h) (Ud.yieldsI (by kernel_rfl) _ (by rfl) (xa.add k) _ (by rfl) (fun w h => h.2.1)) hHeld ?_
     simp only [Act.put, zq1, zq2, zq3, zq4, zq5, zq6]
     refine Ru.wpAnyU_take (i := 5) (v := .slice (some da) 6 cc) rfl (by kernel_rfl) (by kernel_rfl) (by kernel_rfl) (by kernel_rfl) (by kernel_rfl) (by kernel_rfl) (fun _ _ _ h => h) (Or.inl ⟨by kernel_rfl, fun w hS => by obtain ⟨sc0, sc1, sc2⟩ := hS; go_simp⟩) hHeld ?_
     simp only [Act.put, zq1, zq2, zq3, zq4, zq5, zq6]
     refine Ru.wpAnyU_take (i := 6) (v := .int .i64 (k : Int)) rfl (by kernel_rfl) (by kernel_rfl) (by kernel_rfl) (by kernel_rfl) (by kernel_rfl) (by kernel_rfl) (fun _ _ _ h => h) (Or.inl ⟨by kernel_rfl, fun w hS => by obtain ⟨sc0, sc1, sc2⟩ := hS; go_simp⟩) hHeld ?_
     simp only [Act.put, zq1, zq2, zq3, zq4, zq5, zq6]
     refine Ru.wpAnyU_take (i := 7) (v := .pointer (some (da.add k))) rfl (by kernel_rfl) (by kernel_rfl) (by kernel_rfl) (by kernel_rfl) (by kernel_rfl) (by kernel_rfl) (fun _ _ _ h => h) (Or.inl ⟨by kernel_rfl, fun w hS => by obtain ⟨sc0, sc1, sc2⟩ := hS; go_simp⟩) hHeld ?_
     simp only [Act.put, zq1, zq2, zq3, zq4, zq5, zq6]
     refine Ru.wpAnyU_take (i := 8) (v := .int .i64 dk') rfl (by kernel_rfl) (by kernel_rfl) (by kernel_rfl) (by kernel_rfl) (by kernel_rfl) (by kernel_rfl) (fun _ _ _ h => h) (Ud.yieldsI (by kernel_rfl) _ (by rfl) (da.add k) _ (by rfl) (fun w h => h.2.2)) hHeld ?_
     simp only [Act.put, zq1, zq2, zq3, zq4, zq5, zq6]
     refine Ru.wpAnyU_ready (rs := [9]) (by kernel_rfl) (by simp) ?_
     refine Ru.AllReadyU.cons rfl (by kernel_rfl) (fun K hK => ?_) Ru.AllReadyU.nil
     go_simp
     refine (HA.out _).mono ?_
     rintro _ w15 ⟨rfl, kw15⟩
     have D2 := below_tr (Vc.below_drew' wl) kw15
     go_wp2_with fail
     refine hK.out _ _ (HS.out _ D2) (fun hHeld => ?_)
     clear hK K
     try simp only [Act.put, zq1, zq2, zq3, zq4, zq5, zq6]
     refine Ru.wpAnyU_take (i := 10) (v := .tuple #[.int .i64 y1, .bool q1]) rfl (by kernel_rfl) (by kernel_rfl) (by kernel_rfl) (by kernel_rfl) (by kernel_rfl) (by kernel_rfl) (fun _ _ _ h => h) (Or.inl ⟨by kernel_rfl, fun w hS => by obtain ⟨sc0, sc1, sc2⟩ := hS; go_simp⟩) hHeld ?_
     simp only [Act.put, zq1, zq2, zq3, zq4, zq5, zq6]
     refine Ru.wpAnyU_take (i := 11) (v := .int .i64 y1) rfl (by kernel_rfl) (by kernel_rfl) (by kernel_rfl) (by kernel_rfl) (by kernel_rfl) (by kernel_rfl) (fun _ _ _ h => h) (Or.inl ⟨by kernel_rfl, fun w hS => by obtain ⟨sc0, sc1, sc2⟩ := hS; go_simp⟩) hHeld ?_
     simp only [Act.put, zq1, zq2, zq3, zq4, zq5, zq6]
     refine Ru.wpAnyU_take (i := 12) (v := .bool q1) rfl (by kernel_rfl) (by kernel_rfl) (by kernel_rfl) (by kernel_rfl) (by kernel_rfl) (by kernel_rfl) (fun _ _ _ h => h) (Or.inl ⟨by kernel_rfl, fun w hS => by obtain ⟨sc0, sc1, sc2⟩ := hS; go_simp⟩) hHeld ?_
     simp only [Act.put, zq1, zq2, zq3, zq4, zq5, zq6]
     refine Ru.wpAnyU_take (i := 13) (v := .int .i64 y1) rfl (by kernel_rfl) (by kernel_rfl) (by kernel_rfl) (by kernel_rfl) (by kernel_rfl) (by kernel_rfl) (fun _ _ _ h => h) (Or.inl ⟨by kernel_rfl, fun w hS => by obtain ⟨sc0, sc1, sc2⟩ := hS; go_simp⟩) hHeld ?_
     simp only [Act.put, zq1, zq2, zq3, zq4, zq5, zq6]
     refine Ru.wpAnyU_take (i := 14) (v := .bool q1) rfl (by kernel_rfl) (by kernel_rfl) (by kernel_rfl) (by kernel_rfl) (by kernel_rfl) (by kernel_rfl) (fun _ _ _ h => h) (Or.inl ⟨by kernel_rfl, fun w hS => by obtain ⟨sc0, sc1, sc2⟩ := hS; go_simp⟩) hHeld ?_
     simp only [Act.put, zq1, zq2, zq3, zq4, zq5, zq6]
     refine Ru.wpAnyU_done (by kernel_rfl) ?_
     have z2 := zl.keep D2
     have n2 := CRow.keep nl D2
     have b2 := bl.then D2
     have c2 : w15.cell? ⟨gs, 0, none⟩ = some vX := CRow.cell n2 (k := 0) rfl rfl
     clear HS zl nl bl El KL D2 kw15
     go_wp2_with (first
      | (at_builtin; refine Ls.pushX (by rfl) _ _ (by rfl) o2 _ _ k 0 6 (xN X P x y a b c) (fun _ _ => 0) (by rfl) z2 (by omega) (by omega) y1 HY1.out (by rfl) ?_)
      | fail)
     intro v' w16 z3 b3
     obtain ⟨lo', cm', hv', _⟩ := z3.sl
     subst hv'
     have n3 := Ld.crowBut n2 b3 (by omega)
     have c3 : w16.cell? ⟨gs, 0, none⟩ = some vX := CRow.cell n3 (k := 0) rfl rfl
     have f3 := CRow.free n3 0
     have n4 := CRow.set n3 0 (.slice lo' (k + 1) cm')
     have b4 := (b2.trans (b3.mono fun q e => Or.inr e)).set (p := ⟨gs, 0, none⟩) (.slice lo' (k + 1) cm') (Or.inl rfl)
     have z4 := z3.put (g := gs) l12 ((Ld.But.refl (· = gs) w16).set (p := ⟨gs, 0, none⟩) (.slice lo' (k + 1) cm') rfl)
     clear z2 n2 b2 c2 z3 b3 n3 HY1
     obtain ⟨qn, hqn⟩ : ∃ q, q = nB qs X P x y a b c k := ⟨_, rfl⟩
     rw [← hqn] at hnB ⊢
     clear hqn
     cases qn with
     | true =>
      go_wp2
      go_roundw
      case rel => exact ⟨k + 1, _, by omega, by go_num, by rw [hnB.out]; rfl, n4, z4, b4⟩
      case measure => simp [intOf]; omega
     | false =>
      go_wp2
      go_roundw
      case rel => exact ⟨k + 1, _, by omega, by go_num, by rw [hnB.out]; rfl, n4, z4, b4⟩
      case measure => simp [intOf]; omega
    ·obtain rfl : k = 6 := by omega
     obtain ⟨yo, yc, rfl, sX⟩ := zl.sl
     have El := HE.out _ bl
     have KL := below_tr KW.out El
     have BL := below_tr B0 KL
     have gB := HGB1.out.keep El
     have gK := HGK1.out.keep El
     have gP := HP0.out.keep KL
     have c1 : wl.cell? ⟨w.heap.size, 1, none⟩ = some (.slice (some pa) 6 pc) := CRow.cell (CRow.keep t0'.out KL) (k := 1) rfl rfl
     have HR1 := hide (fun W (h1 : Grid W lb 6 cb 6 (br P a b c)) (h2 : Grid W (some pa) 6 pc 6 P) => raround_any 6 6 cb pc lb (some pa) (br P a b c) P W (by omega) (by omega) (by omega) (by omega) h1 h2 (br_b P a b c) bP)
     have HR2 := hide (fun W ro rc (h1 : Grid W lk 6 ck 2 (kr P a b c)) (h2 : Grid W ro 2 rc 2 (g2 a c b)) => raround_any 6 2 ck rc lk ro (kr P a b c) (g2 a c b) W (by omega) (by omega) (by omega) (by omega) h1 h2 HKb.out (g2_b (by have := hp.2.2.1; unfold InV at this; omega) (by have := hp.2.2.2.2.1; unfold InV at this; omega) (by have := hp.2.2.2.1; unfold InV at this; omega)))
     have HR3 : Hid (∀ W uo uc vo vc, Grid W uo 6 uc 6 (arV 6 (br P a b c) P) → Grid W vo 6 vc 6 (arV 2 (kr P a b c) (g2 a c b)) → Calls Tryz.prog 43 #[.slice uo 6 uc, .slice vo 6 vc, .bool false] W fun e w' => ∃ lo cm, e = .returned (.tuple #[.slice lo 6 cm, .bool (wO P a b c)]) ∧ Grid w' lo 6 cm 6 (wN P a b c) ∧ Below W.heap.size W w') := fun W uo uc vo vc h1 h2 => rmadd_no 6 6 uc vc uo vo (arV 6 (br P a b c) P) (arV 2 (kr P a b c) (g2 a c b)) W (by omega) (by omega) (by omega) (by omega) h1 h2 (cl_bd _) (cl_bd _)
     have HR4 : Hid (∀ W lo cm, Grid W lo 6 cm 6 (wN P a b c) → Calls Tryz.prog 44 #[.slice lo 6 cm] W fun e w' => ∃ L' cm' G' C', e = .returned (.tuple #[.slice (some ⟨L', 0, none⟩) 6 cm', .bool (zO P a b c)]) ∧ RwcAt W.heap.size W w' L' cm' G' C' 6 6 (zE P a b c)) := fun W lo cm h1 => reven_own 6 cm lo (wN P a b c) W (by omega) (by omega) h1 (cl_bd _)
     have HNO : Hid (nO X P x y a b c = (nB qs X P x y a b c 6 || (arO1 6 6 (br P a b c) P || arO2 6 6 (br P a b c) P) || (arO1 6 2 (kr P a b c) (g2 a c b) || arO2 6 2 (kr P a b c) (g2 a c b)) || wO P a b c || zO P a b c)) := by
      show nO X P x y a b c = _
      rw [← HQS.out, HQA.out, HQD.out, ← HQ0.out]
      rfl
     have HEn : Hid (∀ i j, i < 6 → nD (zE P a b c) 6 i j = zN P a b c i j) := fun i j hi => nD_end _ j hi
     obtain ⟨E, hE⟩ : ∃ E, E = zE P a b c := ⟨_, rfl⟩
     rw [← hE] at HR4 HEn
     obtain ⟨qf, hqf⟩ : ∃ q, q = nB qs X P x y a b c 6 := ⟨_, rfl⟩
     obtain ⟨u1, hu1⟩ : ∃ q, q = (arO1 6 6 (br P a b c) P || arO2 6 6 (br P a b c) P) := ⟨_, rfl⟩
     obtain ⟨u2, hu2⟩ : ∃ q, q = (arO1 6 2 (kr P a b c) (g2 a c b) || arO2 6 2 (kr P a b c) (g2 a c b)) := ⟨_, rfl⟩
     obtain ⟨u3, hu3⟩ : ∃ q, q = wO P a b c := ⟨_, rfl⟩
     obtain ⟨u4, hu4⟩ : ∃ q, q = zO P a b c := ⟨_, rfl⟩
     rw [← hqf, ← hu1, ← hu2, ← hu3, ← hu4] at HNO
     rw [← hqf]
     rw [← hu1] at HR1
     rw [← hu2] at HR2
     rw [← hu3] at HR3
     rw [← hu4] at HR4
     have ml := CRow.keep m0'.out KL
     have rl := CRow.keep r0'.out KL
     have HSX := hide sX
     have lgs : w11.heap.size ≤ gs := HGS.out
     clear hqf hu1 hu2 hu3 hu4 hE zl bl h KL sX
     go_wp2_with fail
     refine (HR1.out _ gB gP).mono ?_
     rintro e w20 ⟨lu, cu, rfl, gU, k20⟩
     have gK20 := gK.keep k20
     have nl20 := CRow.keep nl k20
     have ml20 := CRow.keep ml k20
     have rl20 := CRow.keep rl k20
     have B20 := below_tr BL k20
     have sX20 := HSX.out.keep k20
     have s2 : w20.cell? ⟨w.heap.size + 1, 2, none⟩ = some (.int .i64 a) := CRow.cell ml20 (k := 2) rfl rfl
     have s3 : w20.cell? ⟨w.heap.size + 1, 3, none⟩ = some (.int .i64 b) := CRow.cell ml20 (k := 3) rfl rfl
     have s4 : w20.cell? ⟨w.heap.size + 1, 4, none⟩ = some (.int .i64 c) := CRow.cell ml20 (k := 4) rfl rfl
     have x1 : CRow (w20.alloc (.cells #[.int .i64 a, .int .i64 c] 2)) w20.heap.size 2 (vals 2 (v2 a c)) := crow_new w20 2 (vals 2 (v2 a c))
     have x2 : CRow ((w20.alloc (.cells #[.int .i64 a, .int .i64 c] 2)).alloc (.cells #[.int .i64 c, .int .i64 b] 2)) (w20.heap.size + 1) 2 (vals 2 (v2 c b)) := crow_new1 w20 (.cells #[.int .i64 a, .int .i64 c] 2) 2 (vals 2 (v2 c b))
     have x3 : CRow (((w20.alloc (.cells #[.int .i64 a, .int .i64 c] 2)).alloc (.cells #[.int .i64 c, .int .i64 b] 2)).alloc (.cells #[.slice (some ⟨w20.heap.size, 0, none⟩) 2 2, .slice (some ⟨w20.heap.size + 1, 0, none⟩) 2 2] 22)) (w20.heap.size + 1 + 1) 22 [.slice (some ⟨w20.heap.size, 0, none⟩) 2 2, .slice (some ⟨w20.heap.size + 1, 0, none⟩) 2 2] := crow_new2 w20 (.cells #[.int .i64 a, .int .i64 c] 2) (.cells #[.int .i64 c, .int .i64 b] 2) 22 _
     have g8 := (grid2 x3 ((x1.alloc (.cells #[.int .i64 c, .int .i64 b] 2)).alloc (.cells #[.slice (some ⟨w20.heap.size, 0, none⟩) 2 2, .slice (some ⟨w20.heap.size + 1, 0, none⟩) 2 2] 22)) (x2.alloc (.cells #[.slice (some ⟨w20.heap.size, 0, none⟩) 2 2, .slice (some ⟨w20.heap.size + 1, 0, none⟩) 2 2] 22))).congr (fun i j hi hj => g2_rows a c b i j hi hj)
     have K20 : Below w20.heap.size w20 (((w20.alloc (.cells #[.int .i64 a, .int .i64 c] 2)).alloc (.cells #[.int .i64 c, .int .i64 b] 2)).alloc (.cells #[.slice (some ⟨w20.heap.size, 0, none⟩) 2 2, .slice (some ⟨w20.heap.size + 1, 0, none⟩) 2 2] 22)) := below_al (below_al (below_al (Below.refl _ _) _) _) _
     have s4a : (w20.alloc (.cells #[.int .i64 a, .int .i64 c] 2)).cell? ⟨w.heap.size + 1, 4, none⟩ = some (.int .i64 c) := keep_cell (below_al (Below.refl _ w20) _) s4
     have s3a : (w20.alloc (.cells #[.int .i64 a, .int .i64 c] 2)).cell? ⟨w.heap.size + 1, 3, none⟩ = some (.int .i64 b) := keep_cell (below_al (Below.refl _ w20) _) s3
     have gK21 := gK20.keep K20
     have gU21 := gU.keep K20
     have nl21 := CRow.keep nl20 K20
     have rl21 := CRow.keep rl20 K20
     have B21 := below_tr B20 K20
     have sX21 := sX20.keep K20
     have HG8 := hide g8
     clear x1 x2 x3 g8 gB gP gK gK20 gU nl nl20 ml ml20 rl rl20 B20 sX20 HSX HR1 c1 BL k20
     go_wp2_with fail
     refine (HR2.out _ _ _ gK21 HG8.out).mono ?_
     rintro e w21 ⟨lv, cv, rfl, gV, k21⟩
     have gU22 := gU21.keep k21
     have nl22 := CRow.keep nl21 k21
     have rl22 := CRow.keep rl21 k21
     have B22 := below_tr B21 k21
     have sX22 := sX21.keep k21
     clear gK21 gU21 nl21 rl21 B21 sX21 HG8 HR2 K20 k21 s2 s3 s4 s3a s4a
     go_wp2_with fail
     refine (HR3.out _ _ _ _ _ gU22 gV).mono ?_
     rintro e w22 ⟨lw, cw, rfl, gW, k22⟩
     have nl23 := CRow.keep nl22 k22
     have rl23 := CRow.keep rl22 k22
     have B23 := below_tr B22 k22
     have sX23 := sX22.keep k22
     clear gU22 gV nl22 rl22 B22 sX22 HR3 k22
     go_wp2_with fail
     refine (HR4.out _ _ _ gW).mono ?_
     rintro e w23 ⟨L, cm, G, Cc, rfl, hR⟩
     have R6 := hR.congr (F' := nD E 0) (fun i j _ _ => nD_zero E i j)
     have capL := hR.cap
     have capL2 := hR.cap2
     clear hR gW HR4
     go_wp2
     go_loopw [34] (fun v wz => ∃ k : Nat, k ≤ 6 ∧ v = .int .i64 (k : Int) ∧ RwcAt w22.heap.size w22 wz L cm G Cc 6 6 (nD E k)) (fun v _ => 6 - (intOf v).toNat)
     case atStart => exact ⟨0, by omega, rfl, R6⟩
     case round =>
      rename World => wo
      obtain ⟨k, hk, rfl, hO⟩ := hrel
      by_cases h : k < 6
      ·have l0 := hO.cellL h
       have a0 := hO.cell h h
       have fr := hO.free h k
       have s0 := hO.set h h 0
       have rm := hO.room k h
       rw [nD_at] at a0
       have k6' : (k : Int) < 6 := by omega
       obtain ⟨g0, hg0⟩ : ∃ g, g = G k := ⟨_, rfl⟩
       obtain ⟨ckk, hck⟩ : ∃ c, c = Cc k := ⟨_, rfl⟩
       rw [← hg0] at l0 a0 fr s0
       rw [← hck] at l0 rm
       obtain ⟨r6, r7⟩ := rm
       by_cases hn : E k k < 0
       ·have s1 := s0.congr (fun i j _ _ => nD_put E k hn i j)
        obtain ⟨V, hV⟩ : ∃ V, V = E k k := ⟨_, rfl⟩
        rw [← hV] at a0 hn
        clear s0 hO hg0 hck hV
        go_wp2
        go_roundw
        case rel => exact ⟨k + 1, by omega, by go_num, s1⟩
        case measure => simp [intOf]; omega
       ·have s1 := hO.congr (fun i j _ _ => nD_skip E k hn i j)
        obtain ⟨V, hV⟩ : ∃ V, V = E k k := ⟨_, rfl⟩
        rw [← hV] at a0 hn
        clear s0 hO hg0 hck hV
        go_wp2
        go_roundw
        case rel => exact ⟨k + 1, by omega, by go_num, s1⟩
        case measure => simp [intOf]; omega
      ·obtain rfl : k = 6 := by omega
       have kz := hO.below
       have n5 := CRow.keep nl23 kz
       have r5 := CRow.keep rl23 kz
       have sX5 := sX23.keep kz
       have B5 := below_tr B23 kz
       have lg := CRow.lt nl23
       have c51 : wo.cell? ⟨gs, 1, none⟩ = some (.slice none 0 0) := CRow.cell n5 (k := 1) rfl rfl
       have f51 := CRow.free n5 1
       have bs := (Ld.But.refl (· = gs) wo).set (p := ⟨gs, 1, none⟩) (.slice (some ⟨L, 0, none⟩) 6 cm) rfl
       have gE := (rwc_but hO lg bs).congr (fun i j hi hj => HEn.out i j hi)
       have sE := sl_keep n5 (fun z h => by simp at h) sX5 (by omega) bs
       have n6 := CRow.set n5 1 (.slice (some ⟨L, 0, none⟩) 6 cm)
       have lr : w.heap.size + 1 + 1 ≠ gs := by omega
       have r6 := CRow.other r5 (p := ⟨gs, 1, none⟩) (.slice (some ⟨L, 0, none⟩) 6 cm) lr
       have B6 := B5.trans (St.below_set (x := ⟨gs, 1, none⟩) B5.size (by show w.heap.size ≤ gs; omega) (.slice (some ⟨L, 0, none⟩) 6 cm))
       obtain ⟨w6, hw6⟩ : ∃ W, W = wo.setCell ⟨gs, 1, none⟩ (.slice (some ⟨L, 0, none⟩) 6 cm) := ⟨_, rfl⟩
       rw [← hw6] at gE sE n6 r6 B6
       have H6 := hide hw6
       have kE := but_row w6 (w.heap.size + 1 + 1) ([.slice yo 6 yc, .slice (some ⟨L, 0, none⟩) 6 cm] : List Value).toArray
       have sF := sl_keep r6 (fun z h => by simp at h) sE (by omega) kE
       have gF := grid_keep r6 (fun z h => by simp at h) (fun q c h => by simp at h) gE (by omega) kE
       have rE := CRow.row r6 [.slice yo 6 yc, .slice (some ⟨L, 0, none⟩) 6 cm]
       have BE := St.below_row B6 (g := w.heap.size + 1 + 1) (by omega) ([.slice yo 6 yc, .slice (some ⟨L, 0, none⟩) 6 cm] : List Value).toArray
       clear hw6 hO kz nl23 rl23 sX23 B23 n5 r5 sX5 B5 bs gE sE kE h R6
       go_upto_region 35 with (first | (rw [← H6.out]) | fail)
       try rw [← H6.out]
       cases qf with
       | true =>
        repeat (first
         | ((with_reducible show wpList _ _ _ _ _ _); refine Ud.loadC isSt _ (by with_reducible rfl) _ _ (by rfl) (by with_reducible exact n6) rfl (by kernel_rfl) ?_)
         | ((with_reducible show wpList _ _ _ _ _ _); refine Ud.storeC isSt _ _ (by with_reducible rfl) _ _ [.slice yo 6 yc, .slice (some ⟨L, 0, none⟩) 6 cm] (by rfl) (by rfl) (by with_reducible exact r6) rfl rfl (by intro v hv; simp only [List.mem_cons, List.not_mem_nil, or_false] at hv; rcases hv with rfl | rfl <;> rfl) rfl ?_)
         | go_step)
        exact bodyPost_ret (results_3 isSt Tryz.results14 _ _ (w.heap.size + 1 + 1) _ rfl rE rfl) rfl ⟨_, _, _, _, by rw [HNO.out]; rfl, sF, gF, BE⟩
       | false =>
        cases u1 with
        | true =>
         repeat (first
          | ((with_reducible show wpList _ _ _ _ _ _); refine Ud.loadC isSt _ (by with_reducible rfl) _ _ (by rfl) (by with_reducible exact n6) rfl (by kernel_rfl) ?_)
          | ((with_reducible show wpList _ _ _ _ _ _); refine Ud.storeC isSt _ _ (by with_reducible rfl) _ _ [.slice yo 6 yc, .slice (some ⟨L, 0, none⟩) 6 cm] (by rfl) (by rfl) (by with_reducible exact r6) rfl rfl (by intro v hv; simp only [List.mem_cons, List.not_mem_nil, or_false] at hv; rcases hv with rfl | rfl <;> rfl) rfl ?_)
          | go_step)
         exact bodyPost_ret (results_3 isSt Tryz.results14 _ _ (w.heap.size + 1 + 1) _ rfl rE rfl) rfl ⟨_, _, _, _, by rw [HNO.out]; rfl, sF, gF, BE⟩
        | false =>
         cases u2 with
         | true =>
          repeat (first
           | ((with_reducible show wpList _ _ _ _ _ _); refine Ud.loadC isSt _ (by with_reducible rfl) _ _ (by rfl) (by with_reducible exact n6) rfl (by kernel_rfl) ?_)
           | ((with_reducible show wpList _ _ _ _ _ _); refine Ud.storeC isSt _ _ (by with_reducible rfl) _ _ [.slice yo 6 yc, .slice (some ⟨L, 0, none⟩) 6 cm] (by rfl) (by rfl) (by with_reducible exact r6) rfl rfl (by intro v hv; simp only [List.mem_cons, List.not_mem_nil, or_false] at hv; rcases hv with rfl | rfl <;> rfl) rfl ?_)
           | go_step)
          exact bodyPost_ret (results_3 isSt Tryz.results14 _ _ (w.heap.size + 1 + 1) _ rfl rE rfl) rfl ⟨_, _, _, _, by rw [HNO.out]; rfl, sF, gF, BE⟩
         | false =>
          cases u3 with
          | true =>
           repeat (first
            | ((with_reducible show wpList _ _ _ _ _ _); refine Ud.loadC isSt _ (by with_reducible rfl) _ _ (by rfl) (by with_reducible exact n6) rfl (by kernel_rfl) ?_)
            | ((with_reducible show wpList _ _ _ _ _ _); refine Ud.storeC isSt _ _ (by with_reducible rfl) _ _ [.slice yo 6 yc, .slice (some ⟨L, 0, none⟩) 6 cm] (by rfl) (by rfl) (by with_reducible exact r6) rfl rfl (by intro v hv; simp only [List.mem_cons, List.not_mem_nil, or_false] at hv; rcases hv with rfl | rfl <;> rfl) rfl ?_)
            | go_step)
           exact bodyPost_ret (results_3 isSt Tryz.results14 _ _ (w.heap.size + 1 + 1) _ rfl rE rfl) rfl ⟨_, _, _, _, by rw [HNO.out]; rfl, sF, gF, BE⟩
          | false =>
           repeat (first
            | ((with_reducible show wpList _ _ _ _ _ _); refine Ud.loadC isSt _ (by with_reducible rfl) _ _ (by rfl) (by with_reducible exact n6) rfl (by kernel_rfl) ?_)
            | ((with_reducible show wpList _ _ _ _ _ _); refine Ud.storeC isSt _ _ (by with_reducible rfl) _ _ [.slice yo 6 yc, .slice (some ⟨L, 0, none⟩) 6 cm] (by rfl) (by rfl) (by with_reducible exact r6) rfl rfl (by intro v hv; simp only [List.mem_cons, List.not_mem_nil, or_false] at hv; rcases hv with rfl | rfl <;> rfl) rfl ?_)
            | go_step)
           exact bodyPost_ret (results_3 isSt Tryz.results14 _ _ (w.heap.size + 1 + 1) _ rfl rE rfl) rfl ⟨_, _, _, _, by rw [HNO.out]; rfl, sF, gF, BE⟩
end Go.Proofs.YtlomfjacgomhdaaGreatDoor
namespace Go.Proofs.YtlomfjacgomhdaaGreatDoor
open Go.RowKit Vc St Mt Dt Pr Ud
attribute [local go_sem ↓] Go.wp_at_zero Go.wp_at_succ
set_option maxRecDepth 20000 in
set_option maxHeartbeats 2000000 in
theorem dnext13_no (xo po : Option Addr) (n xc pc : Nat) (x y a b c k : Int) (w : World) (hk : k ≠ 0) (hO : ∀ W, Below w.heap.size w W → Calls Tryz.prog 9 #[.agg #[.slice xo 6 xc, .slice po n pc], .agg (pv x y a b c).toArray] W fun e w' => e = .returned (.tuple #[.agg #[.slice none 0 0, .slice none 0 0, .slice none 0 0], .bool false, .int .i64 k]) ∧ Below W.heap.size W w') :
  Calls Tryz.prog 14 #[.agg #[.slice xo 6 xc, .slice po n pc], .agg (pv x y a b c).toArray] w fun e w' => e = .returned (.tuple #[.agg #[.slice none 0 0, .slice none 0 0], .bool false, .int .i64 k]) ∧ Below w.heap.size w w' := by
 have HO := Ud.hide hO
 have t0 := ((crow_new w 25 [.slice xo 6 xc, .slice po n pc]).alloc (.cells (pv x y a b c).toArray 27)).alloc (.cells [.slice none 0 0, .slice none 0 0].toArray 25)
 have m0 := (crow_new1 w (.cells [.slice xo 6 xc, .slice po n pc].toArray 25) 27 (pv x y a b c)).alloc (.cells [.slice none 0 0, .slice none 0 0].toArray 25)
 have r0 := crow_new2 w (.cells [.slice xo 6 xc, .slice po n pc].toArray 25) (.cells (pv x y a b c).toArray 27) 25 [.slice none 0 0, .slice none 0 0]
 have B0 : Below w.heap.size w (((w.alloc (.cells [.slice xo 6 xc, .slice po n pc].toArray 25)).alloc (.cells (pv x y a b c).toArray 27)).alloc (.cells [.slice none 0 0, .slice none 0 0].toArray 25)) := below_al (below_al (below_al (Below.refl _ _) _) _) _
 obtain ⟨W, hW⟩ : ∃ W, W = ((w.alloc (.cells [.slice xo 6 xc, .slice po n pc].toArray 25)).alloc (.cells (pv x y a b c).toArray 27)).alloc (.cells [.slice none 0 0, .slice none 0 0].toArray 25) := ⟨_, rfl⟩
 rw [← hW] at t0 m0 r0 B0
 have HW := Ud.hide hW
 have e1 : (k == 0) = false := beq_eq_false_iff_ne.2 hk
 have e2 : (k != 0) = true := by rw [bne, e1]; rfl
 have one2 : ∀ u v : Option Addr, ∀ q ∈ [Value.slice u 0 0, Value.slice v 0 0], q.oneCell' = true := by
  intro u v q hq; simp only [List.mem_cons, List.not_mem_nil, or_false] at hq; rcases hq with rfl | rfl <;> rfl
 clear hW hO hk
 go_enter Tryz.func14, Tryz.ntmps14
 go_wp2_with (first
  | (erw [← HW.out]; refine St.wpList_load isSt (by rfl) _ (by rfl) _ _ (by rfl) (by with_reducible exact t0) rfl ?_)
  | (refine St.wpList_load isSeen (by rfl) _ (by rfl) _ _ (by rfl) (by with_reducible exact m0) rfl ?_)
  | fail)
 refine (HO.out _ B0).mono ?_
 rintro e w1 ⟨rfl, k1⟩
 have r1 := CRow.keep r0 k1
 have B1 := below_tr B0 k1
 clear t0 m0 r0 B0 HW HO
 go_wp2_with (first
  | (refine St.wpList_storeNew isGap rfl _ _ (by rfl) _ [.slice none 0 0, .slice none 0 0, .slice none 0 0] [.slice none 0 0, .slice none 0 0, .slice none 0 0] (by rfl) (by rfl) rfl rfl (by intro v hv; simp only [List.mem_cons, List.not_mem_nil, or_false] at hv; rcases hv with rfl | rfl | rfl <;> rfl) ?_; intro w2 n2 k2; have r2 := CRow.keep r1 k2; have B2 := below_tr B1 k2; clear r1 B1)
  | (refine St.wpList_store isSt rfl _ _ (by rfl) _ _ [.slice none 0 0, .slice none 0 0] (by rfl) (by rfl) (by with_reducible exact r2) rfl rfl (one2 none none) ?_)
  | fail)
 exact bodyPost_ret (results_3 isSt Tryz.results14 _ _ (w.heap.size + 1 + 1) _ rfl (CRow.row r2 _) rfl) rfl ⟨rfl, St.below_row B2 (by omega) _⟩
end Go.Proofs.YtlomfjacgomhdaaGreatDoor
