/-
  The document's Of (radomeref09).
-/
import Derived.Test.YtdgcnaijndocnaaGreatDoorM35
import Derived.Test.YtdgcnaijndocnaaGreatDoorRegU
import Derived.Test.YtdgcnaijndocnaaGreatDoorM32
import Derived.Test.YtdgcnaijndocnaaGreatDoorM33
import Derived.Test.YtdgcnaijndocnaaGreatDoorM34
import Derived.Test.YtdgcnaijndocnaaGreatDoorM5
import Derived.Deep.CutRange
import Derived.Test.YtdgcnaijndocnaaGreatDoorLkR
import Derived.Test.YtdgcnaijndocnaaGreatDoorM24
import Derived.Test.YtdgcnaijndocnaaGreatDoorM10
import Derived.Deep.DeepCutAuto
set_option linter.unusedSimpArgs false
set_option linter.unusedVariables false
namespace Go.Proofs.YtdgcnaijndocnaaGreatDoor
open Go.RowKit Vc Mt St Qn Dt Ld
namespace Ld
theorem own_zero {w : World} {B : Nat} {t : TypeId} {s : Nat} {v : Value} {n : Nat} {xs : List Value} (h : w.ownsRow B t s v n xs) : w.ownsRow 0 t s v n xs := by
  obtain ⟨h1, h2⟩ := h
  refine ⟨h1, ?_⟩
  rcases h2 with h2 | ⟨g, cap, cur, rfl, hb, hg, hn, hc, hs, ht⟩
  · exact Or.inl h2
  · exact Or.inr ⟨g, cap, cur, rfl, Nat.zero_le _, hg, hn, hc, hs, ht⟩
theorem FTwo.zero {B : Nat} {w0 w : World} {o i n : Nat} {vL vD : Value} {L : Nat → Nat → Int} {d : Nat → Int} (h : FTwo B w0 w o vL vD i n L d) : FTwo 0 w w o vL vD i n L d := by
  obtain ⟨S, h1, h2⟩ := h.two
  exact ⟨⟨S, ⟨own_zero h1.x, own_zero h1.y, h1.apart, Below.refl _ _, Nat.zero_le _⟩, h2⟩, h.gl, h.gd, h.le⟩
def lenOf : Value → Nat
  | .slice _ n _ => n
  | _ => 0
end Ld
set_option maxRecDepth 10000 in
set_option maxHeartbeats 4000000 in
theorem dof_any (n cm : Nat) (lo : Option Addr) (F : Nat → Nat → Int) (w : World) (h1 : 1 ≤ n) (hn : n ≤ 6) (hg : Grid w lo n cm n F) (hF : B2 F) :
    Calls Tryz.prog 30 #[.slice lo n cm] w fun e w' => ((¬ Same n F ∧ e = .returned (.tuple #[.agg #[.slice none 0 0, .slice none 0 0], .int .i64 1])) ∨
      (Same n F ∧ (¬ ∀ i, i < n → fine F i) ∧ e = .returned (.tuple #[.agg #[.slice none 0 0, .slice none 0 0], .int .i64 8])) ∨
      (Same n F ∧ (∀ i, i < n → fine F i) ∧ ∃ lo' cl do' cd, e = .returned (.tuple #[.agg #[.slice lo' n cl, .slice do' n cd], .int .i64 0]) ∧ Grid w' lo' n cl n (st F n).1 ∧ Sl w' do' n cd (st F n).2)) ∧ Below w.heap.size w w' := by
  have HT := Hid.mkV (fun W (H : Grid W lo n cm n F) => rturn_any n n cm lo F W h1 hn h1 hn H)
  have hgW := hg.keep (below_al (Below.refl _ w) (.cells #[.slice none 0 0, .slice none 0 0] 49))
  have rR : GRow (w.alloc (.cells #[.slice none 0 0, .slice none 0 0] 49)) w.heap.size (.slice none 0 0) (.slice none 0 0) := crow_new w _ [.slice none 0 0, .slice none 0 0]
  have hB := below_al (Below.refl _ w) (.cells #[.slice none 0 0, .slice none 0 0] 49)
  obtain ⟨W, hW⟩ : ∃ W, W = w.alloc (.cells #[.slice none 0 0, .slice none 0 0] 49) := ⟨_, rfl⟩
  rw [← hW] at rR hB hgW
  have HW := Hid.mkV hW
  obtain ⟨A, C, hs, hgr⟩ := hgW
  obtain ⟨xl, hlo, hlc⟩ := hs.get
  obtain rfl := hlo (by omega)
  have l1 := hs.le
  have l2 := hs.cap
  have HLC := Hid.mkV hlc
  have HGr := Hid.mkV hgr
  have HgW := Hid.mkV (show Grid W (some xl) n cm n F from ⟨A, C, hs, hgr⟩)
  have hg2w : w.heap.size ≤ w.heap.size := Nat.le_refl _
  obtain ⟨g2, hg2⟩ : ∃ g, g = w.heap.size := ⟨_, rfl⟩
  have hg2w : w.heap.size ≤ g2 := by omega
  rw [← hg2] at rR
  have HG2 := Hid.mkV hg2
  have HFF := Hid.mkV hF
  clear hW hg hs hlo hlc hgr hF hg2
  go_enter Tryz.func30, Tryz.ntmps30
  go_wp2_with (first | (rw [← HW.out, ← HG2.out]) | fail)
  refine (HT.out _ HgW.out).mono ?_
  rintro e w1 ⟨to', tc, rfl, hT1, k1⟩
  have R1 := CRow.keep rR k1
  have B1 := below_tr hB k1
  obtain ⟨A', C', hs', hgr'⟩ := hT1
  obtain ⟨xt, hto, htc⟩ := hs'.get
  obtain rfl := hto (by omega)
  have l3 := hs'.le
  have l4 := hs'.cap
  have HTC := Hid.mkV htc
  have HGt := Hid.mkV hgr'
  have HLC1 : Hid (∀ k, k < n → w1.cell? (xl.add k) = some (.slice (A k) n (C k))) := fun k hk => keep_cell k1 (HLC.out k hk)
  have HGr1 : Hid (∀ k, k < n → Sl w1 (A k) n (C k) (F k)) := fun k hk => (HGr.out k hk).keep k1
  clear rR hB HT HgW HLC HGr hs' hto htc hgr' k1
  go_wp2
  go_loopw [5, 6] (fun ix _ wr => ∃ i : Nat, i ≤ n ∧ ix = .int .i64 (i : Int) ∧ Hid (∀ a b, a < i → b < n → F a b = F b a) ∧ Below w1.heap.size w1 wr) (fun ix _ _ => n - (intOf ix).toNat)
  case atStart => exact ⟨0, by omega, rfl, fun a b ha => by omega, Below.refl _ _⟩
  case round =>
    rename World => wo
    obtain ⟨i, hi, rfl, hpre, br⟩ := hrel
    by_cases h : i < n
    · go_wp2
      go_loopw [6] (fun jx wr => ∃ j : Nat, j ≤ n ∧ jx = .int .i64 (j : Int) ∧ Hid (∀ b, b < j → F i b = F b i) ∧ Below w1.heap.size w1 wr) (fun jx _ => n - (intOf jx).toNat)
      case atStart => exact ⟨0, by omega, rfl, fun b hb => by omega, br⟩
      case round =>
        rename World => wp
        obtain ⟨j, hj, rfl, hpre2, br2⟩ := hrel
        by_cases h2 : j < n
        · have c1 := keep_cell br2 (HLC1.out i h)
          have c2 := keep_cell br2 (HTC.out i h)
          have r1 := (HGr1.out i h).keep br2
          have r2 := (HGt.out i h).keep br2
          obtain ⟨x1, o1, d1⟩ := r1.get
          obtain ⟨x2, o2, d2⟩ := r2.get
          have l5 := r1.le
          have l6 := r1.cap
          have l7 := r2.le
          have l8 := r2.cap
          rw [o1 (by omega)] at c1
          rw [o2 (by omega)] at c2
          have c3 := d1 j h2
          have c4 := d2 j h2
          obtain ⟨P, hP⟩ : ∃ q, q = F i j := ⟨_, rfl⟩
          obtain ⟨Q, hQ⟩ : ∃ q, q = F j i := ⟨_, rfl⟩
          rw [← hP] at c3
          rw [← hQ] at c4
          obtain ⟨Ci, hCi⟩ : ∃ q, q = C i := ⟨_, rfl⟩
          obtain ⟨Di, hDi⟩ : ∃ q, q = C' i := ⟨_, rfl⟩
          rw [← hCi] at c1 l5 l6
          rw [← hDi] at c2 l7 l8
          have HP := Hid.mkV hP
          have HQ := Hid.mkV hQ
          clear hP hQ hCi hDi r1 r2 o1 o2 d1 d2
          have i0 : (0 : Int) ≤ (i : Int) := by omega
          have i1 : (i : Int) < (n : Int) := by omega
          have i2 : (0 : Int) ≤ (j : Int) := by omega
          have i3 : (j : Int) < (n : Int) := by omega
          by_cases hPQ : P = Q
          · have e1 : (P != Q) = false := by simp [hPQ]
            have HPQ := Hid.mkV hPQ
            clear hPQ
            go_wp2
            go_quiet (fail)
            go_wp2
            go_roundw
            case rel => exact ⟨j + 1, by omega, by go_num, fun b hb => by
                rcases Nat.lt_or_ge b j with c | c
                · exact hpre2.out b c
                · obtain rfl : b = j := by omega
                  rw [← HP.out, ← HQ.out]; exact HPQ.out, Vc.below_drewN br2 _⟩
            case measure => simp [intOf]; omega
          · have e1 : (P != Q) = true := by simp [hPQ]
            have Rp := CRow.keep R1 (Vc.below_drewN br2 0)
            have hne : ¬ Same n F := fun hs => hPQ (by rw [HP.out, HQ.out]; exact hs i j h h2)
            have HNE := Hid.mkV hne
            have Rr := CRow.keep R1 br2
            clear hPQ hne Rp
            go_wp2
            go_quiet (fail)
            have Rn : GRow (wp.drewN nq) g2 (.slice none 0 0) (.slice none 0 0) := Rr
            have Bn := Vc.below_drewN (below_tr B1 br2) nq
            obtain ⟨wn, hwn⟩ : ∃ x, x = wp.drewN nq := ⟨_, rfl⟩
            rw [← hwn] at Rn Bn ⊢
            clear hwn c1 c2 c3 c4 Rr
            go_wp2_with (first
              | (refine St.wpList_store isG rfl _ _ (by rfl) _ _ _ (by rfl) (by rfl) (by with_reducible exact Rn) rfl rfl (by intro v hv; simp at hv; rcases hv with rfl | rfl <;> rfl) ?_)
              | fail)
            exact bodyPost_ret (St.results_2 isG Tryz.results30 _ _ g2 _ rfl (CRow.row Rn _) rfl) rfl ⟨Or.inl ⟨HNE.out, rfl⟩, St.below_row Bn hg2w _⟩
        · obtain rfl : j = n := by omega
          go_wp2
          go_roundw
          case rel => exact ⟨i + 1, by omega, by go_num, fun a b ha hb => by
              rcases Nat.lt_or_ge a i with c | c
              · exact hpre.out a b c hb
              · obtain rfl : a = i := by omega
                exact hpre2.out b hb, br2⟩
          case measure => simp [intOf]; omega
    · obtain rfl : n = i := by omega
      have HSame : Hid (Same n F) := fun a b ha hb => hpre.out a b ha hb
      have R2 := CRow.keep R1 br
      have B2 := below_tr B1 br
      have HLC2 : Hid (∀ k, k < n → wo.cell? (xl.add k) = some (.slice (A k) n (C k))) := fun k hk => keep_cell br (HLC1.out k hk)
      have HGr2 : Hid (∀ k, k < n → Sl wo (A k) n (C k) (F k)) := fun k hk => (HGr1.out k hk).keep br
      have R3 := CRow.alloc R2 (.cells #[.slice none 0 0, .slice none 0 0] 49)
      have O3 : GRow (wo.alloc (.cells #[.slice none 0 0, .slice none 0 0] 49)) wo.heap.size (.slice none 0 0) (.slice none 0 0) := crow_new wo _ [.slice none 0 0, .slice none 0 0]
      have k3 := below_al (Below.refl _ wo) (.cells #[.slice none 0 0, .slice none 0 0] 49)
      obtain ⟨w3, hw3⟩ : ∃ x, x = wo.alloc (.cells #[.slice none 0 0, .slice none 0 0] 49) := ⟨_, rfl⟩
      obtain ⟨g3, hg3⟩ : ∃ x, x = wo.heap.size := ⟨_, rfl⟩
      have hs3 : w3.heap.size = g3 + 1 := by rw [hw3, hg3]; simp
      rw [← hw3] at R3 O3 k3
      rw [← hg3] at O3
      have d23 : g2 < g3 := by have := R2.lt; omega
      have hwg : wo.heap.size ≤ g3 := by omega
      have T3 : FTwo wo.heap.size wo w3 (g3 + 1) (.slice none 0 0) (.slice none 0 0) 0 n (st F n).1 (st F n).2 := FTwo.nil k3 k3.size (by omega) _ _
      have HW3 := Hid.mkV hw3
      have HG3 := Hid.mkV hg3
      have hFi : ∀ i j, -9223372036854775808 ≤ F i j ∧ F i j ≤ 9223372036854775807 := fun i j => HFF.out i j
      have HFi := Hid.mkV hFi
      clear hpre R1 B1 HLC1 HGr1 br R2 k3 hw3 hg3 HTC HGt HFF hFi
      go_wp2
      rw [← HW3.out, ← HG3.out]
      go_loopw [8, 9] (fun an ix wr => ∃ i : Nat, i ≤ n ∧ ix = .int .i64 (i : Int) ∧ an = .bool false ∧ GRow wr g2 (.slice none 0 0) (.slice none 0 0) ∧ (∃ vL vD, GRow wr g3 vL vD ∧ FTwo wo.heap.size wo wr (g3 + 1) vL vD i n (st F n).1 (st F n).2) ∧ Hid (∀ k, k < i → fine F k)) (fun _ ix _ => n - (intOf ix).toNat)
      case atStart => exact ⟨0, by omega, rfl, rfl, R3, ⟨_, _, O3, T3⟩, fun k hk => by omega⟩
      case round =>
        rename World => wa
        obtain ⟨i, hi, rfl, rfl, ra, ⟨vL, vD, ga, tr⟩, hok⟩ := hrel
        obtain ⟨lo3, cl, do3, cd, rfl, rfl, gG, gS⟩ := tr.grid
        have ba := below_tr B2 tr.below
        by_cases h : i < n
        · have gG' : Grid wa lo3 i cl n (st F i).1 := gG.congr (fun a b ha hb => st_keepL F ha (by omega))
          have gS' : Sl wa do3 i cd (st F i).2 := gS.congr (fun a ha => st_keepD F ha (by omega))
          have dpos : ∀ k, k < i → 1 ≤ (st F i).2 k ∧ (st F i).2 k ≤ 4611686018427387903 := fun k hk => by
            have h2 := st_bdD F i k
            have h3 := (hok.out k hk).2
            rw [st_D F hk] at h2 ⊢
            omega
          have C2 := keep_cell tr.below (HLC2.out i h)
          have ri := (HGr2.out i h).keep tr.below
          obtain ⟨xi, oi, di'⟩ := ri.get
          rw [oi (by omega)] at C2
          have l5 := ri.le
          have l6 := ri.cap
          have HDI := Hid.mkV di'
          obtain ⟨Ci, hCi⟩ : ∃ q, q = C i := ⟨_, rfl⟩
          rw [← hCi] at C2 l5 l6
          have A0 := GRow.l ga
          have A1 := GRow.d ga
          have hbx : ∀ j, B64 (rowV (F i) (st F i).1 (st F i).2 j) := fun j => b64_of (rowV_bd _ _ _ j)
          have HbL : Hid (∀ a, B64 ((st F i).1 a)) := fun a => b64_of (st_bdL F i a)
          have HbD : Hid (B64 ((st F i).2)) := b64_of (st_bdD F i)
          have HDP := Hid.mkV dpos
          have HGG := Hid.mkV gG'
          have HGS := Hid.mkV gS'
          have HRow : Hid (∀ j k, k < j → j ≤ i → (st F n).1 i k = rowV (F i) (st F i).1 (st F i).2 j k) := fun j k hk hj => by
            rw [st_low F h (by omega), rowV_keep _ _ _ hk hj]
          clear hCi oi di' ri dpos gG' gS' gG gS
          have i0 : (0 : Int) ≤ (i : Int) := by omega
          have i1 : (i : Int) < (n : Int) := by omega
          go_wp2
          go_loopw [8, 10, 11] (fun an ps jx ws => ∃ j : Nat, j ≤ i ∧ jx = .int .i64 (j : Int) ∧ an = .bool (rowO (F i) (st F i).1 (st F i).2 j) ∧ Own wa.heap.size wa ws ps j ((st F n).1 i)) (fun _ _ jx _ => i - (intOf jx).toNat)
          case atStart => exact ⟨0, by omega, rfl, rfl, Own.nil (Below.refl _ _) (Nat.le_refl _) _⟩
          case round =>
            rename World => ws
            obtain ⟨j, hj, rfl, rfl, hown⟩ := hrel
            obtain ⟨ro, rc, rfl, rs⟩ := hown.sl
            have kb := hown.below
            have rs' : Sl ws ro j rc (rowV (F i) (st F i).1 (st F i).2 j) := rs.congr (fun k hk => HRow.out j k hk hj)
            have e0 := keep_cell kb A0
            have e1 := keep_cell kb A1
            have e2 := keep_cell kb C2
            have e3 := keep_cell kb (HDI.out j (by omega))
            by_cases h2 : j < i
            · have HRs := Hid.mkV (fun W (b : Below ws.heap.size ws W) => drest_low i j n cl cd j rc lo3 do3 ro (st F i).1 (st F i).2 (rowV (F i) (st F i).1 (st F i).2 j) (F i j) W (HGG.out.keep (below_tr kb b)) (HGS.out.keep (below_tr kb b)) (rs'.keep b) h2 (Nat.le_refl _) hi hn HbL.out HbD.out (hbx j) (HFi.out i j).1 (HFi.out i j).2)
              have bR := lessV_bd (F i j) (rowV (F i) (st F i).1 (st F i).2 j) (wv ((st F i).1 j) (st F i).2) j
              have HQ := fun W => ldiv_any (lessV (F i j) (rowV (F i) (st F i).1 (st F i).2 j) (wv ((st F i).1 j) (st F i).2) j) ((st F i).2 j) 30 W (by omega) (by omega) (by have := HDP.out j h2; omega) (by have := HDP.out j h2; omega) (by have := HDP.out j h2; omega) (by omega)
              have eq1 : ∀ x y : Int, signed x y (clamp (rne ((x.natAbs : Int) * 2 ^ 30) (y.natAbs : Int))) = divV x y 30 := fun _ _ => rfl
              have eq2 : ∀ x y : Int, great (rne ((x.natAbs : Int) * 2 ^ 30) (y.natAbs : Int)) = divO x y 30 := fun _ _ => rfl
              rw [eq1, eq2] at HQ
              have HQh := Hid.mkV HQ
              have HV : Hid ((st F n).1 i j = divV (lessV (F i j) (rowV (F i) (st F i).1 (st F i).2 j) (wv ((st F i).1 j) (st F i).2) j) ((st F i).2 j) 30) := (HRow.out (j + 1) j (by omega) (by omega)).trans (if_pos rfl)
              have HA : Hid (rowO (F i) (st F i).1 (st F i).2 (j + 1) = (rowO (F i) (st F i).1 (st F i).2 j || (anyb (wg ((st F i).1 j) (st F i).2) j || lessO (F i j) (rowV (F i) (st F i).1 (st F i).2 j) (wv ((st F i).1 j) (st F i).2) j || divO (lessV (F i j) (rowV (F i) (st F i).1 (st F i).2 j) (wv ((st F i).1 j) (st F i).2) j) ((st F i).2 j) 30))) := rfl
              have c5 := (HGS.out.keep kb)
              obtain ⟨xd, od, dd⟩ := c5.get
              have ld := c5.le
              have ld2 := c5.cap
              have DC := dd j h2
              rw [od (by omega)] at e1 HRs A1
              have HOD := Hid.mkV (od (by omega))
              obtain ⟨R, hR⟩ : ∃ q, q = lessV (F i j) (rowV (F i) (st F i).1 (st F i).2 j) (wv ((st F i).1 j) (st F i).2) j := ⟨_, rfl⟩
              obtain ⟨O1, hO1⟩ : ∃ q, q = (anyb (wg ((st F i).1 j) (st F i).2) j || lessO (F i j) (rowV (F i) (st F i).1 (st F i).2 j) (wv ((st F i).1 j) (st F i).2) j) := ⟨_, rfl⟩
              rw [← hR, ← hO1] at HRs
              rw [← hR] at HQh HV HA
              rw [← hO1] at HA
              obtain ⟨X, hX⟩ : ∃ q, q = divV R ((st F i).2 j) 30 := ⟨_, rfl⟩
              obtain ⟨O2, hO2⟩ : ∃ q, q = divO R ((st F i).2 j) 30 := ⟨_, rfl⟩
              rw [← hX, ← hO2] at HQh
              rw [← hX] at HV
              rw [← hO2] at HA
              obtain ⟨T, hT⟩ : ∃ q, q = rowO (F i) (st F i).1 (st F i).2 j := ⟨_, rfl⟩
              rw [← hT] at HA ⊢
              obtain ⟨M, hM⟩ : ∃ q, q = F i j := ⟨_, rfl⟩
              rw [← hM] at HRs e3
              obtain ⟨dj, hdj⟩ : ∃ q, q = (st F i).2 j := ⟨_, rfl⟩
              rw [← hdj] at HQh DC
              clear hR hO1 hX hO2 hT hM hdj HQ eq1 eq2 bR od dd c5 rs rs'
              have j0 : (0 : Int) ≤ (j : Int) := by omega
              have j1 : (j : Int) < (n : Int) := by omega
              have j2 : (j : Int) < (i : Int) := by omega
              go_wp2
              go_region_held3 (fun w' => w'.cell? ⟨g3, 0, none⟩ = some (.slice lo3 i cl) ∧ w'.cell? ⟨g3, 1, none⟩ = some (.slice (some xd) i cd) ∧ w'.cell? (xl.add i) = some (.slice (some xi) n Ci) ∧ w'.cell? (xi.add j) = some (.int .i64 M))
                (first
                  | with_reducible exact ⟨e0, e1, e2, e3⟩
                  | with_reducible exact ⟨keep_cell (Vc.below_drew' _) e0, keep_cell (Vc.below_drew' _) e1, keep_cell (Vc.below_drew' _) e2, keep_cell (Vc.below_drew' _) e3⟩
                  | with_reducible exact ⟨keep_cell kz e0, keep_cell kz e1, keep_cell kz e2, keep_cell kz e3⟩)
                (first
                  | (go_at_call 74; refine (HRs.out _ (Vc.below_drew' _)).mono ?_; rintro e wz ⟨rfl, kz'⟩
                     have kz : Below ws.heap.size ws wz := below_tr (Vc.below_drew' _) kz'
                     clear kz'))
              have f1 := keep_cell kz e1
              have f2 := keep_cell kz DC
              have hown2 := hown.keep kz
              clear e0 e1 e2 e3 DC
              go_wp2_with fail
              refine (HQh.out _).mono ?_
              rintro e wy ⟨rfl, hwy⟩
              have hown3 : Own wa.heap.size wa wy (.slice ro j rc) j ((st F n).1 i) := by rw [hwy]; exact hown2
              clear hwy f1 f2 hown hown2 kb
              go_wp2_with (at_builtin; refine wpList_push (by rfl) (.tmp 84) (.tmp 86) (by rfl) wa.heap.size wa _ j ((st F n).1 i) (by rfl) hown3 (by omega) X (by exact HV.out.symm) (by rfl) ?_)
              intro v' w' hown'
              cases T <;> cases O1 <;> (go_wp2; go_roundw)
              all_goals first
                | (simp [intOf]; omega)
                | exact ⟨j + 1, by omega, by go_num, by rw [HA.out]; rfl, hown'⟩
            · obtain rfl : i = j := by omega
              have HRs := Hid.mkV (fun W (b : Below ws.heap.size ws W) => drest_mid i i n cl cd i rc lo3 do3 ro (st F i).1 (st F i).2 (rowV (F i) (st F i).1 (st F i).2 i) (F i i) W (HGG.out.keep (below_tr kb b)) (HGS.out.keep (below_tr kb b)) (rs'.keep b) rfl (Nat.le_refl _) hi hn HbL.out HbD.out (hbx i) (HFi.out i i).1 (HFi.out i i).2)
              have HFi2 : Hid (fine F i ↔ (rowO (F i) (st F i).1 (st F i).2 i || (anyb (wg (rowV (F i) (st F i).1 (st F i).2 i) (st F i).2) i || lessO (F i i) (rowV (F i) (st F i).1 (st F i).2 i) (wv (rowV (F i) (st F i).1 (st F i).2 i) (st F i).2) i)) = false ∧ 0 < lessV (F i i) (rowV (F i) (st F i).1 (st F i).2 i) (wv (rowV (F i) (st F i).1 (st F i).2 i) (st F i).2) i) := Iff.rfl
              have HXd : Hid ((st F n).2 i = lessV (F i i) (rowV (F i) (st F i).1 (st F i).2 i) (wv (rowV (F i) (st F i).1 (st F i).2 i) (st F i).2) i) := st_D F h
              obtain ⟨D, hD⟩ : ∃ q, q = lessV (F i i) (rowV (F i) (st F i).1 (st F i).2 i) (wv (rowV (F i) (st F i).1 (st F i).2 i) (st F i).2) i := ⟨_, rfl⟩
              obtain ⟨O, hO⟩ : ∃ q, q = (anyb (wg (rowV (F i) (st F i).1 (st F i).2 i) (st F i).2) i || lessO (F i i) (rowV (F i) (st F i).1 (st F i).2 i) (wv (rowV (F i) (st F i).1 (st F i).2 i) (st F i).2) i) := ⟨_, rfl⟩
              rw [← hD, ← hO] at HRs HFi2
              rw [← hD] at HXd
              obtain ⟨T, hT⟩ : ∃ q, q = rowO (F i) (st F i).1 (st F i).2 i := ⟨_, rfl⟩
              rw [← hT] at HFi2 ⊢
              obtain ⟨M, hM⟩ : ∃ q, q = F i i := ⟨_, rfl⟩
              rw [← hM] at HRs e3
              have HX : Hid (D = (st F n).2 i) := HXd.out.symm
              have HV1 : Hid ((st F n).1 i i = 1073741824) := st_one F h
              have HV0 : Hid (∀ k, i < k → (st F n).1 i k = 0) := fun k hk => st_up F h hk
              clear hD hO hT hM HXd rs rs' HGG HGS HbL HbD HDP HRow HDI hbx
              go_wp2
              go_region_held3 (fun w' => w'.cell? ⟨g3, 0, none⟩ = some (.slice lo3 i cl) ∧ w'.cell? ⟨g3, 1, none⟩ = some (.slice do3 i cd) ∧ w'.cell? (xl.add i) = some (.slice (some xi) n Ci) ∧ w'.cell? (xi.add i) = some (.int .i64 M))
                (first
                  | with_reducible exact ⟨e0, e1, e2, e3⟩
                  | with_reducible exact ⟨keep_cell (Vc.below_drew' _) e0, keep_cell (Vc.below_drew' _) e1, keep_cell (Vc.below_drew' _) e2, keep_cell (Vc.below_drew' _) e3⟩
                  | with_reducible exact ⟨keep_cell kz e0, keep_cell kz e1, keep_cell kz e2, keep_cell kz e3⟩)
                (first
                  | (go_at_call 74; refine (HRs.out _ (Vc.below_drew' _)).mono ?_; rintro e wz ⟨rfl, kz'⟩
                     have kz : Below ws.heap.size ws wz := below_tr (Vc.below_drew' _) kz'
                     clear kz'))
              have kaz := below_tr kb kz
              have raz := CRow.keep ra kaz
              have gaz := CRow.keep ga kaz
              have taz := tr.keep kaz
              have baz := below_tr ba kaz
              have hown2 := hown.keep kz
              clear e0 e1 e2 e3 hown kb HRs A0 A1 C2 kaz
              by_cases hD : D ≤ 0
              · have q1 : decide (D ≤ 0) = true := decide_eq_true hD
                go_wp2_with (first
                  | (refine St.wpList_store isG rfl _ _ (by rfl) _ _ _ (by rfl) (by rfl) (by with_reducible exact raz) rfl rfl (by intro v hv; simp at hv; rcases hv with rfl | rfl <;> rfl) ?_)
                  | fail)
                exact bodyPost_ret (St.results_2 isG Tryz.results30 _ _ g2 _ rfl (CRow.row raz _) rfl) rfl ⟨Or.inr (Or.inl ⟨HSame.out, fun hall => (by have hz := HFi2.out.1 (hall i h); have hy := hz.2; omega), rfl⟩), St.below_row baz hg2w _⟩
              · have q1 : decide (D ≤ 0) = false := decide_eq_false hD
                cases O with
                | true =>
                  go_wp2_with (first
                    | (refine St.wpList_store isG rfl _ _ (by rfl) _ _ _ (by rfl) (by rfl) (by with_reducible exact raz) rfl rfl (by intro v hv; simp at hv; rcases hv with rfl | rfl <;> rfl) ?_)
                    | fail)
                  exact bodyPost_ret (St.results_2 isG Tryz.results30 _ _ g2 _ rfl (CRow.row raz _) rfl) rfl ⟨Or.inr (Or.inl ⟨HSame.out, ⟨i, h, fun hfi => (by have hz := HFi2.out.1 hfi; have hy := hz.1; cases T <;> cases hy)⟩, rfl⟩), St.below_row baz hg2w _⟩
                | false =>
                  cases T with
                  | true =>
                    go_wp2_with (first
                      | (refine St.wpList_store isG rfl _ _ (by rfl) _ _ _ (by rfl) (by rfl) (by with_reducible exact raz) rfl rfl (by intro v hv; simp at hv; rcases hv with rfl | rfl <;> rfl) ?_)
                      | fail)
                    exact bodyPost_ret (St.results_2 isG Tryz.results30 _ _ g2 _ rfl (CRow.row raz _) rfl) rfl ⟨Or.inr (Or.inl ⟨HSame.out, ⟨i, h, fun hfi => (by have hz := HFi2.out.1 hfi; have hy := hz.1; cases hy)⟩, rfl⟩), St.below_row baz hg2w _⟩
                  | false =>
                    have HFn : Hid (fine F i) := HFi2.out.2 ⟨rfl, by omega⟩
                    clear hD HFi2
                    go_wp2_with (at_builtin; refine wpList_push (by rfl) (.tmp 118) (.tmp 119) (by rfl) wa.heap.size wa _ i ((st F n).1 i) (by rfl) hown2 (by omega) 1073741824 (by exact HV1.out.symm) (by rfl) ?_)
                    intro v1' w1' hown3
                    clear hown2 raz gaz taz baz kz
                    go_wp2
                    go_loopw [10] (fun ps wr => ∃ j : Nat, i + 1 ≤ j ∧ j ≤ n ∧ Own wa.heap.size wa wr ps j ((st F n).1 i)) (fun ps _ => n - lenOf ps)
                    case atStart => exact ⟨i + 1, by omega, by omega, hown3⟩
                    case round =>
                      rename World => wq
                      obtain ⟨j, hj1, hj2, hown4⟩ := hrel
                      obtain ⟨po, pc, rfl, hps, hpf⟩ := own_fresh hown4
                      have l7 := hps.le
                      have l8 := hps.cap
                      by_cases h4 : j < n
                      · go_wp2_with (at_builtin; refine wpList_push (by rfl) (.tmp 126) (.tmp 127) (by rfl) wa.heap.size wa _ j ((st F n).1 i) (by rfl) hown4 (by omega) 0 (by exact (HV0.out j (by omega)).symm) (by rfl) ?_)
                        intro v4 w4 hown5
                        obtain ⟨ro5, rc5, rfl, _⟩ := hown5.sl
                        go_wp2
                        go_roundw
                        case rel => exact ⟨j + 1, by omega, by omega, hown5⟩
                        case measure => show n - (j + 1) < n - j; omega
                      · obtain rfl : n = j := by omega
                        have hap := tr.apart hpf
                        have rq := CRow.keep ra hown4.below
                        have gq := CRow.keep ga hown4.below
                        have tq := tr.keep hown4.below
                        obtain ⟨SS, hT, hrows⟩ := tq.two
                        have gl := tq.gl
                        have gd := tq.gd
                        have gle := tq.le
                        have a0 := GRow.l gq
                        have a1 := GRow.d gq
                        have Ea0 : ¬ ((Value.slice lo3 i cl).ownBlock = some g3 ∨ (Value.slice do3 i cd).ownBlock = some g3) := fun e => by
                          rcases e with e | e
                          · have := gl _ e; omega
                          · have := gd _ e; omega
                        have Ea1 := Ea0
                        have Ea3 : ¬ ((Value.slice lo3 i cl).ownBlock = some g2 ∨ (Value.slice do3 i cd).ownBlock = some g2) := fun e => by
                          rcases e with e | e
                          · have := gl _ e; omega
                          · have := gd _ e; omega
                        have HRo := Hid.mkV hrows
                        have HAp := Hid.mkV hap
                        have HPs := Hid.mkV hps
                        have hTd := hT.drew
                        have hBd := (But.refl (fun q => (Value.slice lo3 i cl).ownBlock = some q ∨ (Value.slice do3 i cd).ownBlock = some q) wq).drew
                        clear hrows hap hps hown4 tq tr ga ra hpf hown3 HLC2 HGr2 HV0 HV1
                        go_wp2
                        refine Ru.wp_region_U [11, 13] (fun w' => w'.cell? ⟨g3, 0, none⟩ = some (.slice lo3 i cl) ∧ w'.cell? ⟨g3, 1, none⟩ = some (.slice do3 i cd)) (by kernel_rfl) ⟨a0, a1⟩ (fun hHeld => ?_)
                        refine Ru.wpAnyU_take (i := 0) (v := .pointer (some ⟨g3, 0, none⟩)) rfl (by kernel_rfl) (by kernel_rfl) (by kernel_rfl) (by kernel_rfl) (by kernel_rfl) (by kernel_rfl) (fun _ _ _ h => h) (Or.inl ⟨by rfl, fun w hS => by obtain ⟨sc0, sc1⟩ := hS; go_simp⟩) hHeld ?_
                        simp only [Act.put, zq1, zq2, zq3, zq4, zq5, zq6]
                        refine Ru.wpAnyU_take (i := 1) (v := .slice lo3 i cl) rfl (by kernel_rfl) (by kernel_rfl) (by kernel_rfl) (by kernel_rfl) (by kernel_rfl) (by kernel_rfl) (fun _ _ _ h => h) (Or.inl ⟨by rfl, fun w hS => by obtain ⟨sc0, sc1⟩ := hS; go_simp⟩) hHeld ?_
                        simp only [Act.put, zq1, zq2, zq3, zq4, zq5, zq6]
                        refine Ru.wpAnyU_take (i := 2) (v := .slice po n pc) rfl (by kernel_rfl) (by kernel_rfl) (by kernel_rfl) (by kernel_rfl) (by kernel_rfl) (by kernel_rfl) (fun _ _ _ h => h) (Or.inl ⟨by rfl, fun w hS => by obtain ⟨sc0, sc1⟩ := hS; go_simp⟩) hHeld ?_
                        simp only [Act.put, zq1, zq2, zq3, zq4, zq5, zq6]
                        refine Ru.wpAnyU_take (i := 5) (v := .pointer (some ⟨g3, 1, none⟩)) rfl (by kernel_rfl) (by kernel_rfl) (by kernel_rfl) (by kernel_rfl) (by kernel_rfl) (by kernel_rfl) (fun _ _ _ h => h) (Or.inl ⟨by rfl, fun w hS => by obtain ⟨sc0, sc1⟩ := hS; go_simp⟩) hHeld ?_
                        simp only [Act.put, zq1, zq2, zq3, zq4, zq5, zq6]
                        refine Ru.wpAnyU_take (i := 6) (v := .slice do3 i cd) rfl (by kernel_rfl) (by kernel_rfl) (by kernel_rfl) (by kernel_rfl) (by kernel_rfl) (by kernel_rfl) (fun _ _ _ h => h) (Or.inl ⟨by rfl, fun w hS => by obtain ⟨sc0, sc1⟩ := hS; go_simp⟩) hHeld ?_
                        simp only [Act.put, zq1, zq2, zq3, zq4, zq5, zq6]
                        refine Ru.wpAnyU_take (i := 7) (v := .int .i64 D) rfl (by kernel_rfl) (by kernel_rfl) (by kernel_rfl) (by kernel_rfl) (by kernel_rfl) (by kernel_rfl) (fun _ _ _ h => h) (Or.inl ⟨by rfl, fun w hS => by obtain ⟨sc0, sc1⟩ := hS; go_simp⟩) hHeld ?_
                        simp only [Act.put, zq1, zq2, zq3, zq4, zq5, zq6]
                        refine Ru.wpAnyU_ready (rs := [3, 8]) (by kernel_rfl) (by simp) ?_
                        refine Ru.AllReadyU.cons rfl (by kernel_rfl) (fun K hK => ?_) ?_
                        · go_simp
                          have tw1 := Vg.Two.alloc hTd (.cells #[.slice po n pc] 22)
                          have bu1 := But.al hBd (.cells #[.slice po n pc] 22)
                          have pe1 := Vg.pend_at (b := wq.heap.size) hTd (.slice po n pc) 22 (by simp)
                          refine hK.out _ _ ⟨bu1.cell a0 Ea0, bu1.cell a1 Ea1⟩ (fun hHeld => ?_)
                          clear hK K
                          try simp only [Act.put, zq1, zq2, zq3, zq4, zq5, zq6]
                          refine Ru.wpAnyU_ready (rs := [4, 8]) (by kernel_rfl) (by simp) ?_
                          refine Ru.AllReadyU.cons rfl (by kernel_rfl) (fun K hK => ?_) ?_
                          · refine Vg.step_x elS (by rfl) (.tmp 130) (.tmp 132) (by rfl) tw1 (by rfl) (by omega) (by unfold maxLen; omega) (by rfl) pe1 (by rfl) ?_
                            intro v1 w2 t2 p2 q2 n2
                            obtain ⟨l1, c1, rfl⟩ := own_form t2.x
                            have bu2 : But (fun q => (Value.slice lo3 i cl).ownBlock = some q ∨ (Value.slice do3 i cd).ownBlock = some q) wq w2 := bu1.trans (but_grown q2 (fun b e => Or.inl e))
                            have n1' : ∀ q, q < wq.heap.size → (Value.slice lo3 i cl).ownBlock ≠ some q → (Value.slice l1 (i + 1) c1).ownBlock ≠ some q := fun q hq => n2 q (Nat.lt_of_lt_of_le hq bu1.size)
                            refine hK.out _ _ ⟨bu2.cell a0 Ea0, bu2.cell a1 Ea1⟩ (fun hHeld => ?_)
                            clear hK K n2 q2 p2
                            try simp only [Act.put, zq1, zq2, zq3, zq4, zq5, zq6]
                            refine Ru.wpAnyU_take (i := 10) (v := .pointer (some ⟨g3, 0, none⟩)) rfl (by kernel_rfl) (by kernel_rfl) (by kernel_rfl) (by kernel_rfl) (by kernel_rfl) (by kernel_rfl) (fun _ _ _ h => h) (Or.inl ⟨by rfl, fun w hS => by obtain ⟨sc0, sc1⟩ := hS; go_simp⟩) hHeld ?_
                            simp only [Act.put, zq1, zq2, zq3, zq4, zq5, zq6]
                            refine Ru.wpAnyU_ready (rs := [8]) (by kernel_rfl) (by simp) ?_
                            refine Ru.AllReadyU.cons rfl (by kernel_rfl) (fun K hK => ?_) Ru.AllReadyU.nil
                            go_simp
                            have tw3 := Vg.Two.alloc t2 (.cells #[.int .i64 D] 2)
                            have bu3 := But.al bu2 (.cells #[.int .i64 D] 2)
                            have pe3 := Vg.pend_at (b := w2.heap.size) t2 (.int .i64 D) 2 (by simp)
                            refine hK.out _ _ ⟨bu3.cell a0 Ea0, bu3.cell a1 Ea1⟩ (fun hHeld => ?_)
                            clear hK K
                            try simp only [Act.put, zq1, zq2, zq3, zq4, zq5, zq6]
                            refine Ru.wpAnyU_ready (rs := [9]) (by kernel_rfl) (by simp) ?_
                            refine Ru.AllReadyU.cons rfl (by kernel_rfl) (fun K hK => ?_) Ru.AllReadyU.nil
                            refine Vg.step_y elI (by rfl) (.tmp 135) (.tmp 137) (by rfl) tw3 (by rfl) (by omega) (by unfold maxLen; omega) (by rfl) pe3 (by rfl) ?_
                            intro v2 w2 t2 p2 q2 n2
                            obtain ⟨l2, c2, rfl⟩ := own_form t2.y
                            have b2 : But (fun q => (Value.slice lo3 i cl).ownBlock = some q ∨ (Value.slice do3 i cd).ownBlock = some q) wq w2 := bu3.trans (but_grown q2 (fun b e => Or.inr e))
                            have n2' : ∀ q, q < wq.heap.size → (Value.slice do3 i cd).ownBlock ≠ some q → (Value.slice l2 (i + 1) c2).ownBlock ≠ some q := fun q hq => n2 q (Nat.lt_of_lt_of_le hq bu3.size)
                            have g2' := crowBut gq b2 Ea0
                            have a0y := GRow.l g2'
                            have a1y := GRow.d g2'
                            have f0y := CRow.free g2' 0
                            have f1y := CRow.free g2' 1
                            refine hK.out _ _ ⟨b2.cell a0 Ea0, b2.cell a1 Ea1⟩ (fun hHeld => ?_)
                            clear hK K n2 q2 p2
                            try simp only [Act.put, zq1, zq2, zq3, zq4, zq5, zq6]
                            refine Ru.wpAnyU_ready (rs := [11]) (by kernel_rfl) (by simp) ?_
                            refine Ru.AllReadyU.cons2 rfl (by kernel_rfl) (fun K hK => ?_) Ru.AllReadyU.nil
                            go_simp
                            refine hK.out _ _ ?_
                            clear hK K
                            try simp only [Act.put, zq1, zq2, zq3, zq4, zq5, zq6]
                            refine wpAny_ready (rs := [12]) (by kernel_rfl) (by simp) ?_
                            refine AllReady.cons rfl (fun K hK => ?_) AllReady.nil
                            go_simp
                            refine hK _ _ ?_
                            clear hK K
                            try simp only [Act.put, zq1, zq2, zq3, zq4, zq5, zq6]
                            refine wpAny_ready (rs := [13]) (by kernel_rfl) (by simp) ?_
                            refine AllReady.cons rfl (fun K hK => ?_) AllReady.nil
                            go_simp
                            refine hK _ _ ?_
                            clear hK K
                            try simp only [Act.put, zq1, zq2, zq3, zq4, zq5, zq6]
                            refine wpAny_done (by kernel_rfl) ?_ _
                            go_wp2
                            go_roundw
                            case rel =>
                              refine ⟨i + 1, by omega, by go_num, rfl, CRow.other (CRow.other (crowBut rq b2 Ea3) _ (by show g2 ≠ g3; omega)) _ (by show g2 ≠ g3; omega), ⟨_, _, CRow.set (CRow.set g2' 0 _) 1 _, ?_⟩, fun k hk => ?_⟩
                              · exact (ftwo_push HRo.out b2 (by rw [HX.out] at t2; exact t2) n1' n2' (by omega) HPs.out HAp.out gle gl gd).put (g := g3) (by omega) (by omega) (((But.refl (fun x => x = g3) w2).set _ rfl).set _ rfl)
                              · rcases Nat.lt_or_ge k i with c | c
                                · exact hok.out k c
                                · obtain rfl : k = i := by omega
                                  exact HFn.out
                            case measure => simp [intOf]; omega
                          refine Ru.AllReadyU.cons rfl (by kernel_rfl) (fun K hK => ?_) Ru.AllReadyU.nil
                          go_simp
                          have tw5 := Vg.Two.alloc tw1 (.cells #[.int .i64 D] 2)
                          have bu5 := But.al bu1 (.cells #[.int .i64 D] 2)
                          have pe5 := Vg.pend_at (b := wq.heap.size + 1) tw1 (.int .i64 D) 2 (by simp)
                          have pk5_3 := Vg.Pend.alloc pe1 (.cells #[.int .i64 D] 2)
                          refine hK.out _ _ ⟨bu5.cell a0 Ea0, bu5.cell a1 Ea1⟩ (fun hHeld => ?_)
                          clear hK K
                          try simp only [Act.put, zq1, zq2, zq3, zq4, zq5, zq6]
                          refine Ru.wpAnyU_ready (rs := [4]) (by kernel_rfl) (by simp) ?_
                          refine Ru.AllReadyU.cons rfl (by kernel_rfl) (fun K hK => ?_) Ru.AllReadyU.nil
                          refine Vg.step_x elS (by rfl) (.tmp 130) (.tmp 132) (by rfl) tw5 (by rfl) (by omega) (by unfold maxLen; omega) (by rfl) pk5_3 (by rfl) ?_
                          intro v1 w6 t6 p6 q6 n6
                          obtain ⟨l1, c1, rfl⟩ := own_form t6.x
                          have bu6 : But (fun q => (Value.slice lo3 i cl).ownBlock = some q ∨ (Value.slice do3 i cd).ownBlock = some q) wq w6 := bu5.trans (but_grown q6 (fun b e => Or.inl e))
                          have n1' : ∀ q, q < wq.heap.size → (Value.slice lo3 i cl).ownBlock ≠ some q → (Value.slice l1 (i + 1) c1).ownBlock ≠ some q := fun q hq => n6 q (Nat.lt_of_lt_of_le hq bu5.size)
                          have pk6_8 := p6 _ _ _ pe5
                          refine hK.out _ _ ⟨bu6.cell a0 Ea0, bu6.cell a1 Ea1⟩ (fun hHeld => ?_)
                          clear hK K n6 q6 p6
                          try simp only [Act.put, zq1, zq2, zq3, zq4, zq5, zq6]
                          refine Ru.wpAnyU_take (i := 10) (v := .pointer (some ⟨g3, 0, none⟩)) rfl (by kernel_rfl) (by kernel_rfl) (by kernel_rfl) (by kernel_rfl) (by kernel_rfl) (by kernel_rfl) (fun _ _ _ h => h) (Or.inl ⟨by rfl, fun w hS => by obtain ⟨sc0, sc1⟩ := hS; go_simp⟩) hHeld ?_
                          simp only [Act.put, zq1, zq2, zq3, zq4, zq5, zq6]
                          refine Ru.wpAnyU_ready (rs := [9]) (by kernel_rfl) (by simp) ?_
                          refine Ru.AllReadyU.cons rfl (by kernel_rfl) (fun K hK => ?_) Ru.AllReadyU.nil
                          refine Vg.step_y elI (by rfl) (.tmp 135) (.tmp 137) (by rfl) t6 (by rfl) (by omega) (by unfold maxLen; omega) (by rfl) pk6_8 (by rfl) ?_
                          intro v2 w2 t2 p2 q2 n2
                          obtain ⟨l2, c2, rfl⟩ := own_form t2.y
                          have b2 : But (fun q => (Value.slice lo3 i cl).ownBlock = some q ∨ (Value.slice do3 i cd).ownBlock = some q) wq w2 := bu6.trans (but_grown q2 (fun b e => Or.inr e))
                          have n2' : ∀ q, q < wq.heap.size → (Value.slice do3 i cd).ownBlock ≠ some q → (Value.slice l2 (i + 1) c2).ownBlock ≠ some q := fun q hq => n2 q (Nat.lt_of_lt_of_le hq bu6.size)
                          have g2' := crowBut gq b2 Ea0
                          have a0y := GRow.l g2'
                          have a1y := GRow.d g2'
                          have f0y := CRow.free g2' 0
                          have f1y := CRow.free g2' 1
                          refine hK.out _ _ ⟨b2.cell a0 Ea0, b2.cell a1 Ea1⟩ (fun hHeld => ?_)
                          clear hK K n2 q2 p2
                          try simp only [Act.put, zq1, zq2, zq3, zq4, zq5, zq6]
                          refine Ru.wpAnyU_ready (rs := [11]) (by kernel_rfl) (by simp) ?_
                          refine Ru.AllReadyU.cons2 rfl (by kernel_rfl) (fun K hK => ?_) Ru.AllReadyU.nil
                          go_simp
                          refine hK.out _ _ ?_
                          clear hK K
                          try simp only [Act.put, zq1, zq2, zq3, zq4, zq5, zq6]
                          refine wpAny_ready (rs := [12]) (by kernel_rfl) (by simp) ?_
                          refine AllReady.cons rfl (fun K hK => ?_) AllReady.nil
                          go_simp
                          refine hK _ _ ?_
                          clear hK K
                          try simp only [Act.put, zq1, zq2, zq3, zq4, zq5, zq6]
                          refine wpAny_ready (rs := [13]) (by kernel_rfl) (by simp) ?_
                          refine AllReady.cons rfl (fun K hK => ?_) AllReady.nil
                          go_simp
                          refine hK _ _ ?_
                          clear hK K
                          try simp only [Act.put, zq1, zq2, zq3, zq4, zq5, zq6]
                          refine wpAny_done (by kernel_rfl) ?_ _
                          go_wp2
                          go_roundw
                          case rel =>
                            refine ⟨i + 1, by omega, by go_num, rfl, CRow.other (CRow.other (crowBut rq b2 Ea3) _ (by show g2 ≠ g3; omega)) _ (by show g2 ≠ g3; omega), ⟨_, _, CRow.set (CRow.set g2' 0 _) 1 _, ?_⟩, fun k hk => ?_⟩
                            · exact (ftwo_push HRo.out b2 (by rw [HX.out] at t2; exact t2) n1' n2' (by omega) HPs.out HAp.out gle gl gd).put (g := g3) (by omega) (by omega) (((But.refl (fun x => x = g3) w2).set _ rfl).set _ rfl)
                            · rcases Nat.lt_or_ge k i with c | c
                              · exact hok.out k c
                              · obtain rfl : k = i := by omega
                                exact HFn.out
                          case measure => simp [intOf]; omega
                        refine Ru.AllReadyU.cons rfl (by kernel_rfl) (fun K hK => ?_) Ru.AllReadyU.nil
                        go_simp
                        have tw8 := Vg.Two.alloc hTd (.cells #[.int .i64 D] 2)
                        have bu8 := But.al hBd (.cells #[.int .i64 D] 2)
                        have pe8 := Vg.pend_at (b := wq.heap.size) hTd (.int .i64 D) 2 (by simp)
                        refine hK.out _ _ ⟨bu8.cell a0 Ea0, bu8.cell a1 Ea1⟩ (fun hHeld => ?_)
                        clear hK K
                        try simp only [Act.put, zq1, zq2, zq3, zq4, zq5, zq6]
                        refine Ru.wpAnyU_ready (rs := [3]) (by kernel_rfl) (by simp) ?_
                        refine Ru.AllReadyU.cons rfl (by kernel_rfl) (fun K hK => ?_) Ru.AllReadyU.nil
                        go_simp
                        have tw9 := Vg.Two.alloc tw8 (.cells #[.slice po n pc] 22)
                        have bu9 := But.al bu8 (.cells #[.slice po n pc] 22)
                        have pe9 := Vg.pend_at (b := wq.heap.size + 1) tw8 (.slice po n pc) 22 (by simp)
                        have pk9_8 := Vg.Pend.alloc pe8 (.cells #[.slice po n pc] 22)
                        refine hK.out _ _ ⟨bu9.cell a0 Ea0, bu9.cell a1 Ea1⟩ (fun hHeld => ?_)
                        clear hK K
                        try simp only [Act.put, zq1, zq2, zq3, zq4, zq5, zq6]
                        refine Ru.wpAnyU_ready (rs := [4]) (by kernel_rfl) (by simp) ?_
                        refine Ru.AllReadyU.cons rfl (by kernel_rfl) (fun K hK => ?_) Ru.AllReadyU.nil
                        refine Vg.step_x elS (by rfl) (.tmp 130) (.tmp 132) (by rfl) tw9 (by rfl) (by omega) (by unfold maxLen; omega) (by rfl) pe9 (by rfl) ?_
                        intro v1 w10 t10 p10 q10 n10
                        obtain ⟨l1, c1, rfl⟩ := own_form t10.x
                        have bu10 : But (fun q => (Value.slice lo3 i cl).ownBlock = some q ∨ (Value.slice do3 i cd).ownBlock = some q) wq w10 := bu9.trans (but_grown q10 (fun b e => Or.inl e))
                        have n1' : ∀ q, q < wq.heap.size → (Value.slice lo3 i cl).ownBlock ≠ some q → (Value.slice l1 (i + 1) c1).ownBlock ≠ some q := fun q hq => n10 q (Nat.lt_of_lt_of_le hq bu9.size)
                        have pk10_8 := p10 _ _ _ pk9_8
                        refine hK.out _ _ ⟨bu10.cell a0 Ea0, bu10.cell a1 Ea1⟩ (fun hHeld => ?_)
                        clear hK K n10 q10 p10
                        try simp only [Act.put, zq1, zq2, zq3, zq4, zq5, zq6]
                        refine Ru.wpAnyU_take (i := 10) (v := .pointer (some ⟨g3, 0, none⟩)) rfl (by kernel_rfl) (by kernel_rfl) (by kernel_rfl) (by kernel_rfl) (by kernel_rfl) (by kernel_rfl) (fun _ _ _ h => h) (Or.inl ⟨by rfl, fun w hS => by obtain ⟨sc0, sc1⟩ := hS; go_simp⟩) hHeld ?_
                        simp only [Act.put, zq1, zq2, zq3, zq4, zq5, zq6]
                        refine Ru.wpAnyU_ready (rs := [9]) (by kernel_rfl) (by simp) ?_
                        refine Ru.AllReadyU.cons rfl (by kernel_rfl) (fun K hK => ?_) Ru.AllReadyU.nil
                        refine Vg.step_y elI (by rfl) (.tmp 135) (.tmp 137) (by rfl) t10 (by rfl) (by omega) (by unfold maxLen; omega) (by rfl) pk10_8 (by rfl) ?_
                        intro v2 w2 t2 p2 q2 n2
                        obtain ⟨l2, c2, rfl⟩ := own_form t2.y
                        have b2 : But (fun q => (Value.slice lo3 i cl).ownBlock = some q ∨ (Value.slice do3 i cd).ownBlock = some q) wq w2 := bu10.trans (but_grown q2 (fun b e => Or.inr e))
                        have n2' : ∀ q, q < wq.heap.size → (Value.slice do3 i cd).ownBlock ≠ some q → (Value.slice l2 (i + 1) c2).ownBlock ≠ some q := fun q hq => n2 q (Nat.lt_of_lt_of_le hq bu10.size)
                        have g2' := crowBut gq b2 Ea0
                        have a0y := GRow.l g2'
                        have a1y := GRow.d g2'
                        have f0y := CRow.free g2' 0
                        have f1y := CRow.free g2' 1
                        refine hK.out _ _ ⟨b2.cell a0 Ea0, b2.cell a1 Ea1⟩ (fun hHeld => ?_)
                        clear hK K n2 q2 p2
                        try simp only [Act.put, zq1, zq2, zq3, zq4, zq5, zq6]
                        refine Ru.wpAnyU_ready (rs := [11]) (by kernel_rfl) (by simp) ?_
                        refine Ru.AllReadyU.cons2 rfl (by kernel_rfl) (fun K hK => ?_) Ru.AllReadyU.nil
                        go_simp
                        refine hK.out _ _ ?_
                        clear hK K
                        try simp only [Act.put, zq1, zq2, zq3, zq4, zq5, zq6]
                        refine wpAny_ready (rs := [12]) (by kernel_rfl) (by simp) ?_
                        refine AllReady.cons rfl (fun K hK => ?_) AllReady.nil
                        go_simp
                        refine hK _ _ ?_
                        clear hK K
                        try simp only [Act.put, zq1, zq2, zq3, zq4, zq5, zq6]
                        refine wpAny_ready (rs := [13]) (by kernel_rfl) (by simp) ?_
                        refine AllReady.cons rfl (fun K hK => ?_) AllReady.nil
                        go_simp
                        refine hK _ _ ?_
                        clear hK K
                        try simp only [Act.put, zq1, zq2, zq3, zq4, zq5, zq6]
                        refine wpAny_done (by kernel_rfl) ?_ _
                        go_wp2
                        go_roundw
                        case rel =>
                          refine ⟨i + 1, by omega, by go_num, rfl, CRow.other (CRow.other (crowBut rq b2 Ea3) _ (by show g2 ≠ g3; omega)) _ (by show g2 ≠ g3; omega), ⟨_, _, CRow.set (CRow.set g2' 0 _) 1 _, ?_⟩, fun k hk => ?_⟩
                          · exact (ftwo_push HRo.out b2 (by rw [HX.out] at t2; exact t2) n1' n2' (by omega) HPs.out HAp.out gle gl gd).put (g := g3) (by omega) (by omega) (((But.refl (fun x => x = g3) w2).set _ rfl).set _ rfl)
                          · rcases Nat.lt_or_ge k i with c | c
                            · exact hok.out k c
                            · obtain rfl : k = i := by omega
                              exact HFn.out
                        case measure => simp [intOf]; omega
        · obtain rfl : n = i := by omega
          go_wp2_with (first
            | (refine St.wpList_load isG (by rfl) _ (by rfl) _ _ (by rfl) (by with_reducible exact ga) rfl ?_)
            | (refine St.wpList_store isG rfl _ _ (by rfl) _ _ _ (by rfl) (by rfl) (by with_reducible exact ra) rfl rfl (by intro v hv; simp at hv; rcases hv with rfl | rfl <;> rfl) ?_)
            | fail)
          have tr' := FTwo.put tr.zero (g := g2) (by omega) (Nat.zero_le _) (but_row wa g2 ([.slice lo3 n cl, .slice do3 n cd] : List Value).toArray)
          obtain ⟨lo2, cl2, do2, cd2, e1, e2, hg2', hs2⟩ := tr'.grid
          cases e1
          cases e2
          exact bodyPost_ret (St.results_2 isG Tryz.results30 _ _ g2 _ rfl (CRow.row ra _) rfl) rfl ⟨Or.inr (Or.inr ⟨HSame.out, hok.out, _, _, _, _, rfl, hg2', hs2⟩), St.below_row ba hg2w _⟩
end Go.Proofs.YtdgcnaijndocnaaGreatDoor
namespace Go.Proofs.YtdgcnaijndocnaaGreatDoor
open Go.RowKit Vc St Mt Dt Pr
attribute [local go_sem ↓] Go.wp_at_zero Go.wp_at_succ
namespace Ud
theorem isGap : Is 51 3 := ⟨by kernel_rfl, ⟨_, Tryz.underlying51, rfl⟩⟩
theorem isFac : Is 49 2 := ⟨by kernel_rfl, ⟨_, Tryz.underlying49, rfl⟩⟩
theorem isSt : Is 25 2 := ⟨by kernel_rfl, ⟨_, Tryz.underlying25, rfl⟩⟩
theorem builtGap (a b c : Option Addr) (i j k l m n : Nat) : Tryz.prog.built 51 [(0, .slice a i j), (1, .agg #[.slice b k l, .slice c m n])] = some #[.slice a i j, .slice b k l, .slice c m n] := by kernel_rfl
theorem buildGap {ops : Array Oper} {rest : List Oper} {o : Oper} {ac : Act} {w : World} {Q : Exit → Act → World → Prop} (x y : Operand) (ho : o.op = .build 51 #[(0, x), (1, y)]) (a b c : Option Addr) (i j k l m n : Nat) (hx : ac.eval x = .slice a i j) (hy : ac.eval y = .agg #[.slice b k l, .slice c m n]) (hw : Region.wanted o (yielded ops ac.tmps) = true)
    (h : wpList Tryz.prog ops Q rest (ac.put o.dst (.agg #[.slice a i j, .slice b k l, .slice c m n])) w) : wpList Tryz.prog ops Q (o :: rest) ac w :=
  wpList_want hw fun _ hK => by
    unfold Oper.wp execOp
    have em : ((#[(0, x), (1, y)] : Array (Nat × Operand)).map fun (i, x) => (i, ac.eval x)).toList = [(0, .slice a i j), (1, .agg #[.slice b k l, .slice c m n])] := by simp [hx, hy]
    simp only [ho, Sem.run_bind, run_build w 51 _ _ (by rw [em]; exact builtGap a b c i j k l m n), Result.andThen_ok]
    exact hK _ _ h
end Ud
open Ud
theorem Ud.addr0 (a : Addr) : a.add 0 = a := by
  cases a
  unfold Addr.add
  split <;> simp_all
set_option maxRecDepth 10000 in
set_option maxHeartbeats 1000000 in
theorem dof13_state (xo po : Option Addr) (n xc pc : Nat) (x y a b c : Int) (w : World) (hM : ∀ W, Below w.heap.size w W → Calls Tryz.prog 27 #[.agg #[.slice xo 6 xc, .slice po n pc]] W fun e w' => e = .returned (.bool false) ∧ Below W.heap.size W w') :
  Calls Tryz.prog 9 #[.agg #[.slice xo 6 xc, .slice po n pc], .agg (pv x y a b c).toArray] w fun e w' => e = .returned (.tuple #[.agg #[.slice none 0 0, .slice none 0 0, .slice none 0 0], .bool false, .int .i64 1]) ∧ Below w.heap.size w w' := by
 have t0 := ((crow_new w 25 [.slice xo 6 xc, .slice po n pc]).alloc (.cells (pv x y a b c).toArray 27)).alloc (.cells [.slice none 0 0, .slice none 0 0, .slice none 0 0].toArray 51)
 have m0 := (crow_new1 w (.cells [.slice xo 6 xc, .slice po n pc].toArray 25) 27 (pv x y a b c)).alloc (.cells [.slice none 0 0, .slice none 0 0, .slice none 0 0].toArray 51)
 have r0 := crow_new2 w (.cells [.slice xo 6 xc, .slice po n pc].toArray 25) (.cells (pv x y a b c).toArray 27) 51 [.slice none 0 0, .slice none 0 0, .slice none 0 0]
 have B0 : Below w.heap.size w (((w.alloc (.cells [.slice xo 6 xc, .slice po n pc].toArray 25)).alloc (.cells (pv x y a b c).toArray 27)).alloc (.cells [.slice none 0 0, .slice none 0 0, .slice none 0 0].toArray 51)) := below_al (below_al (below_al (Below.refl _ _) _) _) _
 obtain ⟨W, hW⟩ : ∃ W, W = ((w.alloc (.cells [.slice xo 6 xc, .slice po n pc].toArray 25)).alloc (.cells (pv x y a b c).toArray 27)).alloc (.cells [.slice none 0 0, .slice none 0 0, .slice none 0 0].toArray 51) := ⟨_, rfl⟩
 rw [← hW] at t0 m0 r0 B0
 have HW := hide hW
 clear hW
 have HM := hide (hM W B0)
 clear hM
 go_enter Tryz.func9, Tryz.ntmps9
 go_wp2_with (first
  | (erw [← HW.out]; (refine St.wpList_load isSt (by rfl) _ (by rfl) _ _ (by rfl) (by with_reducible exact t0) rfl ?_))
  | fail)
 refine HM.out.mono ?_
 rintro e w1 ⟨rfl, k1⟩
 have r1 := CRow.keep r0 k1
 have B1 := below_tr B0 k1
 go_wp2_with (first
  | (refine St.wpList_store isGap rfl _ _ (by rfl) _ _ [.slice none 0 0, .slice none 0 0, .slice none 0 0] (by rfl) (by rfl) (by with_reducible exact r1) rfl rfl (by intro v hv; simp only [List.mem_cons, List.not_mem_nil, or_false] at hv; rcases hv with rfl | rfl | rfl <;> rfl) ?_)
  | fail)
 exact bodyPost_ret (results_3 isGap Tryz.results9 _ _ (w.heap.size + 1 + 1) _ rfl (CRow.row r1 _) rfl) rfl ⟨rfl, St.below_row B1 (by omega) _⟩
set_option maxRecDepth 10000 in
set_option maxHeartbeats 1000000 in
theorem dof13_place (xo po : Option Addr) (n xc pc : Nat) (x y a b c : Int) (w : World) (hM : ∀ W, Below w.heap.size w W → Calls Tryz.prog 27 #[.agg #[.slice xo 6 xc, .slice po n pc]] W fun e w' => e = .returned (.bool true) ∧ Below W.heap.size W w') (h : ¬ MayN x y a b c) :
  Calls Tryz.prog 9 #[.agg #[.slice xo 6 xc, .slice po n pc], .agg (pv x y a b c).toArray] w fun e w' => e = .returned (.tuple #[.agg #[.slice none 0 0, .slice none 0 0, .slice none 0 0], .bool false, .int .i64 1]) ∧ Below w.heap.size w w' := by
 have t0 := ((crow_new w 25 [.slice xo 6 xc, .slice po n pc]).alloc (.cells (pv x y a b c).toArray 27)).alloc (.cells [.slice none 0 0, .slice none 0 0, .slice none 0 0].toArray 51)
 have m0 := (crow_new1 w (.cells [.slice xo 6 xc, .slice po n pc].toArray 25) 27 (pv x y a b c)).alloc (.cells [.slice none 0 0, .slice none 0 0, .slice none 0 0].toArray 51)
 have r0 := crow_new2 w (.cells [.slice xo 6 xc, .slice po n pc].toArray 25) (.cells (pv x y a b c).toArray 27) 51 [.slice none 0 0, .slice none 0 0, .slice none 0 0]
 have B0 : Below w.heap.size w (((w.alloc (.cells [.slice xo 6 xc, .slice po n pc].toArray 25)).alloc (.cells (pv x y a b c).toArray 27)).alloc (.cells [.slice none 0 0, .slice none 0 0, .slice none 0 0].toArray 51)) := below_al (below_al (below_al (Below.refl _ _) _) _) _
 obtain ⟨W, hW⟩ : ∃ W, W = ((w.alloc (.cells [.slice xo 6 xc, .slice po n pc].toArray 25)).alloc (.cells (pv x y a b c).toArray 27)).alloc (.cells [.slice none 0 0, .slice none 0 0, .slice none 0 0].toArray 51) := ⟨_, rfl⟩
 rw [← hW] at t0 m0 r0 B0
 have HW := hide hW
 clear hW
 have HM := hide (hM W B0)
 have HN := hide (fun W => rmay13_any x y a b c W)
 rw [decide_eq_false h] at HN
 clear hM h
 go_enter Tryz.func9, Tryz.ntmps9
 go_wp2_with (first
  | (erw [← HW.out]; (refine St.wpList_load isSt (by rfl) _ (by rfl) _ _ (by rfl) (by with_reducible exact t0) rfl ?_))
  | fail)
 refine HM.out.mono ?_
 rintro e w1 ⟨rfl, k1⟩
 have r1 := CRow.keep r0 k1
 have m1 := CRow.keep m0 k1
 have B1 := below_tr B0 k1
 go_wp2_with (first
  | (refine St.wpList_load isSeen (by rfl) _ (by rfl) _ _ (by rfl) (by with_reducible exact m1) rfl ?_)
  | fail)
 refine (HN.out _).mono ?_
 rintro e w2 ⟨rfl, k2⟩
 have r2 := CRow.keep r1 k2
 have B2 := below_tr B1 k2
 go_wp2_with (first
  | (refine St.wpList_store isGap rfl _ _ (by rfl) _ _ [.slice none 0 0, .slice none 0 0, .slice none 0 0] (by rfl) (by rfl) (by with_reducible exact r2) rfl rfl (by intro v hv; simp only [List.mem_cons, List.not_mem_nil, or_false] at hv; rcases hv with rfl | rfl | rfl <;> rfl) ?_)
  | fail)
 exact bodyPost_ret (results_3 isGap Tryz.results9 _ _ (w.heap.size + 1 + 1) _ rfl (CRow.row r2 _) rfl) rfl ⟨rfl, St.below_row B2 (by omega) _⟩
set_option maxRecDepth 20000 in
set_option maxHeartbeats 8000000 in
theorem dof13_any (xo po : Option Addr) (xc pc : Nat) (X : Nat → Int) (P : Nat → Nat → Int) (x y a b c : Int) (w : World) (hX : Sl w xo 6 xc X) (hP : Grid w po 6 pc 6 P) (hm : MayV X P) (hp : MayN x y a b c) :
    Calls Tryz.prog 9 #[.agg #[.slice xo 6 xc, .slice po 6 pc], .agg (pv x y a b c).toArray] w fun e w' =>
      (((¬ ∀ i, i < 2 → Ld.fine (oM P a b c) i) ∧ e = .returned (.tuple #[.agg #[.slice none 0 0, .slice none 0 0, .slice none 0 0], .bool false, .int .i64 8])) ∨
       ((∀ i, i < 2 → Ld.fine (oM P a b c) i) ∧ ∃ gv lo cl do' cd, e = .returned (.tuple #[.agg #[.slice (some ⟨gv, 0, none⟩) 2 2, .slice lo 2 cl, .slice do' 2 cd], .bool (og X P x y a b c), .int .i64 0]) ∧ Sl w' (some ⟨gv, 0, none⟩) 2 2 (v2 (ox X x) (oy X y)) ∧ Grid w' lo 2 cl 2 (Ld.st (oM P a b c) 2).1 ∧ Sl w' do' 2 cd (Ld.st (oM P a b c) 2).2)) ∧ Below w.heap.size w w' := by
  obtain ⟨xa, hxa, hxc⟩ := hX.get
  obtain rfl := hxa (by omega)
  have HX0 := hX
  have HP0 := hP
  obtain ⟨A, C, hs, hr⟩ := hP
  obtain ⟨pa, hpa, hpc⟩ := hs.get
  obtain rfl := hpa (by omega)
  obtain ⟨ra, hra, hrc⟩ := (hr 0 (by omega)).get
  obtain ⟨rb, hrb, hrd⟩ := (hr 3 (by omega)).get
  have e0 := hpc 0 (by omega)
  have e3 := hpc 3 (by omega)
  rw [hra (by omega)] at e0
  rw [hrb (by omega)] at e3
  have e00 := hrc 0 (by omega)
  have e03 := hrc 3 (by omega)
  have e33 := hrd 3 (by omega)
  have ex0 := hxc 0 (by omega)
  have ex3 := hxc 3 (by omega)
  rw [Ud.addr0] at e0 e00 ex0
  obtain ⟨rc, hrc'⟩ : ∃ q, q = C 0 := ⟨_, rfl⟩
  obtain ⟨rd, hrd'⟩ : ∃ q, q = C 3 := ⟨_, rfl⟩
  rw [← hrc'] at e0
  rw [← hrd'] at e3
  have l1 := hX.le
  have l2 := hX.cap
  have l3 := hs.le
  have l4 := hs.cap
  have l5 := (hr 0 (by omega)).le
  have l6 := (hr 0 (by omega)).cap
  have l7 := (hr 3 (by omega)).le
  have l8 := (hr 3 (by omega)).cap
  rw [← hrc'] at l5 l6
  rw [← hrd'] at l7 l8
  have t0 := ((crow_new w 25 [.slice (some xa) 6 xc, .slice (some pa) 6 pc]).alloc (.cells (pv x y a b c).toArray 27)).alloc (.cells [.slice none 0 0, .slice none 0 0, .slice none 0 0].toArray 51)
  have m0 := (crow_new1 w (.cells [.slice (some xa) 6 xc, .slice (some pa) 6 pc].toArray 25) 27 (pv x y a b c)).alloc (.cells [.slice none 0 0, .slice none 0 0, .slice none 0 0].toArray 51)
  have r0 := crow_new2 w (.cells [.slice (some xa) 6 xc, .slice (some pa) 6 pc].toArray 25) (.cells (pv x y a b c).toArray 27) 51 [.slice none 0 0, .slice none 0 0, .slice none 0 0]
  have B0 : Below w.heap.size w (((w.alloc (.cells [.slice (some xa) 6 xc, .slice (some pa) 6 pc].toArray 25)).alloc (.cells (pv x y a b c).toArray 27)).alloc (.cells [.slice none 0 0, .slice none 0 0, .slice none 0 0].toArray 51)) := below_al (below_al (below_al (Below.refl _ _) _) _) _
  obtain ⟨W, hW⟩ : ∃ W, W = ((w.alloc (.cells [.slice (some xa) 6 xc, .slice (some pa) 6 pc].toArray 25)).alloc (.cells (pv x y a b c).toArray 27)).alloc (.cells [.slice none 0 0, .slice none 0 0, .slice none 0 0].toArray 51) := ⟨_, rfl⟩
  rw [← hW] at t0 m0 r0 B0
  have HW := hide hW
  clear hW
  have hS : ∀ V, Below W.heap.size W V → (V.cell? ⟨w.heap.size, 0, none⟩ = some (.slice (some xa) 6 xc) ∧ V.cell? ⟨w.heap.size, 1, none⟩ = some (.slice (some pa) 6 pc) ∧ V.cell? pa = some (.slice (some ra) 6 rc) ∧ V.cell? (pa.add 3) = some (.slice (some rb) 6 rd) ∧ V.cell? ra = some (.int .i64 (P 0 0)) ∧ V.cell? (ra.add 3) = some (.int .i64 (P 0 3)) ∧ V.cell? (rb.add 3) = some (.int .i64 (P 3 3)) ∧ V.cell? xa = some (.int .i64 (X 0)) ∧ V.cell? (xa.add 3) = some (.int .i64 (X 3)) ∧ V.cell? ⟨w.heap.size + 1, 0, none⟩ = some (.int .i64 x) ∧ V.cell? ⟨w.heap.size + 1, 1, none⟩ = some (.int .i64 y) ∧ V.cell? ⟨w.heap.size + 1, 2, none⟩ = some (.int .i64 a) ∧ V.cell? ⟨w.heap.size + 1, 3, none⟩ = some (.int .i64 b) ∧ V.cell? ⟨w.heap.size + 1, 4, none⟩ = some (.int .i64 c)) := fun V k => ⟨CRow.cell (CRow.keep t0 k) (k := 0) rfl rfl, CRow.cell (CRow.keep t0 k) (k := 1) rfl rfl, keep_cell (below_tr B0 k) e0, keep_cell (below_tr B0 k) e3, keep_cell (below_tr B0 k) e00, keep_cell (below_tr B0 k) e03, keep_cell (below_tr B0 k) e33, keep_cell (below_tr B0 k) ex0, keep_cell (below_tr B0 k) ex3, CRow.cell (CRow.keep m0 k) (k := 0) rfl rfl, CRow.cell (CRow.keep m0 k) (k := 1) rfl rfl, CRow.cell (CRow.keep m0 k) (k := 2) rfl rfl, CRow.cell (CRow.keep m0 k) (k := 3) rfl rfl, CRow.cell (CRow.keep m0 k) (k := 4) rfl rfl⟩
  have i0 := (hm 0 (by omega))
  have i3 := (hm 3 (by omega))
  have HA := hide (fun W => radd13_no (P 0 0) a W (by have := (i0.2.2 0 (by omega)).1.1; omega) (by have := (i0.2.2 0 (by omega)).1.2; omega) (by have := hp.2.2.1.1; omega) (by have := hp.2.2.1.2; omega))
  have HB := hide (fun W => radd13_no (P 0 3) c W (by have := (i0.2.2 3 (by omega)).1.1; omega) (by have := (i0.2.2 3 (by omega)).1.2; omega) (by have := hp.2.2.2.2.1.1; omega) (by have := hp.2.2.2.2.1.2; omega))
  have HC := hide (fun W => radd13_no (P 3 3) b W (by have := (i3.2.2 3 (by omega)).1.1; omega) (by have := (i3.2.2 3 (by omega)).1.2; omega) (by have := hp.2.2.2.1.1; omega) (by have := hp.2.2.2.1.2; omega))
  have HX := hide (fun W => radd13_yes x (X 0) W (by have := hp.1.1; omega) (by have := hp.1.2; omega) (by have := i0.1.1; omega) (by have := i0.1.2; omega))
  have HY := hide (fun W => radd13_yes y (X 3) W (by have := hp.2.1.1; omega) (by have := hp.2.1.2; omega) (by have := i3.1.1; omega) (by have := i3.1.2; omega))
  have HM := hide (rmay12_grid true (some xa) (some pa) xc pc X P W (HX0.keep B0) (HP0.keep B0) ⟨fun _ => hm, fun _ => rfl⟩)
  have HN := hide (fun W => rmay13_any x y a b c W)
  rw [decide_eq_true hp] at HN
  have HF := hide (fun lo cm W (g : Grid W lo 2 cm 2 (oM P a b c)) => dof_any 2 cm lo (oM P a b c) W (by omega) (by omega) g (g2_b (cl64 _) (cl64 _) (cl64 _)))
  have eG : Hid (og X P x y a b c = (Qn.great (P 0 0 + a) || Qn.great (P 0 3 + c) || Qn.great (P 3 3 + b) || Qn.great (x - X 0) || Qn.great (y - X 3))) := rfl
  have eM : Hid (oM P a b c = g2 (Qn.clamp (P 0 0 + a)) (Qn.clamp (P 0 3 + c)) (Qn.clamp (P 3 3 + b))) := rfl
  have eX : Hid (ox X x = Qn.clamp (x - X 0)) := rfl
  have eY : Hid (oy X y = Qn.clamp (y - X 3)) := rfl
  have hSame := g2_same (oa P a) (ob P c) (oc P b)
  have HSm : Hid (Ld.Same 2 (oM P a b c)) := hSame
  obtain ⟨va, hva⟩ : ∃ z, z = Qn.clamp (P 0 0 + a) := ⟨_, rfl⟩
  obtain ⟨vb, hvb⟩ : ∃ z, z = Qn.clamp (P 0 3 + c) := ⟨_, rfl⟩
  obtain ⟨vc, hvc⟩ : ∃ z, z = Qn.clamp (P 3 3 + b) := ⟨_, rfl⟩
  obtain ⟨vx, hvx⟩ : ∃ z, z = Qn.clamp (x - X 0) := ⟨_, rfl⟩
  obtain ⟨vy, hvy⟩ : ∃ z, z = Qn.clamp (y - X 3) := ⟨_, rfl⟩
  obtain ⟨qa, hqa⟩ : ∃ z, z = Qn.great (P 0 0 + a) := ⟨_, rfl⟩
  obtain ⟨qb, hqb⟩ : ∃ z, z = Qn.great (P 0 3 + c) := ⟨_, rfl⟩
  obtain ⟨qc, hqc⟩ : ∃ z, z = Qn.great (P 3 3 + b) := ⟨_, rfl⟩
  obtain ⟨qx, hqx⟩ : ∃ z, z = Qn.great (x - X 0) := ⟨_, rfl⟩
  obtain ⟨qy, hqy⟩ : ∃ z, z = Qn.great (y - X 3) := ⟨_, rfl⟩
  rw [← hva, ← hqa] at HA
  rw [← hvb, ← hqb] at HB
  rw [← hvc, ← hqc] at HC
  rw [← hvx, ← hqx] at HX
  rw [← hvy, ← hqy] at HY
  rw [← hqa, ← hqb, ← hqc, ← hqx, ← hqy] at eG
  rw [← hva, ← hvb, ← hvc] at eM
  rw [← hvx] at eX
  rw [← hvy] at eY
  rw [eG.out, eX.out, eY.out]
  obtain ⟨Mx, hMx⟩ : ∃ M, M = oM P a b c := ⟨_, rfl⟩
  rw [← hMx] at HF eM HSm ⊢
  obtain ⟨p00, hp00⟩ : ∃ z, z = P 0 0 := ⟨_, rfl⟩
  obtain ⟨p03, hp03⟩ : ∃ z, z = P 0 3 := ⟨_, rfl⟩
  obtain ⟨p33, hp33⟩ : ∃ z, z = P 3 3 := ⟨_, rfl⟩
  obtain ⟨x0, hx0⟩ : ∃ z, z = X 0 := ⟨_, rfl⟩
  obtain ⟨x3, hx3⟩ : ∃ z, z = X 3 := ⟨_, rfl⟩
  rw [← hp00] at HA hS
  rw [← hp03] at HB hS
  rw [← hp33] at HC hS
  rw [← hx0] at HX hS
  rw [← hx3] at HY hS
  have HS := hide hS
  have HR : Hid (∀ V, Below W.heap.size W V → CRow V (w.heap.size + 1 + 1) 51 [.slice none 0 0, .slice none 0 0, .slice none 0 0]) := fun V k => CRow.keep r0 k
  have m0' := m0
  clear hS hxa hxc hs hr hpa hpc hra hrc hrb hrd e0 e3 e00 e03 e33 ex0 ex3 i0 i3 hSame hva hvb hvc hvx hvy hqa hqb hqc hqx hqy hMx hp00 hp03 hp33 hx0 hx3 hrc' hrd' HX0 HP0 hX hm hp eG eX eY r0
  go_enter Tryz.func9, Tryz.ntmps9
  go_wp2_with (first
    | (erw [← HW.out]; (refine St.wpList_load isSt (by rfl) _ (by rfl) _ _ (by rfl) (by with_reducible exact t0) rfl ?_))
    | fail)
  refine HM.out.mono ?_
  rintro e w1 ⟨rfl, k1⟩
  have m1 := CRow.keep m0 k1
  go_wp2_with (first
    | (refine St.wpList_load isSeen (by rfl) _ (by rfl) _ _ (by rfl) (by with_reducible exact m1) rfl ?_)
    | fail)
  refine (HN.out _).mono ?_
  rintro e w2 ⟨rfl, k2⟩
  have D2 := below_tr k1 k2
  clear m0 m0' m1 k1 k2 HM HN HW t0
  go_upto_region 3 with fail
  refine Ru.wp_region_U [] (fun w' => w'.cell? ⟨w.heap.size, 0, none⟩ = some (.slice (some xa) 6 xc) ∧ w'.cell? ⟨w.heap.size, 1, none⟩ = some (.slice (some pa) 6 pc) ∧ w'.cell? pa = some (.slice (some ra) 6 rc) ∧ w'.cell? (pa.add 3) = some (.slice (some rb) 6 rd) ∧ w'.cell? ra = some (.int .i64 p00) ∧ w'.cell? (ra.add 3) = some (.int .i64 p03) ∧ w'.cell? (rb.add 3) = some (.int .i64 p33) ∧ w'.cell? xa = some (.int .i64 x0) ∧ w'.cell? (xa.add 3) = some (.int .i64 x3) ∧ w'.cell? ⟨w.heap.size + 1, 0, none⟩ = some (.int .i64 x) ∧ w'.cell? ⟨w.heap.size + 1, 1, none⟩ = some (.int .i64 y) ∧ w'.cell? ⟨w.heap.size + 1, 2, none⟩ = some (.int .i64 a) ∧ w'.cell? ⟨w.heap.size + 1, 3, none⟩ = some (.int .i64 b) ∧ w'.cell? ⟨w.heap.size + 1, 4, none⟩ = some (.int .i64 c)) (by kernel_rfl) (HS.out _ (below_tr D2 (Vc.below_drew' _))) (fun hHeld => ?_)
  refine Ru.wpAnyU_take (i := 0) (v := .pointer (some ⟨w.heap.size, 1, none⟩)) rfl (by kernel_rfl) (by kernel_rfl) (by kernel_rfl) (by kernel_rfl) (by kernel_rfl) (by kernel_rfl) (fun _ _ _ h => h) (Or.inl ⟨by kernel_rfl, fun w hS => by obtain ⟨sc0, sc1, sc2, sc3, sc4, sc5, sc6, sc7, sc8, sc9, sc10, sc11, sc12, sc13⟩ := hS; go_simp⟩) hHeld ?_
  simp only [Act.put, zq1, zq2, zq3, zq4, zq5, zq6]
  refine Ru.wpAnyU_take (i := 1) (v := .slice (some pa) 6 pc) rfl (by kernel_rfl) (by kernel_rfl) (by kernel_rfl) (by kernel_rfl) (by kernel_rfl) (by kernel_rfl) (fun _ _ _ h => h) (Or.inl ⟨by kernel_rfl, fun w hS => by obtain ⟨sc0, sc1, sc2, sc3, sc4, sc5, sc6, sc7, sc8, sc9, sc10, sc11, sc12, sc13⟩ := hS; go_simp⟩) hHeld ?_
  simp only [Act.put, zq1, zq2, zq3, zq4, zq5, zq6]
  refine Ru.wpAnyU_take (i := 2) (v := .pointer (some pa)) rfl (by kernel_rfl) (by kernel_rfl) (by kernel_rfl) (by kernel_rfl) (by kernel_rfl) (by kernel_rfl) (fun _ _ _ h => h) (Or.inl ⟨by kernel_rfl, fun w hS => by obtain ⟨sc0, sc1, sc2, sc3, sc4, sc5, sc6, sc7, sc8, sc9, sc10, sc11, sc12, sc13⟩ := hS; go_simp⟩) hHeld ?_
  simp only [Act.put, zq1, zq2, zq3, zq4, zq5, zq6]
  refine Ru.wpAnyU_take (i := 3) (v := .slice (some ra) 6 rc) rfl (by kernel_rfl) (by kernel_rfl) (by kernel_rfl) (by kernel_rfl) (by kernel_rfl) (by kernel_rfl) (fun _ _ _ h => h) (Or.inl ⟨by kernel_rfl, fun w hS => by obtain ⟨sc0, sc1, sc2, sc3, sc4, sc5, sc6, sc7, sc8, sc9, sc10, sc11, sc12, sc13⟩ := hS; go_simp⟩) hHeld ?_
  simp only [Act.put, zq1, zq2, zq3, zq4, zq5, zq6]
  refine Ru.wpAnyU_take (i := 4) (v := .pointer (some ra)) rfl (by kernel_rfl) (by kernel_rfl) (by kernel_rfl) (by kernel_rfl) (by kernel_rfl) (by kernel_rfl) (fun _ _ _ h => h) (Or.inl ⟨by kernel_rfl, fun w hS => by obtain ⟨sc0, sc1, sc2, sc3, sc4, sc5, sc6, sc7, sc8, sc9, sc10, sc11, sc12, sc13⟩ := hS; go_simp⟩) hHeld ?_
  simp only [Act.put, zq1, zq2, zq3, zq4, zq5, zq6]
  refine Ru.wpAnyU_take (i := 5) (v := .int .i64 p00) rfl (by kernel_rfl) (by kernel_rfl) (by kernel_rfl) (by kernel_rfl) (by kernel_rfl) (by kernel_rfl) (fun _ _ _ h => h) (Or.inl ⟨by kernel_rfl, fun w hS => by obtain ⟨sc0, sc1, sc2, sc3, sc4, sc5, sc6, sc7, sc8, sc9, sc10, sc11, sc12, sc13⟩ := hS; go_simp⟩) hHeld ?_
  simp only [Act.put, zq1, zq2, zq3, zq4, zq5, zq6]
  refine Ru.wpAnyU_take (i := 6) (v := .pointer (some ⟨w.heap.size + 1, 2, none⟩)) rfl (by kernel_rfl) (by kernel_rfl) (by kernel_rfl) (by kernel_rfl) (by kernel_rfl) (by kernel_rfl) (fun _ _ _ h => h) (Or.inl ⟨by kernel_rfl, fun w hS => by obtain ⟨sc0, sc1, sc2, sc3, sc4, sc5, sc6, sc7, sc8, sc9, sc10, sc11, sc12, sc13⟩ := hS; go_simp⟩) hHeld ?_
  simp only [Act.put, zq1, zq2, zq3, zq4, zq5, zq6]
  refine Ru.wpAnyU_take (i := 7) (v := .int .i64 a) rfl (by kernel_rfl) (by kernel_rfl) (by kernel_rfl) (by kernel_rfl) (by kernel_rfl) (by kernel_rfl) (fun _ _ _ h => h) (Or.inl ⟨by kernel_rfl, fun w hS => by obtain ⟨sc0, sc1, sc2, sc3, sc4, sc5, sc6, sc7, sc8, sc9, sc10, sc11, sc12, sc13⟩ := hS; go_simp⟩) hHeld ?_
  simp only [Act.put, zq1, zq2, zq3, zq4, zq5, zq6]
  refine Ru.wpAnyU_ready (rs := [8]) (by kernel_rfl) (by simp) ?_
  refine Ru.AllReadyU.cons rfl (by kernel_rfl) (fun K hK => ?_) Ru.AllReadyU.nil
  go_simp
  refine (HA.out _).mono ?_
  rintro _ w3 ⟨rfl, k3⟩
  have D3 := below_tr (below_tr D2 (Vc.below_drew' _)) k3
  go_wp2_with fail
  refine hK.out _ _ (HS.out _ D3) (fun hHeld => ?_)
  clear hK K
  try simp only [Act.put, zq1, zq2, zq3, zq4, zq5, zq6]
  refine Ru.wpAnyU_take (i := 9) (v := .tuple #[.int .i64 va, .bool qa]) rfl (by kernel_rfl) (by kernel_rfl) (by kernel_rfl) (by kernel_rfl) (by kernel_rfl) (by kernel_rfl) (fun _ _ _ h => h) (Or.inl ⟨by kernel_rfl, fun w hS => by obtain ⟨sc0, sc1, sc2, sc3, sc4, sc5, sc6, sc7, sc8, sc9, sc10, sc11, sc12, sc13⟩ := hS; go_simp⟩) hHeld ?_
  simp only [Act.put, zq1, zq2, zq3, zq4, zq5, zq6]
  refine Ru.wpAnyU_take (i := 10) (v := .int .i64 va) rfl (by kernel_rfl) (by kernel_rfl) (by kernel_rfl) (by kernel_rfl) (by kernel_rfl) (by kernel_rfl) (fun _ _ _ h => h) (Or.inl ⟨by kernel_rfl, fun w hS => by obtain ⟨sc0, sc1, sc2, sc3, sc4, sc5, sc6, sc7, sc8, sc9, sc10, sc11, sc12, sc13⟩ := hS; go_simp⟩) hHeld ?_
  simp only [Act.put, zq1, zq2, zq3, zq4, zq5, zq6]
  refine Ru.wpAnyU_take (i := 11) (v := .bool qa) rfl (by kernel_rfl) (by kernel_rfl) (by kernel_rfl) (by kernel_rfl) (by kernel_rfl) (by kernel_rfl) (fun _ _ _ h => h) (Or.inl ⟨by kernel_rfl, fun w hS => by obtain ⟨sc0, sc1, sc2, sc3, sc4, sc5, sc6, sc7, sc8, sc9, sc10, sc11, sc12, sc13⟩ := hS; go_simp⟩) hHeld ?_
  simp only [Act.put, zq1, zq2, zq3, zq4, zq5, zq6]
  refine Ru.wpAnyU_take (i := 12) (v := .int .i64 va) rfl (by kernel_rfl) (by kernel_rfl) (by kernel_rfl) (by kernel_rfl) (by kernel_rfl) (by kernel_rfl) (fun _ _ _ h => h) (Or.inl ⟨by kernel_rfl, fun w hS => by obtain ⟨sc0, sc1, sc2, sc3, sc4, sc5, sc6, sc7, sc8, sc9, sc10, sc11, sc12, sc13⟩ := hS; go_simp⟩) hHeld ?_
  simp only [Act.put, zq1, zq2, zq3, zq4, zq5, zq6]
  refine Ru.wpAnyU_take (i := 13) (v := .bool qa) rfl (by kernel_rfl) (by kernel_rfl) (by kernel_rfl) (by kernel_rfl) (by kernel_rfl) (by kernel_rfl) (fun _ _ _ h => h) (Or.inl ⟨by kernel_rfl, fun w hS => by obtain ⟨sc0, sc1, sc2, sc3, sc4, sc5, sc6, sc7, sc8, sc9, sc10, sc11, sc12, sc13⟩ := hS; go_simp⟩) hHeld ?_
  simp only [Act.put, zq1, zq2, zq3, zq4, zq5, zq6]
  refine Ru.wpAnyU_done (by kernel_rfl) ?_
  go_upto_region 4 with fail
  refine Ru.wp_region_U [] (fun w' => w'.cell? ⟨w.heap.size, 0, none⟩ = some (.slice (some xa) 6 xc) ∧ w'.cell? ⟨w.heap.size, 1, none⟩ = some (.slice (some pa) 6 pc) ∧ w'.cell? pa = some (.slice (some ra) 6 rc) ∧ w'.cell? (pa.add 3) = some (.slice (some rb) 6 rd) ∧ w'.cell? ra = some (.int .i64 p00) ∧ w'.cell? (ra.add 3) = some (.int .i64 p03) ∧ w'.cell? (rb.add 3) = some (.int .i64 p33) ∧ w'.cell? xa = some (.int .i64 x0) ∧ w'.cell? (xa.add 3) = some (.int .i64 x3) ∧ w'.cell? ⟨w.heap.size + 1, 0, none⟩ = some (.int .i64 x) ∧ w'.cell? ⟨w.heap.size + 1, 1, none⟩ = some (.int .i64 y) ∧ w'.cell? ⟨w.heap.size + 1, 2, none⟩ = some (.int .i64 a) ∧ w'.cell? ⟨w.heap.size + 1, 3, none⟩ = some (.int .i64 b) ∧ w'.cell? ⟨w.heap.size + 1, 4, none⟩ = some (.int .i64 c)) (by kernel_rfl) (HS.out _ (below_tr D3 (Vc.below_drew' _))) (fun hHeld => ?_)
  refine Ru.wpAnyU_take (i := 0) (v := .pointer (some ⟨w.heap.size, 1, none⟩)) rfl (by kernel_rfl) (by kernel_rfl) (by kernel_rfl) (by kernel_rfl) (by kernel_rfl) (by kernel_rfl) (fun _ _ _ h => h) (Or.inl ⟨by kernel_rfl, fun w hS => by obtain ⟨sc0, sc1, sc2, sc3, sc4, sc5, sc6, sc7, sc8, sc9, sc10, sc11, sc12, sc13⟩ := hS; go_simp⟩) hHeld ?_
  simp only [Act.put, zq1, zq2, zq3, zq4, zq5, zq6]
  refine Ru.wpAnyU_take (i := 1) (v := .slice (some pa) 6 pc) rfl (by kernel_rfl) (by kernel_rfl) (by kernel_rfl) (by kernel_rfl) (by kernel_rfl) (by kernel_rfl) (fun _ _ _ h => h) (Or.inl ⟨by kernel_rfl, fun w hS => by obtain ⟨sc0, sc1, sc2, sc3, sc4, sc5, sc6, sc7, sc8, sc9, sc10, sc11, sc12, sc13⟩ := hS; go_simp⟩) hHeld ?_
  simp only [Act.put, zq1, zq2, zq3, zq4, zq5, zq6]
  refine Ru.wpAnyU_take (i := 2) (v := .pointer (some pa)) rfl (by kernel_rfl) (by kernel_rfl) (by kernel_rfl) (by kernel_rfl) (by kernel_rfl) (by kernel_rfl) (fun _ _ _ h => h) (Or.inl ⟨by kernel_rfl, fun w hS => by obtain ⟨sc0, sc1, sc2, sc3, sc4, sc5, sc6, sc7, sc8, sc9, sc10, sc11, sc12, sc13⟩ := hS; go_simp⟩) hHeld ?_
  simp only [Act.put, zq1, zq2, zq3, zq4, zq5, zq6]
  refine Ru.wpAnyU_take (i := 3) (v := .slice (some ra) 6 rc) rfl (by kernel_rfl) (by kernel_rfl) (by kernel_rfl) (by kernel_rfl) (by kernel_rfl) (by kernel_rfl) (fun _ _ _ h => h) (Or.inl ⟨by kernel_rfl, fun w hS => by obtain ⟨sc0, sc1, sc2, sc3, sc4, sc5, sc6, sc7, sc8, sc9, sc10, sc11, sc12, sc13⟩ := hS; go_simp⟩) hHeld ?_
  simp only [Act.put, zq1, zq2, zq3, zq4, zq5, zq6]
  refine Ru.wpAnyU_take (i := 4) (v := .pointer (some (ra.add 3))) rfl (by kernel_rfl) (by kernel_rfl) (by kernel_rfl) (by kernel_rfl) (by kernel_rfl) (by kernel_rfl) (fun _ _ _ h => h) (Or.inl ⟨by kernel_rfl, fun w hS => by obtain ⟨sc0, sc1, sc2, sc3, sc4, sc5, sc6, sc7, sc8, sc9, sc10, sc11, sc12, sc13⟩ := hS; go_simp⟩) hHeld ?_
  simp only [Act.put, zq1, zq2, zq3, zq4, zq5, zq6]
  refine Ru.wpAnyU_take (i := 5) (v := .int .i64 p03) rfl (by kernel_rfl) (by kernel_rfl) (by kernel_rfl) (by kernel_rfl) (by kernel_rfl) (by kernel_rfl) (fun _ _ _ h => h) (Ud.yieldsI (by kernel_rfl) _ (by rfl) (ra.add 3) _ (by rfl) (fun w h => h.2.2.2.2.2.1)) hHeld ?_
  simp only [Act.put, zq1, zq2, zq3, zq4, zq5, zq6]
  refine Ru.wpAnyU_take (i := 6) (v := .pointer (some ⟨w.heap.size + 1, 4, none⟩)) rfl (by kernel_rfl) (by kernel_rfl) (by kernel_rfl) (by kernel_rfl) (by kernel_rfl) (by kernel_rfl) (fun _ _ _ h => h) (Or.inl ⟨by kernel_rfl, fun w hS => by obtain ⟨sc0, sc1, sc2, sc3, sc4, sc5, sc6, sc7, sc8, sc9, sc10, sc11, sc12, sc13⟩ := hS; go_simp⟩) hHeld ?_
  simp only [Act.put, zq1, zq2, zq3, zq4, zq5, zq6]
  refine Ru.wpAnyU_take (i := 7) (v := .int .i64 c) rfl (by kernel_rfl) (by kernel_rfl) (by kernel_rfl) (by kernel_rfl) (by kernel_rfl) (by kernel_rfl) (fun _ _ _ h => h) (Or.inl ⟨by kernel_rfl, fun w hS => by obtain ⟨sc0, sc1, sc2, sc3, sc4, sc5, sc6, sc7, sc8, sc9, sc10, sc11, sc12, sc13⟩ := hS; go_simp⟩) hHeld ?_
  simp only [Act.put, zq1, zq2, zq3, zq4, zq5, zq6]
  refine Ru.wpAnyU_ready (rs := [8]) (by kernel_rfl) (by simp) ?_
  refine Ru.AllReadyU.cons rfl (by kernel_rfl) (fun K hK => ?_) Ru.AllReadyU.nil
  go_simp
  refine (HB.out _).mono ?_
  rintro _ w4 ⟨rfl, k4⟩
  have D4 := below_tr (below_tr D3 (Vc.below_drew' _)) k4
  go_wp2_with fail
  refine hK.out _ _ (HS.out _ D4) (fun hHeld => ?_)
  clear hK K
  try simp only [Act.put, zq1, zq2, zq3, zq4, zq5, zq6]
  refine Ru.wpAnyU_take (i := 9) (v := .tuple #[.int .i64 vb, .bool qb]) rfl (by kernel_rfl) (by kernel_rfl) (by kernel_rfl) (by kernel_rfl) (by kernel_rfl) (by kernel_rfl) (fun _ _ _ h => h) (Or.inl ⟨by kernel_rfl, fun w hS => by obtain ⟨sc0, sc1, sc2, sc3, sc4, sc5, sc6, sc7, sc8, sc9, sc10, sc11, sc12, sc13⟩ := hS; go_simp⟩) hHeld ?_
  simp only [Act.put, zq1, zq2, zq3, zq4, zq5, zq6]
  refine Ru.wpAnyU_take (i := 10) (v := .int .i64 vb) rfl (by kernel_rfl) (by kernel_rfl) (by kernel_rfl) (by kernel_rfl) (by kernel_rfl) (by kernel_rfl) (fun _ _ _ h => h) (Or.inl ⟨by kernel_rfl, fun w hS => by obtain ⟨sc0, sc1, sc2, sc3, sc4, sc5, sc6, sc7, sc8, sc9, sc10, sc11, sc12, sc13⟩ := hS; go_simp⟩) hHeld ?_
  simp only [Act.put, zq1, zq2, zq3, zq4, zq5, zq6]
  refine Ru.wpAnyU_take (i := 11) (v := .bool qb) rfl (by kernel_rfl) (by kernel_rfl) (by kernel_rfl) (by kernel_rfl) (by kernel_rfl) (by kernel_rfl) (fun _ _ _ h => h) (Or.inl ⟨by kernel_rfl, fun w hS => by obtain ⟨sc0, sc1, sc2, sc3, sc4, sc5, sc6, sc7, sc8, sc9, sc10, sc11, sc12, sc13⟩ := hS; go_simp⟩) hHeld ?_
  simp only [Act.put, zq1, zq2, zq3, zq4, zq5, zq6]
  refine Ru.wpAnyU_take (i := 12) (v := .int .i64 vb) rfl (by kernel_rfl) (by kernel_rfl) (by kernel_rfl) (by kernel_rfl) (by kernel_rfl) (by kernel_rfl) (fun _ _ _ h => h) (Or.inl ⟨by kernel_rfl, fun w hS => by obtain ⟨sc0, sc1, sc2, sc3, sc4, sc5, sc6, sc7, sc8, sc9, sc10, sc11, sc12, sc13⟩ := hS; go_simp⟩) hHeld ?_
  simp only [Act.put, zq1, zq2, zq3, zq4, zq5, zq6]
  refine Ru.wpAnyU_take (i := 13) (v := .bool qb) rfl (by kernel_rfl) (by kernel_rfl) (by kernel_rfl) (by kernel_rfl) (by kernel_rfl) (by kernel_rfl) (fun _ _ _ h => h) (Or.inl ⟨by kernel_rfl, fun w hS => by obtain ⟨sc0, sc1, sc2, sc3, sc4, sc5, sc6, sc7, sc8, sc9, sc10, sc11, sc12, sc13⟩ := hS; go_simp⟩) hHeld ?_
  simp only [Act.put, zq1, zq2, zq3, zq4, zq5, zq6]
  refine Ru.wpAnyU_done (by kernel_rfl) ?_
  go_upto_region 5 with fail
  refine Ru.wp_region_U [] (fun w' => w'.cell? ⟨w.heap.size, 0, none⟩ = some (.slice (some xa) 6 xc) ∧ w'.cell? ⟨w.heap.size, 1, none⟩ = some (.slice (some pa) 6 pc) ∧ w'.cell? pa = some (.slice (some ra) 6 rc) ∧ w'.cell? (pa.add 3) = some (.slice (some rb) 6 rd) ∧ w'.cell? ra = some (.int .i64 p00) ∧ w'.cell? (ra.add 3) = some (.int .i64 p03) ∧ w'.cell? (rb.add 3) = some (.int .i64 p33) ∧ w'.cell? xa = some (.int .i64 x0) ∧ w'.cell? (xa.add 3) = some (.int .i64 x3) ∧ w'.cell? ⟨w.heap.size + 1, 0, none⟩ = some (.int .i64 x) ∧ w'.cell? ⟨w.heap.size + 1, 1, none⟩ = some (.int .i64 y) ∧ w'.cell? ⟨w.heap.size + 1, 2, none⟩ = some (.int .i64 a) ∧ w'.cell? ⟨w.heap.size + 1, 3, none⟩ = some (.int .i64 b) ∧ w'.cell? ⟨w.heap.size + 1, 4, none⟩ = some (.int .i64 c)) (by kernel_rfl) (HS.out _ (below_tr D4 (Vc.below_drew' _))) (fun hHeld => ?_)
  refine Ru.wpAnyU_take (i := 0) (v := .pointer (some ⟨w.heap.size, 1, none⟩)) rfl (by kernel_rfl) (by kernel_rfl) (by kernel_rfl) (by kernel_rfl) (by kernel_rfl) (by kernel_rfl) (fun _ _ _ h => h) (Or.inl ⟨by kernel_rfl, fun w hS => by obtain ⟨sc0, sc1, sc2, sc3, sc4, sc5, sc6, sc7, sc8, sc9, sc10, sc11, sc12, sc13⟩ := hS; go_simp⟩) hHeld ?_
  simp only [Act.put, zq1, zq2, zq3, zq4, zq5, zq6]
  refine Ru.wpAnyU_take (i := 1) (v := .slice (some pa) 6 pc) rfl (by kernel_rfl) (by kernel_rfl) (by kernel_rfl) (by kernel_rfl) (by kernel_rfl) (by kernel_rfl) (fun _ _ _ h => h) (Or.inl ⟨by kernel_rfl, fun w hS => by obtain ⟨sc0, sc1, sc2, sc3, sc4, sc5, sc6, sc7, sc8, sc9, sc10, sc11, sc12, sc13⟩ := hS; go_simp⟩) hHeld ?_
  simp only [Act.put, zq1, zq2, zq3, zq4, zq5, zq6]
  refine Ru.wpAnyU_take (i := 2) (v := .pointer (some (pa.add 3))) rfl (by kernel_rfl) (by kernel_rfl) (by kernel_rfl) (by kernel_rfl) (by kernel_rfl) (by kernel_rfl) (fun _ _ _ h => h) (Or.inl ⟨by kernel_rfl, fun w hS => by obtain ⟨sc0, sc1, sc2, sc3, sc4, sc5, sc6, sc7, sc8, sc9, sc10, sc11, sc12, sc13⟩ := hS; go_simp⟩) hHeld ?_
  simp only [Act.put, zq1, zq2, zq3, zq4, zq5, zq6]
  refine Ru.wpAnyU_take (i := 3) (v := .slice (some rb) 6 rd) rfl (by kernel_rfl) (by kernel_rfl) (by kernel_rfl) (by kernel_rfl) (by kernel_rfl) (by kernel_rfl) (fun _ _ _ h => h) (Ud.yieldsL (by kernel_rfl) _ (by rfl) (pa.add 3) _ (by rfl) (fun w h => h.2.2.2.1)) hHeld ?_
  simp only [Act.put, zq1, zq2, zq3, zq4, zq5, zq6]
  refine Ru.wpAnyU_take (i := 4) (v := .pointer (some (rb.add 3))) rfl (by kernel_rfl) (by kernel_rfl) (by kernel_rfl) (by kernel_rfl) (by kernel_rfl) (by kernel_rfl) (fun _ _ _ h => h) (Or.inl ⟨by kernel_rfl, fun w hS => by obtain ⟨sc0, sc1, sc2, sc3, sc4, sc5, sc6, sc7, sc8, sc9, sc10, sc11, sc12, sc13⟩ := hS; go_simp⟩) hHeld ?_
  simp only [Act.put, zq1, zq2, zq3, zq4, zq5, zq6]
  refine Ru.wpAnyU_take (i := 5) (v := .int .i64 p33) rfl (by kernel_rfl) (by kernel_rfl) (by kernel_rfl) (by kernel_rfl) (by kernel_rfl) (by kernel_rfl) (fun _ _ _ h => h) (Ud.yieldsI (by kernel_rfl) _ (by rfl) (rb.add 3) _ (by rfl) (fun w h => h.2.2.2.2.2.2.1)) hHeld ?_
  simp only [Act.put, zq1, zq2, zq3, zq4, zq5, zq6]
  refine Ru.wpAnyU_take (i := 6) (v := .pointer (some ⟨w.heap.size + 1, 3, none⟩)) rfl (by kernel_rfl) (by kernel_rfl) (by kernel_rfl) (by kernel_rfl) (by kernel_rfl) (by kernel_rfl) (fun _ _ _ h => h) (Or.inl ⟨by kernel_rfl, fun w hS => by obtain ⟨sc0, sc1, sc2, sc3, sc4, sc5, sc6, sc7, sc8, sc9, sc10, sc11, sc12, sc13⟩ := hS; go_simp⟩) hHeld ?_
  simp only [Act.put, zq1, zq2, zq3, zq4, zq5, zq6]
  refine Ru.wpAnyU_take (i := 7) (v := .int .i64 b) rfl (by kernel_rfl) (by kernel_rfl) (by kernel_rfl) (by kernel_rfl) (by kernel_rfl) (by kernel_rfl) (fun _ _ _ h => h) (Or.inl ⟨by kernel_rfl, fun w hS => by obtain ⟨sc0, sc1, sc2, sc3, sc4, sc5, sc6, sc7, sc8, sc9, sc10, sc11, sc12, sc13⟩ := hS; go_simp⟩) hHeld ?_
  simp only [Act.put, zq1, zq2, zq3, zq4, zq5, zq6]
  refine Ru.wpAnyU_ready (rs := [8]) (by kernel_rfl) (by simp) ?_
  refine Ru.AllReadyU.cons rfl (by kernel_rfl) (fun K hK => ?_) Ru.AllReadyU.nil
  go_simp
  refine (HC.out _).mono ?_
  rintro _ w5 ⟨rfl, k5⟩
  have D5 := below_tr (below_tr D4 (Vc.below_drew' _)) k5
  go_wp2_with fail
  refine hK.out _ _ (HS.out _ D5) (fun hHeld => ?_)
  clear hK K
  try simp only [Act.put, zq1, zq2, zq3, zq4, zq5, zq6]
  refine Ru.wpAnyU_take (i := 9) (v := .tuple #[.int .i64 vc, .bool qc]) rfl (by kernel_rfl) (by kernel_rfl) (by kernel_rfl) (by kernel_rfl) (by kernel_rfl) (by kernel_rfl) (fun _ _ _ h => h) (Or.inl ⟨by kernel_rfl, fun w hS => by obtain ⟨sc0, sc1, sc2, sc3, sc4, sc5, sc6, sc7, sc8, sc9, sc10, sc11, sc12, sc13⟩ := hS; go_simp⟩) hHeld ?_
  simp only [Act.put, zq1, zq2, zq3, zq4, zq5, zq6]
  refine Ru.wpAnyU_take (i := 10) (v := .int .i64 vc) rfl (by kernel_rfl) (by kernel_rfl) (by kernel_rfl) (by kernel_rfl) (by kernel_rfl) (by kernel_rfl) (fun _ _ _ h => h) (Or.inl ⟨by kernel_rfl, fun w hS => by obtain ⟨sc0, sc1, sc2, sc3, sc4, sc5, sc6, sc7, sc8, sc9, sc10, sc11, sc12, sc13⟩ := hS; go_simp⟩) hHeld ?_
  simp only [Act.put, zq1, zq2, zq3, zq4, zq5, zq6]
  refine Ru.wpAnyU_take (i := 11) (v := .bool qc) rfl (by kernel_rfl) (by kernel_rfl) (by kernel_rfl) (by kernel_rfl) (by kernel_rfl) (by kernel_rfl) (fun _ _ _ h => h) (Or.inl ⟨by kernel_rfl, fun w hS => by obtain ⟨sc0, sc1, sc2, sc3, sc4, sc5, sc6, sc7, sc8, sc9, sc10, sc11, sc12, sc13⟩ := hS; go_simp⟩) hHeld ?_
  simp only [Act.put, zq1, zq2, zq3, zq4, zq5, zq6]
  refine Ru.wpAnyU_take (i := 12) (v := .int .i64 vc) rfl (by kernel_rfl) (by kernel_rfl) (by kernel_rfl) (by kernel_rfl) (by kernel_rfl) (by kernel_rfl) (fun _ _ _ h => h) (Or.inl ⟨by kernel_rfl, fun w hS => by obtain ⟨sc0, sc1, sc2, sc3, sc4, sc5, sc6, sc7, sc8, sc9, sc10, sc11, sc12, sc13⟩ := hS; go_simp⟩) hHeld ?_
  simp only [Act.put, zq1, zq2, zq3, zq4, zq5, zq6]
  refine Ru.wpAnyU_take (i := 13) (v := .bool qc) rfl (by kernel_rfl) (by kernel_rfl) (by kernel_rfl) (by kernel_rfl) (by kernel_rfl) (by kernel_rfl) (fun _ _ _ h => h) (Or.inl ⟨by kernel_rfl, fun w hS => by obtain ⟨sc0, sc1, sc2, sc3, sc4, sc5, sc6, sc7, sc8, sc9, sc10, sc11, sc12, sc13⟩ := hS; go_simp⟩) hHeld ?_
  simp only [Act.put, zq1, zq2, zq3, zq4, zq5, zq6]
  refine Ru.wpAnyU_done (by kernel_rfl) ?_
  go_upto_region 6 with fail
  refine Ru.wp_region_U [] (fun w' => w'.cell? ⟨w.heap.size, 0, none⟩ = some (.slice (some xa) 6 xc) ∧ w'.cell? ⟨w.heap.size, 1, none⟩ = some (.slice (some pa) 6 pc) ∧ w'.cell? pa = some (.slice (some ra) 6 rc) ∧ w'.cell? (pa.add 3) = some (.slice (some rb) 6 rd) ∧ w'.cell? ra = some (.int .i64 p00) ∧ w'.cell? (ra.add 3) = some (.int .i64 p03) ∧ w'.cell? (rb.add 3) = some (.int .i64 p33) ∧ w'.cell? xa = some (.int .i64 x0) ∧ w'.cell? (xa.add 3) = some (.int .i64 x3) ∧ w'.cell? ⟨w.heap.size + 1, 0, none⟩ = some (.int .i64 x) ∧ w'.cell? ⟨w.heap.size + 1, 1, none⟩ = some (.int .i64 y) ∧ w'.cell? ⟨w.heap.size + 1, 2, none⟩ = some (.int .i64 a) ∧ w'.cell? ⟨w.heap.size + 1, 3, none⟩ = some (.int .i64 b) ∧ w'.cell? ⟨w.heap.size + 1, 4, none⟩ = some (.int .i64 c)) (by kernel_rfl) (HS.out _ (below_tr D5 (Vc.below_drew' _))) (fun hHeld => ?_)
  refine Ru.wpAnyU_take (i := 0) (v := .pointer (some ⟨w.heap.size + 1, 0, none⟩)) rfl (by kernel_rfl) (by kernel_rfl) (by kernel_rfl) (by kernel_rfl) (by kernel_rfl) (by kernel_rfl) (fun _ _ _ h => h) (Or.inl ⟨by kernel_rfl, fun w hS => by obtain ⟨sc0, sc1, sc2, sc3, sc4, sc5, sc6, sc7, sc8, sc9, sc10, sc11, sc12, sc13⟩ := hS; go_simp⟩) hHeld ?_
  simp only [Act.put, zq1, zq2, zq3, zq4, zq5, zq6]
  refine Ru.wpAnyU_take (i := 1) (v := .int .i64 x) rfl (by kernel_rfl) (by kernel_rfl) (by kernel_rfl) (by kernel_rfl) (by kernel_rfl) (by kernel_rfl) (fun _ _ _ h => h) (Or.inl ⟨by kernel_rfl, fun w hS => by obtain ⟨sc0, sc1, sc2, sc3, sc4, sc5, sc6, sc7, sc8, sc9, sc10, sc11, sc12, sc13⟩ := hS; go_simp⟩) hHeld ?_
  simp only [Act.put, zq1, zq2, zq3, zq4, zq5, zq6]
  refine Ru.wpAnyU_take (i := 2) (v := .pointer (some ⟨w.heap.size, 0, none⟩)) rfl (by kernel_rfl) (by kernel_rfl) (by kernel_rfl) (by kernel_rfl) (by kernel_rfl) (by kernel_rfl) (fun _ _ _ h => h) (Or.inl ⟨by kernel_rfl, fun w hS => by obtain ⟨sc0, sc1, sc2, sc3, sc4, sc5, sc6, sc7, sc8, sc9, sc10, sc11, sc12, sc13⟩ := hS; go_simp⟩) hHeld ?_
  simp only [Act.put, zq1, zq2, zq3, zq4, zq5, zq6]
  refine Ru.wpAnyU_take (i := 3) (v := .slice (some xa) 6 xc) rfl (by kernel_rfl) (by kernel_rfl) (by kernel_rfl) (by kernel_rfl) (by kernel_rfl) (by kernel_rfl) (fun _ _ _ h => h) (Or.inl ⟨by kernel_rfl, fun w hS => by obtain ⟨sc0, sc1, sc2, sc3, sc4, sc5, sc6, sc7, sc8, sc9, sc10, sc11, sc12, sc13⟩ := hS; go_simp⟩) hHeld ?_
  simp only [Act.put, zq1, zq2, zq3, zq4, zq5, zq6]
  refine Ru.wpAnyU_take (i := 4) (v := .pointer (some xa)) rfl (by kernel_rfl) (by kernel_rfl) (by kernel_rfl) (by kernel_rfl) (by kernel_rfl) (by kernel_rfl) (fun _ _ _ h => h) (Or.inl ⟨by kernel_rfl, fun w hS => by obtain ⟨sc0, sc1, sc2, sc3, sc4, sc5, sc6, sc7, sc8, sc9, sc10, sc11, sc12, sc13⟩ := hS; go_simp⟩) hHeld ?_
  simp only [Act.put, zq1, zq2, zq3, zq4, zq5, zq6]
  refine Ru.wpAnyU_take (i := 5) (v := .int .i64 x0) rfl (by kernel_rfl) (by kernel_rfl) (by kernel_rfl) (by kernel_rfl) (by kernel_rfl) (by kernel_rfl) (fun _ _ _ h => h) (Or.inl ⟨by kernel_rfl, fun w hS => by obtain ⟨sc0, sc1, sc2, sc3, sc4, sc5, sc6, sc7, sc8, sc9, sc10, sc11, sc12, sc13⟩ := hS; go_simp⟩) hHeld ?_
  simp only [Act.put, zq1, zq2, zq3, zq4, zq5, zq6]
  refine Ru.wpAnyU_ready (rs := [6]) (by kernel_rfl) (by simp) ?_
  refine Ru.AllReadyU.cons rfl (by kernel_rfl) (fun K hK => ?_) Ru.AllReadyU.nil
  go_simp
  refine (HX.out _).mono ?_
  rintro _ w6 ⟨rfl, k6⟩
  have D6 := below_tr (below_tr D5 (Vc.below_drew' _)) k6
  go_wp2_with fail
  refine hK.out _ _ (HS.out _ D6) (fun hHeld => ?_)
  clear hK K
  try simp only [Act.put, zq1, zq2, zq3, zq4, zq5, zq6]
  refine Ru.wpAnyU_take (i := 7) (v := .tuple #[.int .i64 vx, .bool qx]) rfl (by kernel_rfl) (by kernel_rfl) (by kernel_rfl) (by kernel_rfl) (by kernel_rfl) (by kernel_rfl) (fun _ _ _ h => h) (Or.inl ⟨by kernel_rfl, fun w hS => by obtain ⟨sc0, sc1, sc2, sc3, sc4, sc5, sc6, sc7, sc8, sc9, sc10, sc11, sc12, sc13⟩ := hS; go_simp⟩) hHeld ?_
  simp only [Act.put, zq1, zq2, zq3, zq4, zq5, zq6]
  refine Ru.wpAnyU_take (i := 8) (v := .int .i64 vx) rfl (by kernel_rfl) (by kernel_rfl) (by kernel_rfl) (by kernel_rfl) (by kernel_rfl) (by kernel_rfl) (fun _ _ _ h => h) (Or.inl ⟨by kernel_rfl, fun w hS => by obtain ⟨sc0, sc1, sc2, sc3, sc4, sc5, sc6, sc7, sc8, sc9, sc10, sc11, sc12, sc13⟩ := hS; go_simp⟩) hHeld ?_
  simp only [Act.put, zq1, zq2, zq3, zq4, zq5, zq6]
  refine Ru.wpAnyU_take (i := 9) (v := .bool qx) rfl (by kernel_rfl) (by kernel_rfl) (by kernel_rfl) (by kernel_rfl) (by kernel_rfl) (by kernel_rfl) (fun _ _ _ h => h) (Or.inl ⟨by kernel_rfl, fun w hS => by obtain ⟨sc0, sc1, sc2, sc3, sc4, sc5, sc6, sc7, sc8, sc9, sc10, sc11, sc12, sc13⟩ := hS; go_simp⟩) hHeld ?_
  simp only [Act.put, zq1, zq2, zq3, zq4, zq5, zq6]
  refine Ru.wpAnyU_take (i := 10) (v := .int .i64 vx) rfl (by kernel_rfl) (by kernel_rfl) (by kernel_rfl) (by kernel_rfl) (by kernel_rfl) (by kernel_rfl) (fun _ _ _ h => h) (Or.inl ⟨by kernel_rfl, fun w hS => by obtain ⟨sc0, sc1, sc2, sc3, sc4, sc5, sc6, sc7, sc8, sc9, sc10, sc11, sc12, sc13⟩ := hS; go_simp⟩) hHeld ?_
  simp only [Act.put, zq1, zq2, zq3, zq4, zq5, zq6]
  refine Ru.wpAnyU_take (i := 11) (v := .bool qx) rfl (by kernel_rfl) (by kernel_rfl) (by kernel_rfl) (by kernel_rfl) (by kernel_rfl) (by kernel_rfl) (fun _ _ _ h => h) (Or.inl ⟨by kernel_rfl, fun w hS => by obtain ⟨sc0, sc1, sc2, sc3, sc4, sc5, sc6, sc7, sc8, sc9, sc10, sc11, sc12, sc13⟩ := hS; go_simp⟩) hHeld ?_
  simp only [Act.put, zq1, zq2, zq3, zq4, zq5, zq6]
  refine Ru.wpAnyU_done (by kernel_rfl) ?_
  go_upto_region 7 with fail
  refine Ru.wp_region_U [] (fun w' => w'.cell? ⟨w.heap.size, 0, none⟩ = some (.slice (some xa) 6 xc) ∧ w'.cell? ⟨w.heap.size, 1, none⟩ = some (.slice (some pa) 6 pc) ∧ w'.cell? pa = some (.slice (some ra) 6 rc) ∧ w'.cell? (pa.add 3) = some (.slice (some rb) 6 rd) ∧ w'.cell? ra = some (.int .i64 p00) ∧ w'.cell? (ra.add 3) = some (.int .i64 p03) ∧ w'.cell? (rb.add 3) = some (.int .i64 p33) ∧ w'.cell? xa = some (.int .i64 x0) ∧ w'.cell? (xa.add 3) = some (.int .i64 x3) ∧ w'.cell? ⟨w.heap.size + 1, 0, none⟩ = some (.int .i64 x) ∧ w'.cell? ⟨w.heap.size + 1, 1, none⟩ = some (.int .i64 y) ∧ w'.cell? ⟨w.heap.size + 1, 2, none⟩ = some (.int .i64 a) ∧ w'.cell? ⟨w.heap.size + 1, 3, none⟩ = some (.int .i64 b) ∧ w'.cell? ⟨w.heap.size + 1, 4, none⟩ = some (.int .i64 c)) (by kernel_rfl) (HS.out _ (below_tr D6 (Vc.below_drew' _))) (fun hHeld => ?_)
  refine Ru.wpAnyU_take (i := 0) (v := .pointer (some ⟨w.heap.size + 1, 1, none⟩)) rfl (by kernel_rfl) (by kernel_rfl) (by kernel_rfl) (by kernel_rfl) (by kernel_rfl) (by kernel_rfl) (fun _ _ _ h => h) (Or.inl ⟨by kernel_rfl, fun w hS => by obtain ⟨sc0, sc1, sc2, sc3, sc4, sc5, sc6, sc7, sc8, sc9, sc10, sc11, sc12, sc13⟩ := hS; go_simp⟩) hHeld ?_
  simp only [Act.put, zq1, zq2, zq3, zq4, zq5, zq6]
  refine Ru.wpAnyU_take (i := 1) (v := .int .i64 y) rfl (by kernel_rfl) (by kernel_rfl) (by kernel_rfl) (by kernel_rfl) (by kernel_rfl) (by kernel_rfl) (fun _ _ _ h => h) (Or.inl ⟨by kernel_rfl, fun w hS => by obtain ⟨sc0, sc1, sc2, sc3, sc4, sc5, sc6, sc7, sc8, sc9, sc10, sc11, sc12, sc13⟩ := hS; go_simp⟩) hHeld ?_
  simp only [Act.put, zq1, zq2, zq3, zq4, zq5, zq6]
  refine Ru.wpAnyU_take (i := 2) (v := .pointer (some ⟨w.heap.size, 0, none⟩)) rfl (by kernel_rfl) (by kernel_rfl) (by kernel_rfl) (by kernel_rfl) (by kernel_rfl) (by kernel_rfl) (fun _ _ _ h => h) (Or.inl ⟨by kernel_rfl, fun w hS => by obtain ⟨sc0, sc1, sc2, sc3, sc4, sc5, sc6, sc7, sc8, sc9, sc10, sc11, sc12, sc13⟩ := hS; go_simp⟩) hHeld ?_
  simp only [Act.put, zq1, zq2, zq3, zq4, zq5, zq6]
  refine Ru.wpAnyU_take (i := 3) (v := .slice (some xa) 6 xc) rfl (by kernel_rfl) (by kernel_rfl) (by kernel_rfl) (by kernel_rfl) (by kernel_rfl) (by kernel_rfl) (fun _ _ _ h => h) (Or.inl ⟨by kernel_rfl, fun w hS => by obtain ⟨sc0, sc1, sc2, sc3, sc4, sc5, sc6, sc7, sc8, sc9, sc10, sc11, sc12, sc13⟩ := hS; go_simp⟩) hHeld ?_
  simp only [Act.put, zq1, zq2, zq3, zq4, zq5, zq6]
  refine Ru.wpAnyU_take (i := 4) (v := .pointer (some (xa.add 3))) rfl (by kernel_rfl) (by kernel_rfl) (by kernel_rfl) (by kernel_rfl) (by kernel_rfl) (by kernel_rfl) (fun _ _ _ h => h) (Or.inl ⟨by kernel_rfl, fun w hS => by obtain ⟨sc0, sc1, sc2, sc3, sc4, sc5, sc6, sc7, sc8, sc9, sc10, sc11, sc12, sc13⟩ := hS; go_simp⟩) hHeld ?_
  simp only [Act.put, zq1, zq2, zq3, zq4, zq5, zq6]
  refine Ru.wpAnyU_take (i := 5) (v := .int .i64 x3) rfl (by kernel_rfl) (by kernel_rfl) (by kernel_rfl) (by kernel_rfl) (by kernel_rfl) (by kernel_rfl) (fun _ _ _ h => h) (Ud.yieldsI (by kernel_rfl) _ (by rfl) (xa.add 3) _ (by rfl) (fun w h => h.2.2.2.2.2.2.2.2.1)) hHeld ?_
  simp only [Act.put, zq1, zq2, zq3, zq4, zq5, zq6]
  refine Ru.wpAnyU_ready (rs := [6]) (by kernel_rfl) (by simp) ?_
  refine Ru.AllReadyU.cons rfl (by kernel_rfl) (fun K hK => ?_) Ru.AllReadyU.nil
  go_simp
  refine (HY.out _).mono ?_
  rintro _ w7 ⟨rfl, k7⟩
  have D7 := below_tr (below_tr D6 (Vc.below_drew' _)) k7
  go_wp2_with fail
  refine hK.out _ _ (HS.out _ D7) (fun hHeld => ?_)
  clear hK K
  try simp only [Act.put, zq1, zq2, zq3, zq4, zq5, zq6]
  refine Ru.wpAnyU_take (i := 7) (v := .tuple #[.int .i64 vy, .bool qy]) rfl (by kernel_rfl) (by kernel_rfl) (by kernel_rfl) (by kernel_rfl) (by kernel_rfl) (by kernel_rfl) (fun _ _ _ h => h) (Or.inl ⟨by kernel_rfl, fun w hS => by obtain ⟨sc0, sc1, sc2, sc3, sc4, sc5, sc6, sc7, sc8, sc9, sc10, sc11, sc12, sc13⟩ := hS; go_simp⟩) hHeld ?_
  simp only [Act.put, zq1, zq2, zq3, zq4, zq5, zq6]
  refine Ru.wpAnyU_take (i := 8) (v := .int .i64 vy) rfl (by kernel_rfl) (by kernel_rfl) (by kernel_rfl) (by kernel_rfl) (by kernel_rfl) (by kernel_rfl) (fun _ _ _ h => h) (Or.inl ⟨by kernel_rfl, fun w hS => by obtain ⟨sc0, sc1, sc2, sc3, sc4, sc5, sc6, sc7, sc8, sc9, sc10, sc11, sc12, sc13⟩ := hS; go_simp⟩) hHeld ?_
  simp only [Act.put, zq1, zq2, zq3, zq4, zq5, zq6]
  refine Ru.wpAnyU_take (i := 9) (v := .bool qy) rfl (by kernel_rfl) (by kernel_rfl) (by kernel_rfl) (by kernel_rfl) (by kernel_rfl) (by kernel_rfl) (fun _ _ _ h => h) (Or.inl ⟨by kernel_rfl, fun w hS => by obtain ⟨sc0, sc1, sc2, sc3, sc4, sc5, sc6, sc7, sc8, sc9, sc10, sc11, sc12, sc13⟩ := hS; go_simp⟩) hHeld ?_
  simp only [Act.put, zq1, zq2, zq3, zq4, zq5, zq6]
  refine Ru.wpAnyU_take (i := 10) (v := .int .i64 vy) rfl (by kernel_rfl) (by kernel_rfl) (by kernel_rfl) (by kernel_rfl) (by kernel_rfl) (by kernel_rfl) (fun _ _ _ h => h) (Or.inl ⟨by kernel_rfl, fun w hS => by obtain ⟨sc0, sc1, sc2, sc3, sc4, sc5, sc6, sc7, sc8, sc9, sc10, sc11, sc12, sc13⟩ := hS; go_simp⟩) hHeld ?_
  simp only [Act.put, zq1, zq2, zq3, zq4, zq5, zq6]
  refine Ru.wpAnyU_take (i := 11) (v := .bool qy) rfl (by kernel_rfl) (by kernel_rfl) (by kernel_rfl) (by kernel_rfl) (by kernel_rfl) (by kernel_rfl) (fun _ _ _ h => h) (Or.inl ⟨by kernel_rfl, fun w hS => by obtain ⟨sc0, sc1, sc2, sc3, sc4, sc5, sc6, sc7, sc8, sc9, sc10, sc11, sc12, sc13⟩ := hS; go_simp⟩) hHeld ?_
  simp only [Act.put, zq1, zq2, zq3, zq4, zq5, zq6]
  refine Ru.wpAnyU_done (by kernel_rfl) ?_
  have x1 : CRow (w7.alloc (.cells #[.int .i64 va, .int .i64 vb] 2)) w7.heap.size 2 (vals 2 (v2 va vb)) := crow_new w7 2 (vals 2 (v2 va vb))
  have x2 : CRow ((w7.alloc (.cells #[.int .i64 va, .int .i64 vb] 2)).alloc (.cells #[.int .i64 vb, .int .i64 vc] 2)) (w7.heap.size + 1) 2 (vals 2 (v2 vb vc)) := crow_new1 w7 (.cells #[.int .i64 va, .int .i64 vb] 2) 2 (vals 2 (v2 vb vc))
  have x3 : CRow (((w7.alloc (.cells #[.int .i64 va, .int .i64 vb] 2)).alloc (.cells #[.int .i64 vb, .int .i64 vc] 2)).alloc (.cells #[.slice (some ⟨w7.heap.size, 0, none⟩) 2 2, .slice (some ⟨w7.heap.size + 1, 0, none⟩) 2 2] 22)) (w7.heap.size + 1 + 1) 22 [.slice (some ⟨w7.heap.size, 0, none⟩) 2 2, .slice (some ⟨w7.heap.size + 1, 0, none⟩) 2 2] := crow_new2 w7 (.cells #[.int .i64 va, .int .i64 vb] 2) (.cells #[.int .i64 vb, .int .i64 vc] 2) 22 _
  have g8 := grid2 x3 ((x1.alloc (.cells #[.int .i64 vb, .int .i64 vc] 2)).alloc (.cells #[.slice (some ⟨w7.heap.size, 0, none⟩) 2 2, .slice (some ⟨w7.heap.size + 1, 0, none⟩) 2 2] 22)) (x2.alloc (.cells #[.slice (some ⟨w7.heap.size, 0, none⟩) 2 2, .slice (some ⟨w7.heap.size + 1, 0, none⟩) 2 2] 22))
  have g8' : Grid (((w7.alloc (.cells #[.int .i64 va, .int .i64 vb] 2)).alloc (.cells #[.int .i64 vb, .int .i64 vc] 2)).alloc (.cells #[.slice (some ⟨w7.heap.size, 0, none⟩) 2 2, .slice (some ⟨w7.heap.size + 1, 0, none⟩) 2 2] 22)) (some ⟨w7.heap.size + 1 + 1, 0, none⟩) 2 2 2 Mx := g8.congr (fun i j hi hj => by rw [eM.out]; exact g2_rows va vb vc i j hi hj)
  have K8 : Below w7.heap.size w7 (((w7.alloc (.cells #[.int .i64 va, .int .i64 vb] 2)).alloc (.cells #[.int .i64 vb, .int .i64 vc] 2)).alloc (.cells #[.slice (some ⟨w7.heap.size, 0, none⟩) 2 2, .slice (some ⟨w7.heap.size + 1, 0, none⟩) 2 2] 22)) := below_al (below_al (below_al (Below.refl _ _) _) _) _
  have HG8 := hide g8'
  clear x1 x2 x3 g8 g8'
  go_wp2_with fail
  refine (HF.out _ _ _ HG8.out).mono ?_
  rintro e w8 ⟨hcase, k8⟩
  have D8 := below_tr (below_tr D7 K8) k8
  clear k8 K8 HG8 HF
  rcases hcase with ⟨hn, _⟩ | ⟨_, hnf, rfl⟩ | ⟨_, hf, lo, cl, do', cd, rfl, gL, sD⟩
  · exact absurd HSm.out hn
  · have HNF := hide hnf
    clear hnf
    go_wp2_with (first
      | (refine St.wpList_storeNew isFac rfl _ _ (by rfl) _ [.slice none 0 0, .slice none 0 0] [.slice none 0 0, .slice none 0 0] (by rfl) (by rfl) rfl rfl (by intro v hv; simp only [List.mem_cons, List.not_mem_nil, or_false] at hv; rcases hv with rfl | rfl <;> rfl) ?_; intro w9 f9 k9; have D9 := below_tr D8 k9; have r9 := HR.out _ D9)
      | (refine St.wpList_store isGap rfl _ _ (by rfl) _ _ [.slice none 0 0, .slice none 0 0, .slice none 0 0] (by rfl) (by rfl) (by with_reducible exact r9) rfl rfl (by intro v hv; simp only [List.mem_cons, List.not_mem_nil, or_false] at hv; rcases hv with rfl | rfl | rfl <;> rfl) ?_)
      | fail)
    exact bodyPost_ret (results_3 isGap Tryz.results9 _ _ (w.heap.size + 1 + 1) _ rfl (CRow.row r9 _) rfl) rfl ⟨Or.inl ⟨HNF.out, rfl⟩, St.below_row (below_tr B0 D9) (by omega) _⟩
  · have HFi := hide hf
    have HGL := hide gL
    have HSD := hide sD
    clear hf gL sD
    go_upto_region 11 with (first
      | (refine St.wpList_storeNew isFac rfl _ _ (by rfl) _ [.slice none 0 0, .slice none 0 0] [.slice lo 2 cl, .slice do' 2 cd] (by rfl) (by rfl) rfl rfl (by intro v hv; simp only [List.mem_cons, List.not_mem_nil, or_false] at hv; rcases hv with rfl | rfl <;> rfl) ?_; intro w9 f9 k9; have D9 := below_tr D8 k9; have r9 := HR.out _ D9)
      | fail)
    have v0 : CRow (w9.alloc (.cells #[.int .i64 vx, .int .i64 vy] 2)) w9.heap.size 2 (vals 2 (v2 vx vy)) := crow_new w9 2 (vals 2 (v2 vx vy))
    have k10 := below_al (Below.refl _ w9) (.cells #[.int .i64 vx, .int .i64 vy] 2)
    obtain ⟨wv, hwv⟩ : ∃ W, W = w9.alloc (.cells #[.int .i64 vx, .int .i64 vy] 2) := ⟨_, rfl⟩
    rw [← hwv] at v0 k10
    have HV := hide hwv
    have f10 := CRow.keep f9 k10
    have D10 := below_tr D9 k10
    have r10 := HR.out _ D10
    have sV := crow_sl v0 (by omega)
    have gE := (HGL.out.keep k9).keep k10
    have sE := (HSD.out.keep k9).keep k10
    have lt1 := CRow.lt r10
    have lt2 := CRow.lt v0
    clear hwv f9 k9 k10 D9 r9 HGL HSD
    have nI : ∀ z, Value.int .i64 z ∉ ([.slice none 0 0, .slice none 0 0, .slice none 0 0] : List Value) := fun z h => by simp at h
    have nL : ∀ q c, Value.slice q 2 c ∉ ([.slice none 0 0, .slice none 0 0, .slice none 0 0] : List Value) := fun q c h => by simp at h
    have kE := but_row wv (w.heap.size + 1 + 1) ([.slice (some ⟨w9.heap.size, 0, none⟩) 2 2, .slice lo 2 cl, .slice do' 2 cd] : List Value).toArray
    have sV' := sl_keep r10 nI sV (by omega) kE
    have gE' := grid_keep r10 nI nL gE (by omega) kE
    have sE' := sl_keep r10 nI sE (by omega) kE
    have rE := CRow.row r10 [.slice (some ⟨w9.heap.size, 0, none⟩) 2 2, .slice lo 2 cl, .slice do' 2 cd]
    have BE := St.below_row (below_tr B0 D10) (g := w.heap.size + 1 + 1) (by omega) ([.slice (some ⟨w9.heap.size, 0, none⟩) 2 2, .slice lo 2 cl, .slice do' 2 cd] : List Value).toArray
    clear nI nL kE sV gE sE lt1 lt2
    cases qa with
    | true =>
      go_wp2_with (first
        | (rw [← HV.out])
        | (refine St.wpList_load isFac (by rfl) _ (by rfl) _ _ (by rfl) (by with_reducible exact f10) rfl ?_)
        | (refine Ud.buildGap _ _ (by with_reducible rfl) _ _ _ _ _ _ _ _ _ (by rfl) (by rfl) (by kernel_rfl) ?_)
        | (refine St.wpList_store isGap rfl _ _ (by rfl) _ _ [.slice (some ⟨w9.heap.size, 0, none⟩) 2 2, .slice lo 2 cl, .slice do' 2 cd] (by rfl) (by rfl) (by with_reducible exact r10) rfl rfl (by intro v hv; simp only [List.mem_cons, List.not_mem_nil, or_false] at hv; rcases hv with rfl | rfl | rfl <;> rfl) ?_)
        | fail)
      exact bodyPost_ret (results_3 isGap Tryz.results9 _ _ (w.heap.size + 1 + 1) _ rfl rE rfl) rfl ⟨Or.inr ⟨HFi.out, _, _, _, _, _, rfl, sV', gE', sE'⟩, BE⟩
    | false =>
      cases qb with
      | true =>
        go_wp2_with (first
          | (rw [← HV.out])
          | (refine St.wpList_load isFac (by rfl) _ (by rfl) _ _ (by rfl) (by with_reducible exact f10) rfl ?_)
          | (refine Ud.buildGap _ _ (by with_reducible rfl) _ _ _ _ _ _ _ _ _ (by rfl) (by rfl) (by kernel_rfl) ?_)
          | (refine St.wpList_store isGap rfl _ _ (by rfl) _ _ [.slice (some ⟨w9.heap.size, 0, none⟩) 2 2, .slice lo 2 cl, .slice do' 2 cd] (by rfl) (by rfl) (by with_reducible exact r10) rfl rfl (by intro v hv; simp only [List.mem_cons, List.not_mem_nil, or_false] at hv; rcases hv with rfl | rfl | rfl <;> rfl) ?_)
          | fail)
        exact bodyPost_ret (results_3 isGap Tryz.results9 _ _ (w.heap.size + 1 + 1) _ rfl rE rfl) rfl ⟨Or.inr ⟨HFi.out, _, _, _, _, _, rfl, sV', gE', sE'⟩, BE⟩
      | false =>
        cases qc with
        | true =>
          go_wp2_with (first
            | (rw [← HV.out])
            | (refine St.wpList_load isFac (by rfl) _ (by rfl) _ _ (by rfl) (by with_reducible exact f10) rfl ?_)
            | (refine Ud.buildGap _ _ (by with_reducible rfl) _ _ _ _ _ _ _ _ _ (by rfl) (by rfl) (by kernel_rfl) ?_)
            | (refine St.wpList_store isGap rfl _ _ (by rfl) _ _ [.slice (some ⟨w9.heap.size, 0, none⟩) 2 2, .slice lo 2 cl, .slice do' 2 cd] (by rfl) (by rfl) (by with_reducible exact r10) rfl rfl (by intro v hv; simp only [List.mem_cons, List.not_mem_nil, or_false] at hv; rcases hv with rfl | rfl | rfl <;> rfl) ?_)
            | fail)
          exact bodyPost_ret (results_3 isGap Tryz.results9 _ _ (w.heap.size + 1 + 1) _ rfl rE rfl) rfl ⟨Or.inr ⟨HFi.out, _, _, _, _, _, rfl, sV', gE', sE'⟩, BE⟩
        | false =>
          cases qx with
          | true =>
            go_wp2_with (first
              | (rw [← HV.out])
              | (refine St.wpList_load isFac (by rfl) _ (by rfl) _ _ (by rfl) (by with_reducible exact f10) rfl ?_)
              | (refine Ud.buildGap _ _ (by with_reducible rfl) _ _ _ _ _ _ _ _ _ (by rfl) (by rfl) (by kernel_rfl) ?_)
              | (refine St.wpList_store isGap rfl _ _ (by rfl) _ _ [.slice (some ⟨w9.heap.size, 0, none⟩) 2 2, .slice lo 2 cl, .slice do' 2 cd] (by rfl) (by rfl) (by with_reducible exact r10) rfl rfl (by intro v hv; simp only [List.mem_cons, List.not_mem_nil, or_false] at hv; rcases hv with rfl | rfl | rfl <;> rfl) ?_)
              | fail)
            exact bodyPost_ret (results_3 isGap Tryz.results9 _ _ (w.heap.size + 1 + 1) _ rfl rE rfl) rfl ⟨Or.inr ⟨HFi.out, _, _, _, _, _, rfl, sV', gE', sE'⟩, BE⟩
          | false =>
            go_wp2_with (first
              | (rw [← HV.out])
              | (refine St.wpList_load isFac (by rfl) _ (by rfl) _ _ (by rfl) (by with_reducible exact f10) rfl ?_)
              | (refine Ud.buildGap _ _ (by with_reducible rfl) _ _ _ _ _ _ _ _ _ (by rfl) (by rfl) (by kernel_rfl) ?_)
              | (refine St.wpList_store isGap rfl _ _ (by rfl) _ _ [.slice (some ⟨w9.heap.size, 0, none⟩) 2 2, .slice lo 2 cl, .slice do' 2 cd] (by rfl) (by rfl) (by with_reducible exact r10) rfl rfl (by intro v hv; simp only [List.mem_cons, List.not_mem_nil, or_false] at hv; rcases hv with rfl | rfl | rfl <;> rfl) ?_)
              | fail)
            exact bodyPost_ret (results_3 isGap Tryz.results9 _ _ (w.heap.size + 1 + 1) _ rfl rE rfl) rfl ⟨Or.inr ⟨HFi.out, _, _, _, _, _, rfl, sV', gE', sE'⟩, BE⟩
end Go.Proofs.YtdgcnaijndocnaaGreatDoor
namespace Go.Proofs.YtdgcnaijndocnaaGreatDoor
open Go.RowKit Vc St Mt Dt Pr Lk
attribute [local go_sem ↓] Go.wp_at_zero Go.wp_at_succ
namespace Lk
def ofF (L : Nat → Nat → Int) (d v : Nat → Int) : Int := Ld.farV (Ld.downV L v 2) d 2
def ofS (L : Nat → Nat → Int) (d v : Nat → Int) : Int := Qn.clamp (ofF L d v + Ld.logS d 2)
def ofN (L : Nat → Nat → Int) (d v : Nat → Int) : Int := Qn.clamp (Qn.rne (ofS L d v * -524288) (2 ^ 20))
def ofO (L : Nat → Nat → Int) (d v : Nat → Int) : Bool := ((Ld.downO L v 2 || Ld.farO (Ld.downV L v 2) d 2) || Qn.great (ofF L d v + Ld.logS d 2)) || Qn.great (Qn.rne (ofS L d v * -524288) (2 ^ 20))
theorem gap_fac16 {w : World} {g : Nat} {u v z : Value} (h : CRow w g 51 [u, v, z]) : w.rangeAt g 1 [v, z] := CRow.mid h fun j x hx => by
  match j, hx with
  | 0, h => exact h
  | 1, h => exact h
  | _ + 2, h => simp at h
theorem log_in (d : Nat → Int) : -9223372036854775808 ≤ Ld.logS d 2 ∧ Ld.logS d 2 ≤ 9223372036854775807 := by
  show -9223372036854775808 ≤ IntKind.i64.wrap _ ∧ IntKind.i64.wrap _ ≤ 9223372036854775807
  rw [IntKind.wrap_i64]; omega
theorem cl_in (n : Int) : -4611686018427387903 ≤ Qn.clamp n ∧ Qn.clamp n ≤ 4611686018427387903 := by unfold Qn.clamp; split <;> (try split) <;> omega
end Lk
set_option maxRecDepth 20000 in
set_option maxHeartbeats 2000000 in
theorem rof16_any (gv lo do' : Option Addr) (gc cl cd : Nat) (v : Nat → Int) (L : Nat → Nat → Int) (d : Nat → Int) (w : World) (hv : Sl w gv 2 gc v) (hL : Grid w lo 2 cl 2 L) (hd : Sl w do' 2 cd d) (bL : ∀ a, B64 (L a)) (bd : ∀ k, k < 2 → 1 ≤ d k ∧ d k ≤ 4611686018427387903) (bv : B64 v) :
  Calls Tryz.prog 11 #[.agg #[.slice gv 2 gc, .slice lo 2 cl, .slice do' 2 cd]] w fun e w' => e = .returned (.tuple #[.int .i64 (ofN L d v), .bool (ofO L d v)]) ∧ Below w.heap.size w w' := by
 have HF : Hid (∀ W, Below w.heap.size w W → Calls Tryz.prog 32 #[.agg #[.slice lo 2 cl, .slice do' 2 cd], .slice gv 2 gc] W fun e w' => e = .returned (.tuple #[.int .i64 (ofF L d v), .bool (Ld.downO L v 2 || Ld.farO (Ld.downV L v 2) d 2)]) ∧ Below W.heap.size W w') := fun W b => dfar_any 2 cl cd gc lo do' gv L d v W (by omega) (by omega) (hL.keep b) (hd.keep b) (hv.keep b) bL bd bv
 have HG : Hid (∀ W, Below w.heap.size w W → Calls Tryz.prog 36 #[.agg #[.slice lo 2 cl, .slice do' 2 cd]] W fun e w' => e = .returned (.int .i64 (Ld.logS d 2)) ∧ Below W.heap.size W w') := fun W b => dlog_any 2 cl cd lo do' d W (by omega) (by omega) (hd.keep b) bd
 have f : -4611686018427387903 ≤ ofF L d v ∧ ofF L d v ≤ 4611686018427387903 := Ld.farV_bd (Ld.downV L v 2) d 2
 have g := log_in d
 have OA := hideK (fun W => of_any (ofF L d v) W (by omega) (by omega))
 have OB := hideK (fun W => of_any (Ld.logS d 2) W (by omega) (by omega))
 have AD := hideK (fun va vb W => add_any va vb (ofF L d v) (Ld.logS d 2) W (digs_short (by omega) (by omega)) (digs_short (by omega) (by omega)))
 have BD := hideK (fun v' W => bound_is v' (ofF L d v + Ld.logS d 2) W (digs_short (by omega) (by omega)))
 have s := cl_in (ofF L d v + Ld.logS d 2)
 have DT := hideK (fun W => ldot_one (ofS L d v) (-524288) 20 W (by unfold ofS; omega) (by unfold ofS; omega) (by omega) (by omega) (by omega))
 have HN : Hid (ofN L d v = Qn.clamp (Qn.rne (ofS L d v * -524288) (2 ^ 20))) := rfl
 have HO : Hid (ofO L d v = (((Ld.downO L v 2 || Ld.farO (Ld.downV L v 2) d 2) || Qn.great (ofF L d v + Ld.logS d 2)) || Qn.great (Qn.rne (ofS L d v * -524288) (2 ^ 20)))) := rfl
 have HSd : Hid (ofS L d v = Qn.clamp (ofF L d v + Ld.logS d 2)) := rfl
 obtain ⟨n, hn⟩ : ∃ n, n = ofN L d v := ⟨_, rfl⟩
 obtain ⟨o, ho⟩ : ∃ n, n = ofO L d v := ⟨_, rfl⟩
 rw [← hn] at HN ⊢
 rw [← ho] at HO ⊢
 rw [← HN.out] at DT
 rw [← HSd.out] at BD
 obtain ⟨F, hF⟩ : ∃ F, F = ofF L d v := ⟨_, rfl⟩
 obtain ⟨G, hG⟩ : ∃ F, F = Ld.logS d 2 := ⟨_, rfl⟩
 obtain ⟨S, hS⟩ : ∃ F, F = ofS L d v := ⟨_, rfl⟩
 obtain ⟨o1, ho1⟩ : ∃ F, F = (Ld.downO L v 2 || Ld.farO (Ld.downV L v 2) d 2) := ⟨_, rfl⟩
 rw [← hF, ← ho1] at HF
 rw [← hG] at HG OB
 rw [← hF] at OA
 rw [← hF, ← hG] at AD BD
 rw [← hS] at BD DT
 rw [← hF, ← hG, ← hS, ← ho1] at HO
 obtain ⟨o2, ho2⟩ : ∃ F', F' = Qn.great (F + G) := ⟨_, rfl⟩
 obtain ⟨o3, ho3⟩ : ∃ F', F' = Qn.great (Qn.rne (S * -524288) (2 ^ 20)) := ⟨_, rfl⟩
 rw [← ho2, ← ho3] at HO
 rw [← ho2] at BD
 rw [← ho3] at DT
 obtain ⟨D, hD⟩ : ∃ F', F' = F + G := ⟨_, rfl⟩
 rw [← hD] at AD BD
 have m0 := crow_new w 51 [.slice gv 2 gc, .slice lo 2 cl, .slice do' 2 cd]
 have B0 := below_al (Below.refl _ w) (.cells [Value.slice gv 2 gc, .slice lo 2 cl, .slice do' 2 cd].toArray 51)
 obtain ⟨W, hW⟩ : ∃ W, W = w.alloc (.cells [Value.slice gv 2 gc, .slice lo 2 cl, .slice do' 2 cd].toArray 51) := ⟨_, rfl⟩
 rw [← hW] at m0 B0
 have HW := hideK hW
 have c0 : W.cell? ⟨w.heap.size, 0, none⟩ = some (.slice gv 2 gc) := CRow.cell m0 (k := 0) rfl rfl
 have HR := hideK (gap_fac16 m0)
 have HM0 := hideK m0
 have zW : w.heap.size < W.heap.size := CRow.lt m0
 clear hW m0 hn ho hF hG hS ho1 ho2 ho3 hD HN HSd f g s hv hL hd bL bd bv
 go_enter Tryz.func11, Tryz.ntmps11
 go_wp2_with (first
  | (rw [← HW.out])
  | ((with_reducible show wpList _ _ _ _ _ _); refine St.wpList_part Ud.isFac (by kernel_rfl) _ (by rfl) _ _ _ (by rfl) (by with_reducible exact HR.out) rfl ?_)
  | fail)
 refine (HF.out _ B0).mono ?_
 rintro e w1 ⟨rfl, k1⟩
 have B1 := below_tr B0 k1
 have m1 := HM0.out.keep k1
 have HM1 := hideK m1
 have HS' : Hid (∀ V, Below w1.heap.size w1 V → CRow V w.heap.size 51 [.slice gv 2 gc, .slice lo 2 cl, .slice do' 2 cd]) := fun V q => HM1.out.keep q
 clear m1
 go_upto_region 2 with fail
 have D1 := Vc.below_drew' w1
 refine Ru.wp_region_U [] (fun w' => CRow w' w.heap.size 51 [.slice gv 2 gc, .slice lo 2 cl, .slice do' 2 cd]) (by kernel_rfl) (HS'.out _ D1) (fun hHeld => ?_)
 refine Ru.wpAnyU_take (i := 0) (v := .int .i64 F) rfl (by kernel_rfl) (by kernel_rfl) (by kernel_rfl) (by kernel_rfl) (by kernel_rfl) (by kernel_rfl) (fun _ _ _ h => h) (Or.inl ⟨by kernel_rfl, fun w hS => by obtain sc0 := hS; go_simp⟩) hHeld ?_
 simp only [Act.put, zq1, zq2, zq3, zq4, zq5, zq6]
 refine Ru.wpAnyU_take (i := 2) (v := .pointer (some ⟨w.heap.size, 1, none⟩)) rfl (by kernel_rfl) (by kernel_rfl) (by kernel_rfl) (by kernel_rfl) (by kernel_rfl) (by kernel_rfl) (fun _ _ _ h => h) (Or.inl ⟨by kernel_rfl, fun w hS => by obtain sc0 := hS; go_simp⟩) hHeld ?_
 simp only [Act.put, zq1, zq2, zq3, zq4, zq5, zq6]
 refine Ru.wpAnyU_take (i := 3) (v := .agg #[.slice lo 2 cl, .slice do' 2 cd]) rfl (by kernel_rfl) (by kernel_rfl) (by kernel_rfl) (by kernel_rfl) (by kernel_rfl) (by kernel_rfl) (fun _ _ _ h => h) (Ud.yieldsPart Ud.isFac (by kernel_rfl) _ (by rfl) w.heap.size 1 [.slice lo 2 cl, .slice do' 2 cd] (by rfl) (fun w h => gap_fac16 h) rfl) hHeld ?_
 simp only [Act.put, zq1, zq2, zq3, zq4, zq5, zq6]
 refine Ru.wpAnyU_ready (rs := [1]) (by kernel_rfl) (by simp) ?_
 refine Ru.AllReadyU.cons rfl (by kernel_rfl) (fun K hK => ?_) Ru.AllReadyU.nil
 go_simp
 refine (OA.out _).mono ?_
 rintro _ w2 ⟨v2, rfl, i2, k2⟩
 have D2 := below_tr D1 k2
 go_wp2_with fail
 refine hK.out _ _ (HS'.out _ D2) (fun hHeld => ?_)
 clear hK K
 try simp only [Act.put, zq1, zq2, zq3, zq4, zq5, zq6]
 refine Ru.wpAnyU_ready (rs := [4]) (by kernel_rfl) (by simp) ?_
 refine Ru.AllReadyU.cons rfl (by kernel_rfl) (fun K hK => ?_) Ru.AllReadyU.nil
 go_simp
 refine (HG.out _ (below_tr B1 D2)).mono ?_
 rintro _ w3 ⟨rfl, k3⟩
 have i2' := i2.below k3
 have D3 := below_tr D2 k3
 go_wp2_with fail
 refine hK.out _ _ (HS'.out _ D3) (fun hHeld => ?_)
 clear hK K
 try simp only [Act.put, zq1, zq2, zq3, zq4, zq5, zq6]
 refine Ru.wpAnyU_ready (rs := [5]) (by kernel_rfl) (by simp) ?_
 refine Ru.AllReadyU.cons rfl (by kernel_rfl) (fun K hK => ?_) Ru.AllReadyU.nil
 go_simp
 refine (OB.out _).mono ?_
 rintro _ w4 ⟨v4, rfl, i4, k4⟩
 have i2'' := i2'.below k4
 have D4 := below_tr D3 k4
 go_wp2_with fail
 refine hK.out _ _ (HS'.out _ D4) (fun hHeld => ?_)
 clear hK K
 try simp only [Act.put, zq1, zq2, zq3, zq4, zq5, zq6]
 refine Ru.wpAnyU_ready (rs := [6]) (by kernel_rfl) (by simp) ?_
 refine Ru.AllReadyU.cons rfl (by kernel_rfl) (fun K hK => ?_) Ru.AllReadyU.nil
 go_simp
 refine (AD.out _ _ _ i2'' i4).mono ?_
 rintro _ w5 ⟨v5, rfl, i5, k5⟩
 have D5 := below_tr D4 k5
 go_wp2_with fail
 refine hK.out _ _ (HS'.out _ D5) (fun hHeld => ?_)
 clear hK K
 try simp only [Act.put, zq1, zq2, zq3, zq4, zq5, zq6]
 refine Ru.wpAnyU_ready (rs := [7]) (by kernel_rfl) (by simp) ?_
 refine Ru.AllReadyU.cons rfl (by kernel_rfl) (fun K hK => ?_) Ru.AllReadyU.nil
 go_simp
 refine (BD.out _ _ i5).mono ?_
 rintro _ w7 ⟨rfl, k7⟩
 have D7 := below_tr D5 k7
 go_wp2_with fail
 refine hK.out _ _ (HS'.out _ D7) (fun hHeld => ?_)
 clear hK K
 try simp only [Act.put, zq1, zq2, zq3, zq4, zq5, zq6]
 refine Ru.wpAnyU_take (i := 8) (v := .tuple #[.int .i64 S, .bool o2]) rfl (by kernel_rfl) (by kernel_rfl) (by kernel_rfl) (by kernel_rfl) (by kernel_rfl) (by kernel_rfl) (fun _ _ _ h => h) (Or.inl ⟨by kernel_rfl, fun w hS => by obtain sc0 := hS; go_simp⟩) hHeld ?_
 simp only [Act.put, zq1, zq2, zq3, zq4, zq5, zq6]
 refine Ru.wpAnyU_take (i := 9) (v := .int .i64 S) rfl (by kernel_rfl) (by kernel_rfl) (by kernel_rfl) (by kernel_rfl) (by kernel_rfl) (by kernel_rfl) (fun _ _ _ h => h) (Or.inl ⟨by kernel_rfl, fun w hS => by obtain sc0 := hS; go_simp⟩) hHeld ?_
 simp only [Act.put, zq1, zq2, zq3, zq4, zq5, zq6]
 refine Ru.wpAnyU_take (i := 10) (v := .bool o2) rfl (by kernel_rfl) (by kernel_rfl) (by kernel_rfl) (by kernel_rfl) (by kernel_rfl) (by kernel_rfl) (fun _ _ _ h => h) (Or.inl ⟨by kernel_rfl, fun w hS => by obtain sc0 := hS; go_simp⟩) hHeld ?_
 simp only [Act.put, zq1, zq2, zq3, zq4, zq5, zq6]
 refine Ru.wpAnyU_take (i := 11) (v := .int .i64 S) rfl (by kernel_rfl) (by kernel_rfl) (by kernel_rfl) (by kernel_rfl) (by kernel_rfl) (by kernel_rfl) (fun _ _ _ h => h) (Or.inl ⟨by kernel_rfl, fun w hS => by obtain sc0 := hS; go_simp⟩) hHeld ?_
 simp only [Act.put, zq1, zq2, zq3, zq4, zq5, zq6]
 refine Ru.wpAnyU_take (i := 12) (v := .bool o2) rfl (by kernel_rfl) (by kernel_rfl) (by kernel_rfl) (by kernel_rfl) (by kernel_rfl) (by kernel_rfl) (fun _ _ _ h => h) (Or.inl ⟨by kernel_rfl, fun w hS => by obtain sc0 := hS; go_simp⟩) hHeld ?_
 simp only [Act.put, zq1, zq2, zq3, zq4, zq5, zq6]
 refine Ru.wpAnyU_done (by kernel_rfl) ?_
 have B7 := below_tr B1 D7
 go_wp2_with fail
 refine (DT.out _).mono ?_
 rintro e w8 ⟨rfl, k8⟩
 have B8 := below_tr B7 k8
 cases o1 <;> cases o2
 all_goals go_wp2
 all_goals go_ret2
 all_goals exact ⟨by rw [HO.out]; first | rfl | simp, B8⟩
end Go.Proofs.YtdgcnaijndocnaaGreatDoor
namespace Go.Proofs.YtdgcnaijndocnaaGreatDoor
open Go.RowKit Vc St Mt Dt Pr Ud
attribute [local go_sem ↓] Go.wp_at_zero Go.wp_at_succ
namespace Ud
end Ud
end Go.Proofs.YtdgcnaijndocnaaGreatDoor
namespace Go.Proofs.YtdgcnaijndocnaaGreatDoor
open Go.RowKit Vc St Mt Dt Pr Ud
attribute [local go_sem ↓] Go.wp_at_zero Go.wp_at_succ
end Go.Proofs.YtdgcnaijndocnaaGreatDoor
