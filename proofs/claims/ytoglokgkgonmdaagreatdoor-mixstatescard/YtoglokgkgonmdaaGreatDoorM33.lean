/-
  The document's answer of layer 14 (radomeref14): Mix.
-/
import Derived.Test.YtoglokgkgonmdaaGreatDoorM32
import Derived.Test.YtoglokgkgonmdaaGreatDoorM8
import Derived.Test.YtoglokgkgonmdaaGreatDoorRegU
import Derived.Deep.AppendLies
import Derived.Deep.RegionHeld3
import Derived.Test.YtoglokgkgonmdaaGreatDoorM7
set_option linter.unusedSimpArgs false
set_option linter.unusedVariables false
namespace Go.Proofs.YtoglokgkgonmdaaGreatDoor
open Go.RowKit Dec Nv Vc St Ld Nu Cn
attribute [local go_sem ↓] Go.wp_at_zero Go.wp_at_succ
namespace Nu
theorem stepN {ops : Array Oper} {o : Oper} {a : Act} {w : World} {K : Act → World → Prop} {Q : Exit → Act → World → Prop} {E : Prop} (hw : Region.wanted o (yielded ops a.tmps) = true) (x y : Operand) (ho : o.op = .store 94 x y)
    (g j : Nat) (s : Bool) (p : Option Addr) (l c : Nat) (hx : a.eval x = .pointer (some ⟨g, j, none⟩)) (hy : a.eval y = .agg #[.bool s, .slice p l c]) (ht : w.there g j 2)
    (h : K (a.put o.dst undef) (w.setCells g j [.bool s, .slice p l c])) : if Region.wanted o (yielded ops a.tmps) = true then Oper.wp Tryz.prog o a w K Q else E := by
  rw [if_pos hw]
  exact wp_store_mid _ x y ho g j #[.bool s, .slice p l c] hx hy ht (by rw [isNum.size]; rfl) (by simp [Value.oneCell']) h
end Nu
def MixR (w w' : World) (n : Nat) (z : Nat → Int) (m : Nat) (L : Nat → Nat) (R : Nat → Nat → Int) (v : Value) (er : Int) : Prop :=
  (¬ MayX n z m L R ∧ v = .slice none 0 0 ∧ er = 1 ∧ Below w.heap.size w w') ∨ (MayX n z m L R ∧ er = 0 ∧ Own w.heap.size w w' v n (sh 1073741824 (mxw n z R) n))
set_option maxRecDepth 20000 in
set_option maxHeartbeats 4000000 in
theorem dmix14_any (ao lo : Option Addr) (n ca m cm : Nat) (z : Nat → Int) (A : Nat → Option Addr) (L C : Nat → Nat) (R : Nat → Nat → Int) (w : World) (hs : Sl w ao n ca z) (hz : B64 z) (hl : Sls w lo m cm A L C)
  (hr : ∀ i, i < m → Sl w (A i) (L i) (C i) (R i)) (hR : ∀ i, B64 (R i)) :
  Calls Tryz.prog 23 #[.slice ao n ca, .slice lo m cm] w fun e w' => ∃ v er, e = .returned (.tuple #[v, .int .i64 er]) ∧ MixR w w' n z m L R v er := by
 have HS := hide hs
 have l1 := hs.le
 have l2 := hs.cap
 have l3 := hl.le
 have l4 := hl.cap
 have HCk : Hid (∀ W, Below w.heap.size w W → ∀ b : Bool, (b = true ↔ Ch n z 0) → Calls Tryz.prog 9 #[.slice ao n ca, .int .i64 0] W fun e w' => e = .returned (.bool b) ∧ Below W.heap.size W w') := fun W k b hb => dcheck14_any ao n ca z 0 W (hs.keep k) hz b hb (by omega) (by omega)
 have HCr : Hid (∀ W, Below w.heap.size w W → ∀ i, i < m → ∀ b : Bool, (b = true ↔ Ch (L i) (R i) 0) → Calls Tryz.prog 9 #[.slice (A i) (L i) (C i), .int .i64 0] W fun e w' => e = .returned (.bool b) ∧ Below W.heap.size W w') := fun W k i hi b hb => dcheck14_any (A i) (L i) (C i) (R i) 0 W ((hr i hi).keep k) (hR i) b hb (by omega) (by omega)
 obtain ⟨xl, hlo, hlc⟩ := hl.get
 have HLC := hide hlc
 have HLO := hide hlo
 have HR := hide hr
 have HRB := hide hR
 have HZ := hide hz
 clear hs hz hl hr hR hlc hlo
 by_cases hc : Ch n z 0
 ·have hn1 := hc.one
  have hn4 := hc.four
  have HCH := hide hc
  have D0 := hide (HCk.out w (Below.refl _ _) true ⟨fun _ => hc, fun _ => rfl⟩)
  clear HCk hc
  by_cases hm : m = n
  ·subst hm
   obtain rfl := HLO.out (by omega)
   obtain ⟨i0, hi0, hz0, hz1, hz2⟩ := info2
   go_enter Tryz.func23, Tryz.ntmps23
   go_wp2_with fail
   refine (D0.out).mono ?_
   rintro e w1 ⟨rfl, k1⟩
   go_wp2_with (first
    | (refine wpList_make_full _ rfl _ _ _ (by rfl) w.heap.size 94 i0 (.agg #[.bool false, .slice none 0 0]) 2 Tryz.underlying91 hi0 hz0 hz1 .i64 .i64 _ _ m (by rfl) (by rfl) (by rfl) (by rfl) (by rw [hz2]; omega) (by unfold maxLen; omega) k1.size ?_; intro w2 o2 g2)
    | fail)
   have N2 := nls_made o2 (k1.grown g2 k1.size (fun k hk => by cases hk)) (Nat.le_trans k1.size g2.size)
   have HN2 := hide N2
   obtain ⟨gw, hgw⟩ : ∃ q, q = w1.heap.size := ⟨_, rfl⟩
   rw [← hgw] at HN2 ⊢
   clear N2 o2 g2 hgw k1 hi0 hz0 hz1 hz2
   go_loopw [7] (fun i wr => ∃ k : Nat, k ≤ m ∧ i = .int .i64 (k : Int) ∧ (∀ q, q < k → L q = m ∧ Ch m (R q) 0) ∧ Nls w.heap.size w wr (.slice (some ⟨gw, 0, none⟩) m m) m (fun j => tot (fun q => z q * R q j) k)) (fun i _ => m - (intOf i).toNat)
   case atStart => exact ⟨0, by omega, rfl, fun q hq => by omega, HN2.out⟩
   case round =>
    rename World => wr
    obtain ⟨k, hk, rfl, hrw, hN⟩ := hrel
    by_cases h : k < m
    ·have ck := keep_cell hN.below (HLC.out k h)
     have HK := hide (HCr.out wr hN.below k h)
     have kn : (k : Int) < m := by omega
     have rl1 := (HR.out k h).le
     have rl2 := (HR.out k h).cap
     have HRW := hide hrw
     have HN := hide hN
     clear hrw hN
     by_cases e1 : L k = m
     ·by_cases e2 : Ch (L k) (R k) 0
      ·have HKy := hide (HK.out true ⟨fun _ => e2, fun _ => rfl⟩)
       have HE2 : Hid (Ch m (R k) 0) := by show Ch m (R k) 0; rw [← e1]; exact e2
       have HRK : Hid (Sl w (A k) m (C k) (R k)) := by show Sl w (A k) m (C k) (R k); rw [← e1]; exact HR.out k h
       rw [e1] at ck HKy rl1
       have HE1 := hide e1
       have ck0 : w.cell? (xl.add k) = some (.slice (A k) m (C k)) := by have q := HLC.out k h; rw [e1] at q; exact q
       clear HK e2 e1
       obtain ⟨Ak, hAk⟩ : ∃ q, q = A k := ⟨_, rfl⟩
       obtain ⟨Ck, hCk⟩ : ∃ q, q = C k := ⟨_, rfl⟩
       rw [← hAk, ← hCk] at ck HKy HRK ck0
       rw [← hCk] at rl1 rl2
       have ck3 := hide (fun V (b : Below w.heap.size w V) => keep_cell b ck0)
       clear hAk hCk ck0
       go_wp2_with fail
       refine (HKy.out).mono ?_
       rintro e w3 ⟨rfl, k3⟩
       have N3 := HN.out.keep k3
       have HN3 : Hid (Nls w.heap.size w w3 (.slice (some ⟨gw, 0, none⟩) m m) m (fun j => if j < 0 then tot (fun q => z q * R q j) (k + 1) else tot (fun q => z q * R q j) k)) := N3.congr (fun j hj => by rw [if_neg (by omega)])
       clear N3 ck HKy k3
       go_wp2
       go_loopw [8] (fun jv wq => ∃ j : Nat, j ≤ m ∧ jv = .int .i64 (j : Int) ∧ Nls w.heap.size w wq (.slice (some ⟨gw, 0, none⟩) m m) m (fun q => if q < j then tot (fun i => z i * R i q) (k + 1) else tot (fun i => z i * R i q) k)) (fun jv _ => m - (intOf jv).toNat)
       case atStart => exact ⟨0, by omega, rfl, HN3.out⟩
       case round =>
        rename World => wq
        obtain ⟨j, hj, rfl, hQ⟩ := hrel
        by_cases hjm : j < m
        ·obtain ⟨_, _, ee, hat, _⟩ := hQ.at (by omega)
         cases ee
         obtain ⟨p, l, c, c0, c1, ei⟩ := hat.num j hjm
         simp only [if_neg (Nat.lt_irrefl j)] at c0 ei
         have B0 := hQ.below
         obtain ⟨xa, hxa, dz⟩ := HS.out.get
         obtain rfl := hxa (by omega)
         have dz := keep_cell B0 (dz k h)
         obtain ⟨xr, hxr, dr⟩ := HRK.out.get
         obtain rfl := hxr (by omega)
         have dr := keep_cell B0 (dr j hjm)
         have dl := ck3.out _ B0
         have hzk := HCH.out.nn h
         have hrk := HE2.out.nn hjm
         have htk := tot_le (a := fun i => z i * R i j) (M := 1152921504606846976) (n := k) (fun q hq => by
          have a1 := HCH.out.nn (k := q) (by omega)
          have a2 := (HRW.out q hq).2.nn hjm
          exact ⟨Int.mul_nonneg a1.1 a2.1, Int.mul_le_mul a1.2 a2.2 a2.1 (by omega)⟩)
         have hp0 : 0 ≤ z k * R k j := Int.mul_nonneg hzk.1 hrk.1
         have hp1 : z k * R k j ≤ 1152921504606846976 := Int.mul_le_mul hzk.2 hrk.2 hrk.1 (by omega)
         have HU : Hid (tot (fun i => z i * R i j) (k + 1) = tot (fun i => z i * R i j) k + z k * R k j) := rfl
         obtain ⟨tk, htk2⟩ : ∃ q, q = tot (fun i => z i * R i j) k := ⟨_, rfl⟩
         obtain ⟨zk, hzk2⟩ : ∃ q, q = z k := ⟨_, rfl⟩
         obtain ⟨rk, hrk2⟩ : ∃ q, q = R k j := ⟨_, rfl⟩
         rw [← htk2] at c0 ei htk HU
         rw [← hzk2] at dz hzk hp0 hp1 HU
         rw [← hrk2] at dr hrk hp0 hp1 HU
         obtain ⟨s1, hs1⟩ : ∃ q, q = decide (tk < 0) := ⟨_, rfl⟩
         rw [← hs1] at c0 ei
         have HO1 := hide (fun W => of_any zk W (by omega) (by omega))
         have HO2 := hide (fun W => of_any rk W (by omega) (by omega))
         have HMu := hide (fun W va vb (h1 : IsNum W va zk) (h2 : IsNum W vb rk) => mul_any va vb zk rk W (len100 (by omega)) (len100 (by omega)) h1 h2)
         have HAd := hide (fun W vb (h1 : IsNum W (.agg #[.bool s1, .slice p l c]) tk) (h2 : IsNum W vb (zk * rk)) => add_any _ vb tk (zk * rk) W (len100 (by omega)) (len100 (by omega)) h1 h2)
         have HSS : Hid (∀ V, Below wq.heap.size wq V → (V.cell? ⟨gw, j * 2, none⟩ = some (.bool s1) ∧ V.cell? ⟨gw, j * 2 + 1, none⟩ = some (.slice p l c) ∧ V.cell? (xa.add k) = some (.int .i64 zk) ∧ V.cell? (xl.add k) = some (.slice (some xr) m Ck) ∧ V.cell? (xr.add j) = some (.int .i64 rk))) := fun V b => ⟨keep_cell b c0, keep_cell b c1, keep_cell b dz, keep_cell b dl, keep_cell b dr⟩
         have hk1 : (j : Int) < m := by omega
         have HQ := hide hQ
         have EI := hide ei
         clear hs1 htk2 hzk2 hrk2 c0 c1 dz dl dr hQ hat ei B0 hp0 hp1
         go_upto_region 12 with fail
         have D0 := Vc.below_drew' wq
         refine Ru.wp_region_U [22] (fun w' => w'.cell? ⟨gw, j * 2, none⟩ = some (.bool s1) ∧ w'.cell? ⟨gw, j * 2 + 1, none⟩ = some (.slice p l c) ∧ w'.cell? (xa.add k) = some (.int .i64 zk) ∧ w'.cell? (xl.add k) = some (.slice (some xr) m Ck) ∧ w'.cell? (xr.add j) = some (.int .i64 rk)) (by kernel_rfl) (HSS.out _ D0) (fun hHeld => ?_)
         refine Ru.wpAnyU_take (i := 0) (v := .slice (some ⟨gw, 0, none⟩) m m) rfl (by kernel_rfl) (by kernel_rfl) (by kernel_rfl) (by kernel_rfl) (by kernel_rfl) (by kernel_rfl) (fun _ _ _ h => h) (Or.inl ⟨by kernel_rfl, fun w hS => by obtain ⟨sc0, sc1, sc2, sc3, sc4⟩ := hS; go_simp⟩) hHeld ?_
         simp only [Act.put, zq1, zq2, zq3, zq4, zq5, zq6]
         refine Ru.wpAnyU_take (i := 1) (v := .int .i64 (j : Int)) rfl (by kernel_rfl) (by kernel_rfl) (by kernel_rfl) (by kernel_rfl) (by kernel_rfl) (by kernel_rfl) (fun _ _ _ h => h) (Or.inl ⟨by kernel_rfl, fun w hS => by obtain ⟨sc0, sc1, sc2, sc3, sc4⟩ := hS; go_simp⟩) hHeld ?_
         simp only [Act.put, zq1, zq2, zq3, zq4, zq5, zq6]
         refine Ru.wpAnyU_take (i := 2) (v := .slice (some ⟨gw, 0, none⟩) m m) rfl (by kernel_rfl) (by kernel_rfl) (by kernel_rfl) (by kernel_rfl) (by kernel_rfl) (by kernel_rfl) (fun _ _ _ h => h) (Or.inl ⟨by kernel_rfl, fun w hS => by obtain ⟨sc0, sc1, sc2, sc3, sc4⟩ := hS; go_simp⟩) hHeld ?_
         simp only [Act.put, zq1, zq2, zq3, zq4, zq5, zq6]
         refine Ru.wpAnyU_take (i := 3) (v := .int .i64 (j : Int)) rfl (by kernel_rfl) (by kernel_rfl) (by kernel_rfl) (by kernel_rfl) (by kernel_rfl) (by kernel_rfl) (fun _ _ _ h => h) (Or.inl ⟨by kernel_rfl, fun w hS => by obtain ⟨sc0, sc1, sc2, sc3, sc4⟩ := hS; go_simp⟩) hHeld ?_
         simp only [Act.put, zq1, zq2, zq3, zq4, zq5, zq6]
         refine Ru.wpAnyU_take (i := 4) (v := .pointer (some ⟨gw, j * 2, none⟩)) rfl (by kernel_rfl) (by kernel_rfl) (by kernel_rfl) (by kernel_rfl) (by kernel_rfl) (by kernel_rfl) (fun _ _ _ h => h) (Or.inl ⟨by kernel_rfl, fun w hS => by obtain ⟨sc0, sc1, sc2, sc3, sc4⟩ := hS; go_simp⟩) hHeld ?_
         simp only [Act.put, zq1, zq2, zq3, zq4, zq5, zq6]
         refine Ru.wpAnyU_take (i := 5) (v := .agg #[.bool s1, .slice p l c]) rfl (by kernel_rfl) (by kernel_rfl) (by kernel_rfl) (by kernel_rfl) (by kernel_rfl) (by kernel_rfl) (fun _ _ _ h => h) (Nu.yieldsN (by kernel_rfl) _ (by rfl) gw (j * 2) _ _ (by rfl) (fun w h => ⟨h.1, h.2.1⟩)) hHeld ?_
         simp only [Act.put, zq1, zq2, zq3, zq4, zq5, zq6]
         refine Ru.wpAnyU_take (i := 6) (v := .slice (some xa) m ca) rfl (by kernel_rfl) (by kernel_rfl) (by kernel_rfl) (by kernel_rfl) (by kernel_rfl) (by kernel_rfl) (fun _ _ _ h => h) (Or.inl ⟨by kernel_rfl, fun w hS => by obtain ⟨sc0, sc1, sc2, sc3, sc4⟩ := hS; go_simp⟩) hHeld ?_
         simp only [Act.put, zq1, zq2, zq3, zq4, zq5, zq6]
         refine Ru.wpAnyU_take (i := 7) (v := .int .i64 (k : Int)) rfl (by kernel_rfl) (by kernel_rfl) (by kernel_rfl) (by kernel_rfl) (by kernel_rfl) (by kernel_rfl) (fun _ _ _ h => h) (Or.inl ⟨by kernel_rfl, fun w hS => by obtain ⟨sc0, sc1, sc2, sc3, sc4⟩ := hS; go_simp⟩) hHeld ?_
         simp only [Act.put, zq1, zq2, zq3, zq4, zq5, zq6]
         refine Ru.wpAnyU_take (i := 8) (v := .pointer (some (xa.add k))) rfl (by kernel_rfl) (by kernel_rfl) (by kernel_rfl) (by kernel_rfl) (by kernel_rfl) (by kernel_rfl) (fun _ _ _ h => h) (Or.inl ⟨by kernel_rfl, fun w hS => by obtain ⟨sc0, sc1, sc2, sc3, sc4⟩ := hS; go_simp⟩) hHeld ?_
         simp only [Act.put, zq1, zq2, zq3, zq4, zq5, zq6]
         refine Ru.wpAnyU_take (i := 9) (v := .int .i64 zk) rfl (by kernel_rfl) (by kernel_rfl) (by kernel_rfl) (by kernel_rfl) (by kernel_rfl) (by kernel_rfl) (fun _ _ _ h => h) (Or.inl ⟨by kernel_rfl, fun w hS => by obtain ⟨sc0, sc1, sc2, sc3, sc4⟩ := hS; go_simp⟩) hHeld ?_
         simp only [Act.put, zq1, zq2, zq3, zq4, zq5, zq6]
         refine Ru.wpAnyU_take (i := 11) (v := .slice (some xl) m cm) rfl (by kernel_rfl) (by kernel_rfl) (by kernel_rfl) (by kernel_rfl) (by kernel_rfl) (by kernel_rfl) (fun _ _ _ h => h) (Or.inl ⟨by kernel_rfl, fun w hS => by obtain ⟨sc0, sc1, sc2, sc3, sc4⟩ := hS; go_simp⟩) hHeld ?_
         simp only [Act.put, zq1, zq2, zq3, zq4, zq5, zq6]
         refine Ru.wpAnyU_take (i := 12) (v := .int .i64 (k : Int)) rfl (by kernel_rfl) (by kernel_rfl) (by kernel_rfl) (by kernel_rfl) (by kernel_rfl) (by kernel_rfl) (fun _ _ _ h => h) (Or.inl ⟨by kernel_rfl, fun w hS => by obtain ⟨sc0, sc1, sc2, sc3, sc4⟩ := hS; go_simp⟩) hHeld ?_
         simp only [Act.put, zq1, zq2, zq3, zq4, zq5, zq6]
         refine Ru.wpAnyU_take (i := 13) (v := .pointer (some (xl.add k))) rfl (by kernel_rfl) (by kernel_rfl) (by kernel_rfl) (by kernel_rfl) (by kernel_rfl) (by kernel_rfl) (fun _ _ _ h => h) (Or.inl ⟨by kernel_rfl, fun w hS => by obtain ⟨sc0, sc1, sc2, sc3, sc4⟩ := hS; go_simp⟩) hHeld ?_
         simp only [Act.put, zq1, zq2, zq3, zq4, zq5, zq6]
         refine Ru.wpAnyU_take (i := 14) (v := .slice (some xr) m Ck) rfl (by kernel_rfl) (by kernel_rfl) (by kernel_rfl) (by kernel_rfl) (by kernel_rfl) (by kernel_rfl) (fun _ _ _ h => h) (Or.inl ⟨by kernel_rfl, fun w hS => by obtain ⟨sc0, sc1, sc2, sc3, sc4⟩ := hS; go_simp⟩) hHeld ?_
         simp only [Act.put, zq1, zq2, zq3, zq4, zq5, zq6]
         refine Ru.wpAnyU_take (i := 15) (v := .int .i64 (j : Int)) rfl (by kernel_rfl) (by kernel_rfl) (by kernel_rfl) (by kernel_rfl) (by kernel_rfl) (by kernel_rfl) (fun _ _ _ h => h) (Or.inl ⟨by kernel_rfl, fun w hS => by obtain ⟨sc0, sc1, sc2, sc3, sc4⟩ := hS; go_simp⟩) hHeld ?_
         simp only [Act.put, zq1, zq2, zq3, zq4, zq5, zq6]
         refine Ru.wpAnyU_take (i := 16) (v := .pointer (some (xr.add j))) rfl (by kernel_rfl) (by kernel_rfl) (by kernel_rfl) (by kernel_rfl) (by kernel_rfl) (by kernel_rfl) (fun _ _ _ h => h) (Or.inl ⟨by kernel_rfl, fun w hS => by obtain ⟨sc0, sc1, sc2, sc3, sc4⟩ := hS; go_simp⟩) hHeld ?_
         simp only [Act.put, zq1, zq2, zq3, zq4, zq5, zq6]
         refine Ru.wpAnyU_take (i := 17) (v := .int .i64 rk) rfl (by kernel_rfl) (by kernel_rfl) (by kernel_rfl) (by kernel_rfl) (by kernel_rfl) (by kernel_rfl) (fun _ _ _ h => h) (Or.inl ⟨by kernel_rfl, fun w hS => by obtain ⟨sc0, sc1, sc2, sc3, sc4⟩ := hS; go_simp⟩) hHeld ?_
         simp only [Act.put, zq1, zq2, zq3, zq4, zq5, zq6]
         refine Ru.wpAnyU_ready (rs := [10]) (by kernel_rfl) (by simp) ?_
         refine Ru.AllReadyU.cons rfl (by kernel_rfl) (fun K hK => ?_) Ru.AllReadyU.nil
         go_simp
         refine (HO1.out _).mono ?_
         rintro e x1 ⟨va, rfl, ia, kx1⟩
         have D1 := below_tr D0 kx1
         go_wp2_with fail
         refine hK.out _ _ (HSS.out _ D1) (fun hHeld => ?_)
         clear hK K
         try simp only [Act.put, zq1, zq2, zq3, zq4, zq5, zq6]
         refine Ru.wpAnyU_ready (rs := [18]) (by kernel_rfl) (by simp) ?_
         refine Ru.AllReadyU.cons rfl (by kernel_rfl) (fun K hK => ?_) Ru.AllReadyU.nil
         go_simp
         refine (HO2.out _).mono ?_
         rintro e x2 ⟨vb, rfl, ib, kx2⟩
         have D2 := below_tr D1 kx2
         have ia2 := ia.below kx2
         go_wp2_with fail
         refine hK.out _ _ (HSS.out _ D2) (fun hHeld => ?_)
         clear hK K
         try simp only [Act.put, zq1, zq2, zq3, zq4, zq5, zq6]
         refine Ru.wpAnyU_ready (rs := [19]) (by kernel_rfl) (by simp) ?_
         refine Ru.AllReadyU.cons rfl (by kernel_rfl) (fun K hK => ?_) Ru.AllReadyU.nil
         go_simp
         refine (HMu.out _ _ _ ia2 ib).mono ?_
         rintro e x3 ⟨vc, rfl, ic, kx3⟩
         have D3 := below_tr D2 kx3
         go_wp2_with fail
         refine hK.out _ _ (HSS.out _ D3) (fun hHeld => ?_)
         clear hK K
         try simp only [Act.put, zq1, zq2, zq3, zq4, zq5, zq6]
         refine Ru.wpAnyU_ready (rs := [20]) (by kernel_rfl) (by simp) ?_
         refine Ru.AllReadyU.cons rfl (by kernel_rfl) (fun K hK => ?_) Ru.AllReadyU.nil
         go_simp
         refine (HAd.out _ _ (EI.out.below D3) ic).mono ?_
         rintro e x4 ⟨vd, rfl, id', kx4⟩
         have D4 := below_tr D3 kx4
         go_wp2_with fail
         refine hK.out _ _ (HSS.out _ D4) (fun hHeld => ?_)
         clear hK K
         try simp only [Act.put, zq1, zq2, zq3, zq4, zq5, zq6]
         refine Ru.wpAnyU_take (i := 21) (v := .pointer (some ⟨gw, j * 2, none⟩)) rfl (by kernel_rfl) (by kernel_rfl) (by kernel_rfl) (by kernel_rfl) (by kernel_rfl) (by kernel_rfl) (fun _ _ _ h => h) (Or.inl ⟨by kernel_rfl, fun w hS => by obtain ⟨sc0, sc1, sc2, sc3, sc4⟩ := hS; go_simp⟩) hHeld ?_
         simp only [Act.put, zq1, zq2, zq3, zq4, zq5, zq6]
         obtain ⟨q1, q2, q3, rfl⟩ := id'.form
         have N4 := HQ.out.keep D4
         refine Ru.wpAnyU_ready (rs := [22]) (by kernel_rfl) (by simp) ?_
         refine Ru.AllReadyU.cons2 rfl (by kernel_rfl) (fun K hK => ?_) Ru.AllReadyU.nil
         refine Nu.stepN (by kernel_rfl) _ _ (by rfl) gw (j * 2) _ _ _ _ (by rfl) (by rfl) (N4.there hjm) ?_
         have N5 := (N4.set hjm id').1
         have HN5 := hide (N5.congr (b := fun q => if q < j + 1 then tot (fun i => z i * R i q) (k + 1) else tot (fun i => z i * R i q) k) (fun q hq => by
          show (if q = j then tk + zk * rk else if q < j then tot (fun i => z i * R i q) (k + 1) else tot (fun i => z i * R i q) k) = if q < j + 1 then tot (fun i => z i * R i q) (k + 1) else tot (fun i => z i * R i q) k
          by_cases e : q = j
          ·rw [if_pos e, if_pos (by omega), e, HU.out]
          ·rw [if_neg e]
           by_cases e2 : q < j
           ·rw [if_pos e2, if_pos (by omega)]
           ·rw [if_neg e2, if_neg (by omega)]))
         clear N4 N5
         refine hK.out _ _ ?_
         clear hK K
         try simp only [Act.put, zq1, zq2, zq3, zq4, zq5, zq6]
         refine wpAny_done (by kernel_rfl) ?_ _
         go_wp2
         go_roundw
         case rel => exact ⟨j + 1, by omega, by go_num, HN5.out⟩
         case measure => simp [intOf]; omega
        ·obtain rfl : m = j := by omega
         have HN4 : Hid (Nls w.heap.size w wq (.slice (some ⟨gw, 0, none⟩) m m) m (fun j => tot (fun q => z q * R q j) (k + 1))) := hQ.congr (fun q hq => by rw [if_pos hq])
         clear hQ
         go_wp2
         go_roundw
         case rel =>
          refine ⟨k + 1, by omega, by go_num, fun q hq => ?_, HN4.out⟩
          by_cases e : q = k
          ·subst e; exact ⟨HE1.out, HE2.out⟩
          ·exact HRW.out q (by omega)
         case measure => simp [intOf]; omega
      ·have HKn := hide (HK.out false ⟨fun q => (by cases q), fun q => absurd q e2⟩)
       have HNO : Hid (¬ MayX m z m L R) := fun q => e2 (by rw [e1]; exact (q.row k h).2)
       rw [e1] at ck HKn rl1
       clear HK e2 e1
       obtain ⟨Ak, hAk⟩ : ∃ q, q = A k := ⟨_, rfl⟩
       obtain ⟨Ck, hCk⟩ : ∃ q, q = C k := ⟨_, rfl⟩
       rw [← hAk, ← hCk] at ck HKn
       rw [← hCk] at rl1 rl2
       clear hAk hCk
       go_wp2_with fail
       refine (HKn.out).mono ?_
       rintro e w3 ⟨rfl, k3⟩
       have B3 := HN.out.below.trans (k3.mono HN.out.base)
       go_wp2
       go_ret2
       exact ⟨_, _, rfl, Or.inl ⟨HNO.out, rfl, rfl, B3⟩⟩
     ·have HNO : Hid (¬ MayX m z m L R) := fun q => e1 (q.row k h).1
      have e3 : ¬ ((L k : Nat) : Int) = (m : Int) := by omega
      obtain ⟨Ak, hAk⟩ : ∃ q, q = A k := ⟨_, rfl⟩
      obtain ⟨Ck, hCk⟩ : ∃ q, q = C k := ⟨_, rfl⟩
      obtain ⟨Lk, hLk⟩ : ∃ q, q = L k := ⟨_, rfl⟩
      rw [← hAk, ← hCk, ← hLk] at ck
      rw [← hCk, ← hLk] at rl1
      rw [← hCk] at rl2
      rw [← hLk] at e3
      clear HK e1 hAk hCk hLk
      go_wp2
      go_ret2
      exact ⟨_, _, rfl, Or.inl ⟨HNO.out, rfl, rfl, HN.out.below⟩⟩
    ·obtain rfl : m = k := by omega
     have hmay : MayX m z m L R := ⟨HCH.out, rfl, hrw⟩
     obtain ⟨_, _, ee, hat, _⟩ := hN.at (by omega)
     cases ee
     have HSh := hide (dshares_any 1073741824 gw m m (mxw m z R) wr hat hn4 (by omega) (by omega) (fun j hj => by have h1 := mxw_nn hmay hj; have h2 := mxw_le hmay hj; omega) (by rw [mxw_tot hmay]; omega))
     have HMAY := hide hmay
     have HB := hide hN.below
     have HL := hide (show w.heap.size ≤ wr.heap.size from hN.base)
     clear hN hat hmay hrw
     go_wp2_with fail
     refine (HSh.out).mono ?_
     rintro e w2 ⟨v, rfl, ow⟩
     have ow2 : Own w.heap.size w w2 v m (sh 1073741824 (mxw m z R) m) := ⟨row_mono ow.row HL.out, HB.out.trans (ow.below.mono HL.out), Nat.le_trans HL.out ow.base⟩
     have HO2 := hide ow2
     clear ow ow2
     go_wp2
     go_ret2
     exact ⟨_, _, rfl, Or.inr ⟨HMAY.out, rfl, HO2.out⟩⟩
  ·have HNO : Hid (¬ MayX n z m L R) := fun q => hm q.rows
   have e3 : ¬ (m : Int) = (n : Int) := by omega
   go_enter Tryz.func23, Tryz.ntmps23
   go_wp2_with fail
   refine (D0.out).mono ?_
   rintro e w1 ⟨rfl, k1⟩
   go_wp2
   go_ret2
   exact ⟨_, _, rfl, Or.inl ⟨HNO.out, rfl, rfl, k1⟩⟩
 ·have HNO : Hid (¬ MayX n z m L R) := fun q => hc q.ch
  have D0 := hide (HCk.out w (Below.refl _ _) false ⟨fun q => (by cases q), fun q => absurd q hc⟩)
  clear HCk hc
  go_enter Tryz.func23, Tryz.ntmps23
  go_wp2_with fail
  refine (D0.out).mono ?_
  rintro e w1 ⟨rfl, k1⟩
  go_wp2
  go_ret2
  exact ⟨_, _, rfl, Or.inl ⟨HNO.out, rfl, rfl, k1⟩⟩
end Go.Proofs.YtoglokgkgonmdaaGreatDoor
namespace Go.Proofs.YtoglokgkgonmdaaGreatDoor
open Go.RowKit Vc Cn Mx
attribute [local go_sem ↓] Go.wp_at_zero Go.wp_at_succ
namespace Mx
theorem hideX {p : Prop} (h : p) : Hid p := h
def SharesR (w w' : World) (n : Nat) (z : Nat → Int) (m : Nat) (L : Nat → Nat) (R : Nat → Nat → Int) (tq : Int) (v : Value) (er : Int) : Prop :=
  (¬ (MayX n z m L R ∧ 0 ≤ tq ∧ tq < n) ∧ v = .slice none 0 0 ∧ er = 1 ∧ Below w.heap.size w w') ∨ (MayX n z m L R ∧ 0 ≤ tq ∧ tq < n ∧ er = 0 ∧ Own w.heap.size w w' v n (shr n z R tq.toNat))
theorem step_push {ops : Array Oper} {o : Oper} {a : Act} {K : Act → World → Prop} {Q : Exit → Act → World → Prop} {E : Prop} {wr : World} (hgd : o.guard = none) (s x : Operand)
    (ho : o.op = .call { callee := .builtin .append, args := #[s, x], argTypes := #[22, 22] }) (B : Nat) (w0 : World) (v : Value) (n : Nat) (z : Nat → Int) (hs : a.eval s = v) (hown : Own B w0 wr v n z) (hl : n ≤ 2000000) (y : Int) (hy : y = z n)
    (hx : a.eval x = .slice (some ⟨wr.heap.size, 0, none⟩) 1 1)
    (h : ∀ v' w', Own B w0 w' v' (n + 1) z → K (a.put o.dst v') w') : if Region.wanted o (yielded ops a.tmps) = true then Oper.wp Tryz.prog o a (wr.alloc (.cells #[.int .i64 y] 2)) K Q else E := by
  obtain ⟨i0, hi, hz0, hz1, hz2⟩ := info_parts infoI64
  subst hy
  refine step_append_lies _ hgd s x 22 ho B 2 i0 (.int .i64 0) 1 8 Tryz.underlying22 hi hz0 hz1 hz2 rfl (by decide) v n (vals n z) hs (hown.row.alloc _) ⟨wr.heap.size, 0, none⟩ 1 1 [.int .i64 (z n)] hx rfl (cell_one_new _ _ _) (by intro u hu; simp at hu; subst hu; rfl) (by omega) (by unfold maxLen; omega) (by omega) (by have := hown.base; simp; omega) _ rfl ?_
  intro g cap w' h1 h2 _ _
  rw [vals_push] at h1
  refine h _ w' ⟨h1, ?_, Nat.le_trans (by have := hown.base; simp; omega) h2.size⟩
  refine (hown.below.alloc hown.base _).grown h2 (by have := hown.base; simp; omega) ?_
  intro k hk
  exact (hown.row.lt k hk).1
end Mx
set_option maxRecDepth 20000 in
set_option maxHeartbeats 4000000 in
theorem dshares15_any (ao lo : Option Addr) (n ca m cm : Nat) (z : Nat → Int) (A : Nat → Option Addr) (L C : Nat → Nat) (R : Nat → Nat → Int) (tq : Int) (w : World) (hs : Sl w ao n ca z) (hz : B64 z) (hl : Sls w lo m cm A L C)
  (hr : ∀ i, i < m → Sl w (A i) (L i) (C i) (R i)) (hR : ∀ i, B64 (R i)) (t0 : -9223372036854775808 ≤ tq) (t1 : tq ≤ 9223372036854775807) :
  Calls Tryz.prog 6 #[.slice ao n ca, .slice lo m cm, .int .i64 tq] w fun e w' => ∃ v er, e = .returned (.tuple #[v, .int .i64 er]) ∧ SharesR w w' n z m L R tq v er := by
 have HD := hideX (dmix14_any ao lo n ca m cm z A L C R w hs hz hl hr hR)
 have l1 := hs.le
 have l2 := hs.cap
 have l3 := hl.le
 have l4 := hl.cap
 obtain ⟨xa, hxa, hac⟩ := hs.get
 obtain ⟨xl, hlo, hlc⟩ := hl.get
 have HXA := hideX hxa
 have HAC := hideX hac
 have HLO := hideX hlo
 have HLC := hideX hlc
 have HR := hideX hr
 clear hs hz hl hr hR hxa hac hlo hlc
 by_cases hm : MayX n z m L R
 ·have hn1 := hm.ch.one
  have hn4 := hm.ch.four
  have hmn := hm.rows
  subst hmn
  by_cases hto : tq < 0
  ·have HNO : Hid (¬ (MayX m z m L R ∧ 0 ≤ tq ∧ tq < m)) := fun q => by have := q.2.1; omega
   have HM := hideX hm
   clear hm
   go_enter Tryz.func6, Tryz.ntmps6
   go_wp2_with fail
   refine (HD.out).mono ?_
   rintro e w1 ⟨v1, er, rfl, ⟨q, _⟩ | ⟨_, rfl, ow⟩⟩
   ·exact absurd HM.out q
   ·have HB := hideX ow.below
    clear ow
    go_wp2
    go_ret2
    exact ⟨_, _, rfl, Or.inl ⟨HNO.out, rfl, rfl, HB.out⟩⟩
  ·by_cases hto2 : (m : Int) ≤ tq
   ·have HNO : Hid (¬ (MayX m z m L R ∧ 0 ≤ tq ∧ tq < m)) := fun q => by have := q.2.2; omega
    have HM := hideX hm
    clear hm
    go_enter Tryz.func6, Tryz.ntmps6
    go_wp2_with fail
    refine (HD.out).mono ?_
    rintro e w1 ⟨v1, er, rfl, ⟨q, _⟩ | ⟨_, rfl, ow⟩⟩
    ·exact absurd HM.out q
    ·have HB := hideX ow.below
     clear ow
     go_wp2
     go_ret2
     exact ⟨_, _, rfl, Or.inl ⟨HNO.out, rfl, rfl, HB.out⟩⟩
   ·obtain ⟨t, rfl⟩ : ∃ t : Nat, tq = (t : Int) := ⟨tq.toNat, by omega⟩
    have ht : t < m := by omega
    have hd1 : decide ((t : Int) < 0) = false := decide_eq_false (by omega)
    have hd2 : decide (m ≤ t) = false := decide_eq_false (by omega)
    have hd3 : decide ((t : Int) ≥ m) = false := decide_eq_false (by omega)
    obtain rfl := HXA.out (by omega)
    obtain rfl := HLO.out (by omega)
    have HM := hideX hm
    have HW := hideX (wt_in hm ht)
    clear hm
    go_enter Tryz.func6, Tryz.ntmps6
    go_wp2_with fail
    refine (HD.out).mono ?_
    rintro e w1 ⟨v1, er, rfl, ⟨q, _⟩ | ⟨_, rfl, ow⟩⟩
    ·exact absurd HM.out q
    have HB := hideX ow.below
    clear ow HD
    go_wp2
    go_loopw [10, 11, 12] (fun v sv i wr => ∃ k : Nat, k ≤ m ∧ i = .int .i64 (k : Int) ∧ sv = .bool (decide (0 < tot (wt m z R t) k)) ∧ Own w1.heap.size w1 wr v k (wt m z R t)) (fun _ _ i _ => m - (intOf i).toNat)
    case atStart => exact ⟨0, by omega, rfl, rfl, Own.nil (Below.refl _ _) (Nat.le_refl _) _⟩
    case round =>
     rename World => wr
     obtain ⟨k, hk, rfl, rfl, hO⟩ := hrel
     have KB := below_tr HB.out hO.below
     by_cases h : k < m
     ·have ck := keep_cell HB.out (HAC.out k h)
      have c1 := keep_cell HB.out (HLC.out k h)
      have hrow := (HM.out.row k h).1
      obtain ⟨xr, hxr, hrc⟩ := (HR.out k h).get
      have l5 := (HR.out k h).le
      have l6 := (HR.out k h).cap
      rw [hrow] at hxr hrc c1 l5
      obtain hxr := hxr (by omega)
      have c2 := keep_cell HB.out (hrc t ht)
      rw [hxr] at c1
      have wk := HW.out k
      have t0' := tot_nn (a := wt m z R t) (n := k) (fun j _ => (HW.out j).1)
      have HU : Hid (tot (wt m z R t) (k + 1) = tot (wt m z R t) k + wt m z R t k) := rfl
      have hwk : wt m z R t k = z k * R k t := by unfold wt; rw [if_pos h]
      have hzk := HM.out.ch.nn h
      have hrk := (HM.out.row k h).2.nn ht
      obtain ⟨cc, hcc⟩ : ∃ q, q = C k := ⟨_, rfl⟩
      obtain ⟨zk, hzk2⟩ : ∃ q, q = z k := ⟨_, rfl⟩
      obtain ⟨rk, hrk2⟩ : ∃ q, q = R k t := ⟨_, rfl⟩
      rw [← hcc] at c1 l5 l6
      rw [← hzk2] at ck hzk hwk
      rw [← hrk2] at c2 hrk hwk
      obtain ⟨V, hV⟩ : ∃ q, q = wt m z R t k := ⟨_, rfl⟩
      obtain ⟨tk, htk⟩ : ∃ q, q = tot (wt m z R t) k := ⟨_, rfl⟩
      rw [← hV] at wk HU hwk
      rw [← htk] at t0' HU ⊢
      have HV := hideX hV
      have hp : zk * rk = V := hwk.symm
      have hVw : IntKind.i64.wrap V = V := by rw [IntKind.wrap_i64]; omega
      obtain ⟨vo, vc, rfl, _⟩ := hO.sl
      have kn : (k : Int) < m := by omega
      have tn : (t : Int) < m := by omega
      have CK := hideX (fun W (q : Below w1.heap.size w1 W) => (⟨keep_cell q ck, keep_cell q c1, keep_cell q c2⟩ : W.cell? (xa.add k) = some (.int .i64 zk) ∧ W.cell? (xl.add k) = some (.slice (some xr) m cc) ∧ W.cell? (xr.add t) = some (.int .i64 rk)))
      clear hrow hxr hrc hcc hzk2 hrk2 hV htk hwk KB ck c1 c2
      go_wp2
      refine Ru.wp_region_U [] (fun w' => w'.cell? (xa.add k) = some (.int .i64 zk) ∧ w'.cell? (xl.add k) = some (.slice (some xr) m cc) ∧ w'.cell? (xr.add t) = some (.int .i64 rk)) (by kernel_rfl) (CK.out _ (below_tr hO.below (Vc.below_drew' _))) (fun hHeld => ?_)
      refine Ru.wpAnyU_take (i := 0) (v := .slice vo k vc) rfl (by kernel_rfl) (by kernel_rfl) (by kernel_rfl) (by kernel_rfl) (by kernel_rfl) (by kernel_rfl) (fun _ _ _ h => h) (Or.inl ⟨by kernel_rfl, fun w hS => by obtain ⟨sc0, sc1, sc2⟩ := hS; go_simp⟩) hHeld ?_
      simp only [Act.put, zq1, zq2, zq3, zq4, zq5, zq6]
      refine Ru.wpAnyU_take (i := 1) (v := .slice (some xa) m ca) rfl (by kernel_rfl) (by kernel_rfl) (by kernel_rfl) (by kernel_rfl) (by kernel_rfl) (by kernel_rfl) (fun _ _ _ h => h) (Or.inl ⟨by kernel_rfl, fun w hS => by obtain ⟨sc0, sc1, sc2⟩ := hS; go_simp⟩) hHeld ?_
      simp only [Act.put, zq1, zq2, zq3, zq4, zq5, zq6]
      refine Ru.wpAnyU_take (i := 2) (v := .int .i64 (k : Int)) rfl (by kernel_rfl) (by kernel_rfl) (by kernel_rfl) (by kernel_rfl) (by kernel_rfl) (by kernel_rfl) (fun _ _ _ h => h) (Or.inl ⟨by kernel_rfl, fun w hS => by obtain ⟨sc0, sc1, sc2⟩ := hS; go_simp⟩) hHeld ?_
      simp only [Act.put, zq1, zq2, zq3, zq4, zq5, zq6]
      refine Ru.wpAnyU_take (i := 3) (v := .pointer (some (xa.add k))) rfl (by kernel_rfl) (by kernel_rfl) (by kernel_rfl) (by kernel_rfl) (by kernel_rfl) (by kernel_rfl) (fun _ _ _ h => h) (Or.inl ⟨by kernel_rfl, fun w hS => by obtain ⟨sc0, sc1, sc2⟩ := hS; go_simp⟩) hHeld ?_
      simp only [Act.put, zq1, zq2, zq3, zq4, zq5, zq6]
      refine Ru.wpAnyU_take (i := 4) (v := .int .i64 zk) rfl (by kernel_rfl) (by kernel_rfl) (by kernel_rfl) (by kernel_rfl) (by kernel_rfl) (by kernel_rfl) (fun _ _ _ h => h) (Or.inl ⟨by kernel_rfl, fun w hS => by obtain ⟨sc0, sc1, sc2⟩ := hS; go_simp⟩) hHeld ?_
      simp only [Act.put, zq1, zq2, zq3, zq4, zq5, zq6]
      refine Ru.wpAnyU_take (i := 5) (v := .slice (some xl) m cm) rfl (by kernel_rfl) (by kernel_rfl) (by kernel_rfl) (by kernel_rfl) (by kernel_rfl) (by kernel_rfl) (fun _ _ _ h => h) (Or.inl ⟨by kernel_rfl, fun w hS => by obtain ⟨sc0, sc1, sc2⟩ := hS; go_simp⟩) hHeld ?_
      simp only [Act.put, zq1, zq2, zq3, zq4, zq5, zq6]
      refine Ru.wpAnyU_take (i := 6) (v := .int .i64 (k : Int)) rfl (by kernel_rfl) (by kernel_rfl) (by kernel_rfl) (by kernel_rfl) (by kernel_rfl) (by kernel_rfl) (fun _ _ _ h => h) (Or.inl ⟨by kernel_rfl, fun w hS => by obtain ⟨sc0, sc1, sc2⟩ := hS; go_simp⟩) hHeld ?_
      simp only [Act.put, zq1, zq2, zq3, zq4, zq5, zq6]
      refine Ru.wpAnyU_take (i := 7) (v := .pointer (some (xl.add k))) rfl (by kernel_rfl) (by kernel_rfl) (by kernel_rfl) (by kernel_rfl) (by kernel_rfl) (by kernel_rfl) (fun _ _ _ h => h) (Or.inl ⟨by kernel_rfl, fun w hS => by obtain ⟨sc0, sc1, sc2⟩ := hS; go_simp⟩) hHeld ?_
      simp only [Act.put, zq1, zq2, zq3, zq4, zq5, zq6]
      refine Ru.wpAnyU_take (i := 8) (v := .slice (some xr) m cc) rfl (by kernel_rfl) (by kernel_rfl) (by kernel_rfl) (by kernel_rfl) (by kernel_rfl) (by kernel_rfl) (fun _ _ _ h => h) (Or.inl ⟨by kernel_rfl, fun w hS => by obtain ⟨sc0, sc1, sc2⟩ := hS; go_simp⟩) hHeld ?_
      simp only [Act.put, zq1, zq2, zq3, zq4, zq5, zq6]
      refine Ru.wpAnyU_take (i := 9) (v := .int .i64 (t : Int)) rfl (by kernel_rfl) (by kernel_rfl) (by kernel_rfl) (by kernel_rfl) (by kernel_rfl) (by kernel_rfl) (fun _ _ _ h => h) (Or.inl ⟨by kernel_rfl, fun w hS => by obtain ⟨sc0, sc1, sc2⟩ := hS; go_simp⟩) hHeld ?_
      simp only [Act.put, zq1, zq2, zq3, zq4, zq5, zq6]
      refine Ru.wpAnyU_take (i := 10) (v := .pointer (some (xr.add t))) rfl (by kernel_rfl) (by kernel_rfl) (by kernel_rfl) (by kernel_rfl) (by kernel_rfl) (by kernel_rfl) (fun _ _ _ h => h) (Or.inl ⟨by kernel_rfl, fun w hS => by obtain ⟨sc0, sc1, sc2⟩ := hS; go_simp⟩) hHeld ?_
      simp only [Act.put, zq1, zq2, zq3, zq4, zq5, zq6]
      refine Ru.wpAnyU_take (i := 11) (v := .int .i64 rk) rfl (by kernel_rfl) (by kernel_rfl) (by kernel_rfl) (by kernel_rfl) (by kernel_rfl) (by kernel_rfl) (fun _ _ _ h => h) (Or.inl ⟨by kernel_rfl, fun w hS => by obtain ⟨sc0, sc1, sc2⟩ := hS; go_simp⟩) hHeld ?_
      simp only [Act.put, zq1, zq2, zq3, zq4, zq5, zq6]
      refine Ru.wpAnyU_take (i := 12) (v := .int .i64 V) rfl (by kernel_rfl) (by kernel_rfl) (by kernel_rfl) (by kernel_rfl) (by kernel_rfl) (by kernel_rfl) (fun _ _ _ h => h) (Or.inl ⟨by kernel_rfl, fun w hS => by obtain ⟨sc0, sc1, sc2⟩ := hS; go_simp⟩) hHeld ?_
      simp only [Act.put, zq1, zq2, zq3, zq4, zq5, zq6]
      refine Ru.wpAnyU_ready (rs := [13]) (by kernel_rfl) (by simp) ?_
      refine Ru.AllReadyU.cons rfl (by kernel_rfl) (fun K hK => ?_) Ru.AllReadyU.nil
      go_simp
      refine hK.out _ _ (CK.out _ (below_tr hO.below (below_al (Vc.below_drew' _) _))) (fun hHeld => ?_)
      clear hK K
      try simp only [Act.put, zq1, zq2, zq3, zq4, zq5, zq6]
      refine Ru.wpAnyU_ready (rs := [14]) (by kernel_rfl) (by simp) ?_
      refine Ru.AllReadyU.cons rfl (by kernel_rfl) (fun K hK => ?_) Ru.AllReadyU.nil
      refine Mx.step_push rfl (.tmp 40) (.tmp 53) (by rfl) w1.heap.size w1 (.slice vo k vc) k (wt m z R t) (by rfl) hO.drew (by omega) V (by exact HV.out) (by rfl) ?_
      intro v' w' hO'
      refine hK.out _ _ (CK.out _ hO'.below) (fun hHeld => ?_)
      clear hK K
      try simp only [Act.put, zq1, zq2, zq3, zq4, zq5, zq6]
      refine Ru.wpAnyU_take (i := 15) (v := v') rfl (by kernel_rfl) (by kernel_rfl) (by kernel_rfl) (by kernel_rfl) (by kernel_rfl) (by kernel_rfl) (fun _ _ _ h => h) (Or.inl ⟨by kernel_rfl, fun w hS => by obtain ⟨sc0, sc1, sc2⟩ := hS; go_simp⟩) hHeld ?_
      simp only [Act.put, zq1, zq2, zq3, zq4, zq5, zq6]
      refine Ru.wpAnyU_done (by kernel_rfl) ?_
      obtain ⟨po, pc, rfl, hps⟩ := hO'.sl
      obtain ⟨px, hpx, hpc⟩ := hps.get
      obtain rfl := hpx (by omega)
      have ck' := hpc k (by omega)
      have l7 := hps.le
      have l8 := hps.cap
      rw [← HV.out] at ck'
      have HO := hideX hO'
      clear hps hpx hpc hO'
      by_cases c3 : 0 < tk
      ·rw [decide_eq_true c3]
       go_wp2
       go_roundw
       case rel => exact ⟨k + 1, by omega, by go_num, by rw [HU.out, decide_eq_true (show 0 < tk + V by omega)], HO.out⟩
       case measure => simp [intOf]; omega
      ·rw [decide_eq_false c3]
       have HSN : Hid (decide (0 < tot (wt m z R t) (k + 1)) = decide (0 < V)) := by show decide (0 < tot (wt m z R t) (k + 1)) = decide (0 < V); rw [HU.out, show tk + V = V by omega]
       go_wp2
       go_roundw
       case rel => exact ⟨k + 1, by omega, by go_num, by rw [HSN.out], HO.out⟩
       case measure => simp [intOf]; omega
     ·obtain rfl : m = k := by omega
      have t0' := tot_nn (a := wt m z R t) (n := m) (fun j _ => (HW.out j).1)
      obtain ⟨po, pc, rfl, hps⟩ := hO.sl
      have HB2 := hideX KB
      have HS := hideX hps
      have HL := hideX (show w.heap.size ≤ wr.heap.size from KB.size)
      clear KB hps hO
      by_cases c3 : 0 < tot (wt m z R t) m
      ·rw [decide_eq_true c3]
       have HOf := hideX (dof14_any po m pc (wt m z R t) 0 wr HS.out (fun j => by have := HW.out j; omega) (by omega) (by omega))
       have HMW := hideX (wt_may HM.out ht)
       have HC3 := hideX c3
       clear c3 t0'
       go_wp2_with fail
       refine (HOf.out).mono ?_
       rintro e w3 ⟨v3, er3, rfl, ⟨q, _⟩ | ⟨_, q, _⟩ | ⟨_, _, rfl, ow⟩⟩
       ·exact absurd HMW.out q
       ·exact absurd q (by have := HC3.out; omega)
       ·have ow2 : Own w.heap.size w w3 v3 m (shr m z R t) := ⟨row_mono (ow.congr (z' := shr m z R t) fun j hj => by
         show sh (1073741824 - 0 * (m : Int)) (wt m z R t) m j + 0 = shr m z R t j
         rw [shr_is hj, if_neg (by have := HC3.out; omega), Int.zero_mul, Int.sub_zero, Int.add_zero]).row HL.out, HB2.out.trans (ow.below.mono HL.out), Nat.le_trans HL.out ow.base⟩
        have HO2 := hideX ow2
        clear ow ow2
        go_wp2
        go_ret2
        exact ⟨_, _, rfl, Or.inr ⟨HM.out, by omega, by omega, rfl, HO2.out⟩⟩
      ·rw [decide_eq_false c3]
       obtain ⟨i0, hi, hz0, hz1, hz2⟩ := info_parts infoI64
       have HC3 : Hid (tot (wt m z R t) m = 0) := by show tot (wt m z R t) m = 0; omega
       have kn : (t : Int) < m := by omega
       clear c3 t0'
       go_wp2_with (at_make; refine wpList_make_full _ rfl _ _ 22 rfl wr.heap.size 2 i0 (.int .i64 0) 1 Tryz.underlying22 hi hz0 hz1 _ _ _ _ m rfl rfl (by omega) (by omega) (by rw [hz2]; omega) (by unfold maxLen; omega) (Nat.le_refl _) ?_)
       intro w3 o3 g3
       have hO3 := own_made o3 g3 (Nat.le_refl _)
       have cT := hO3.cell (j := t) ht
       have fT := hO3.free t
       have hO4 := hO3.set t 1073741824
       have ow2 : Own w.heap.size w _ _ m (shr m z R t) := ⟨row_mono (hO4.congr (z' := shr m z R t) fun j hj => by rw [shr_is hj, if_pos HC3.out]).row HL.out, HB2.out.trans (hO4.below.mono HL.out), Nat.le_trans HL.out hO4.base⟩
       have HO2 := hideX ow2
       clear hO3 hO4 ow2 o3 g3 hi hz0 hz1 hz2
       go_wp2
       go_ret2
       exact ⟨_, _, rfl, Or.inr ⟨HM.out, by omega, by omega, rfl, HO2.out⟩⟩
 ·have HNO : Hid (¬ (MayX n z m L R ∧ 0 ≤ tq ∧ tq < n)) := fun q => hm q.1
  have HM := hideX hm
  clear hm
  go_enter Tryz.func6, Tryz.ntmps6
  go_wp2_with fail
  refine (HD.out).mono ?_
  rintro e w1 ⟨v1, er, rfl, ⟨_, rfl, rfl, k1⟩ | ⟨q, _⟩⟩
  ·go_wp2
   go_ret2
   exact ⟨_, _, rfl, Or.inl ⟨HNO.out, rfl, rfl, k1⟩⟩
  ·exact absurd q HM.out
end Go.Proofs.YtoglokgkgonmdaaGreatDoor
namespace Go.Proofs.YtoglokgkgonmdaaGreatDoor
open Go.RowKit Vc St Mt Dt Cn Mx El
attribute [local go_sem ↓] Go.wp_at_zero Go.wp_at_succ
namespace Mx
theorem hideC {p : Prop} (h : p) : Hid p := h
theorem infoS2 : (Tryz.prog.info? 54).map (fun i => (i.zero, i.size, i.bytes)) = some (some (.agg #[.slice none 0 0, .slice none 0 0]), 2, 48) := by kernel_rfl
theorem infoG : (Tryz.prog.info? 23).map (fun i => (i.zero, i.size, i.bytes)) = some (some (.slice none 0 0), 1, 24) := by kernel_rfl
def JoinR (w w' : World) (X : Nat → Int) (P : Nat → Nat → Int) (xo : Option Addr) (xc : Nat) (po : Option Addr) (pm : Nat) : Prop := Below w.heap.size w w' ∧ Free w.heap.size w' (fun W => Sl W xo 6 xc X ∧ Grid W po 6 pm 6 P)
theorem ja_b64 (n : Nat) (c : Nat → Int) (X : Nat → Nat → Int) (P : Nat → Nat → Nat → Int) : B2 (ja n c X P) := Pr.cl_b2 _
theorem jm_b2 (n : Nat) (c : Nat → Int) (X : Nat → Nat → Int) (P : Nat → Nat → Nat → Int) (k : Nat) : B2 (jm n c X P k) := Pr.cl_b2 _
theorem jX_b64 (n : Nat) (c : Nat → Int) (X : Nat → Nat → Int) : B64 (jX n c X) := fun p => Pr.cl_b2 (fun _ p => jx n c X p) 0 p
theorem jd_b64 (n : Nat) (c : Nat → Int) (X : Nat → Nat → Int) (k : Nat) : B64 (jd n c X k) := fun p => Pr.cl_b2 (fun _ p => X k p - jX n c X p) 0 p
theorem ju_b2 (n : Nat) (c : Nat → Int) (X : Nat → Nat → Int) (k : Nat) : B2 (ju n c X k) := Pr.cl_b2 _
end Mx
set_option maxRecDepth 20000 in
set_option maxHeartbeats 4000000 in
theorem djoin15_any (lo ho : Option Addr) (n cm hc : Nat) (A pl : Nat → Option Addr) (C pc : Nat → Nat) (X : Nat → Nat → Int) (P : Nat → Nat → Nat → Int) (c : Nat → Int) (w : World)
  (hl : Dst w lo n cm (fun k => .slice (A k) 6 (C k)) (fun k => .slice (pl k) 6 (pc k))) (hX : ∀ k, k < n → Sl w (A k) 6 (C k) (X k)) (hP : ∀ k, k < n → Grid w (pl k) 6 (pc k) 6 (P k)) (hs : Sl w ho n hc c)
  (bX : ∀ k, B64 (X k)) (bP : ∀ k, B2 (P k)) (bc : B64 c) (h1 : 0 < n) (h4 : n ≤ 4) :
  Calls Tryz.prog 18 #[.slice lo n cm, .slice ho n hc] w fun e w' => ∃ xo xc po pm, e = .returned (.tuple #[.agg #[.slice xo 6 xc, .slice po 6 pm], .bool (jO n c X P)]) ∧ JoinR w w' (jX n c X) (jP n c X P) xo xc po pm := by
 have r0 := crow_new w 54 [.slice none 0 0, .slice none 0 0]
 have B0 := below_al (Below.refl _ w) (.cells [.slice none 0 0, .slice none 0 0].toArray 54)
 obtain ⟨W, hW⟩ : ∃ W, W = w.alloc (.cells [.slice none 0 0, .slice none 0 0].toArray 54) := ⟨_, rfl⟩
 rw [← hW] at r0 B0
 have lW : w.heap.size < W.heap.size := CRow.lt r0
 have J1 : Hid (∀ lo cm W, Grid W lo n cm 6 X → Sl W ho n hc c → Calls Tryz.prog 31 #[.slice lo n cm, .slice ho n hc] W fun e w' => ∃ co cc, e = .returned (.tuple #[.slice co 6 cc, .bool (jXo n c X)]) ∧ Own W.heap.size W w' (.slice co 6 cc) 6 (jX n c X)) := by
  rintro lo cm W ⟨A, C, h, hz⟩ hh
  exact rjoin_own 6 lo ho n cm hc A C X c W h hz (by omega) h1 h4 hh bX bc
 have J2 : Hid (∀ r lo cm W, Grid W lo n cm 6 (fun k => jm n c X P k r) → Sl W ho n hc c → Calls Tryz.prog 31 #[.slice lo n cm, .slice ho n hc] W fun e w' => ∃ co cc, e = .returned (.tuple #[.slice co 6 cc, .bool (jao n c X P r)]) ∧ Own W.heap.size W w' (.slice co 6 cc) 6 (ja n c X P r)) := by
  rintro r lo cm W ⟨A, C, h, hz⟩ hh
  exact rjoin_own 6 lo ho n cm hc A C (fun k => jm n c X P k r) c W h hz (by omega) h1 h4 hh (fun k => jm_b2 n c X P k r) bc
 have HA : Hid (∀ k xo xc W, Sl W (A k) 6 (C k) (X k) → Sl W xo 6 xc (jX n c X) → Calls Tryz.prog 32 #[.slice (A k) 6 (C k), .slice xo 6 xc, .bool true] W fun e w' => ∃ co cc, e = .returned (.tuple #[.slice co 6 cc, .bool (jdo n c X k)]) ∧ Sl w' co 6 cc (jd n c X k) ∧ Below W.heap.size W w') :=
  fun k xo xc W h h' => radd_yes 6 (C k) xc (A k) xo (X k) (jX n c X) W (by omega) h h' (bX k) (jX_b64 n c X)
 have HO : Hid (∀ k d dc W, Sl W d 6 dc (jd n c X k) → Calls Tryz.prog 33 #[.slice d 6 dc, .slice d 6 dc] W fun e w' => ∃ lo cm, e = .returned (.tuple #[.slice lo 6 cm, .bool (juo n c X k)]) ∧ Grid w' lo 6 cm 6 (ju n c X k) ∧ Below W.heap.size W w') :=
  fun k d dc W h => router_any 6 6 dc dc d d (jd n c X k) (jd n c X k) W (by omega) (by omega) (by omega) (by omega) h h (jd_b64 n c X k) (jd_b64 n c X k)
 have HM : Hid (∀ k u uc W, Grid W (pl k) 6 (pc k) 6 (P k) → Grid W u 6 uc 6 (ju n c X k) → Calls Tryz.prog 34 #[.slice (pl k) 6 (pc k), .slice u 6 uc, .bool false] W fun e w' => ∃ L' cm' G' C', e = .returned (.tuple #[.slice (some ⟨L', 0, none⟩) 6 cm', .bool (jmo n c X P k)]) ∧ RwcAt W.heap.size W w' L' cm' G' C' 6 6 (jm n c X P k)) :=
  fun k u uc W h h' => rmadd_own 6 6 (pc k) uc (pl k) u (P k) (ju n c X k) W (by omega) (by omega) (by omega) (by omega) h h' (bP k) (ju_b2 n c X k)
 have HE : Hid (∀ lo cm W, Grid W lo 6 cm 6 (ja n c X P) → Calls Tryz.prog 35 #[.slice lo 6 cm] W fun e w' => ∃ L' cm' G' C', e = .returned (.tuple #[.slice (some ⟨L', 0, none⟩) 6 cm', .bool (jeo n c X P)]) ∧ RwcAt W.heap.size W w' L' cm' G' C' 6 6 (je n c X P)) :=
  fun lo cm W h => reven_own 6 cm lo (ja n c X P) W (by omega) (by omega) h (ja_b64 n c X P)
 have HP : Hid (∀ i j, i < 6 → Pr.nD (je n c X P) 6 i j = jP n c X P i j) := fun i j hi => Pr.nD_end _ j hi
 have ST1 : Hid (∀ k, (jXo n c X || jko n c X P (k + 1)) = ((((jXo n c X || jko n c X P k) || jdo n c X k) || juo n c X k) || jmo n c X P k)) := fun k => by
  show (jXo n c X || (jko n c X P k || (jdo n c X k || juo n c X k || jmo n c X P k))) = _
  simp only [Bool.or_assoc]
 have ST0 : Hid (jXo n c X = (jXo n c X || jko n c X P 0)) := by show jXo n c X = (jXo n c X || false); rw [Bool.or_false]
 have ST2 : Hid (∀ r, (((jXo n c X || jko n c X P n) || anyb (jao n c X P) (r + 1))) = (((jXo n c X || jko n c X P n) || anyb (jao n c X P) r) || jao n c X P r)) := fun r => by
  show (_ || (anyb (jao n c X P) r || jao n c X P r)) = _
  rw [← Bool.or_assoc]
 have SJ : Hid (jO n c X P = (((jXo n c X || jko n c X P n) || anyb (jao n c X P) 6) || jeo n c X P)) := rfl
 obtain ⟨jo, hjo⟩ : ∃ b, b = jO n c X P := ⟨_, rfl⟩
 rw [← hjo] at SJ ⊢
 clear hjo
 obtain ⟨JX, hJX⟩ : ∃ f, f = jX n c X := ⟨_, rfl⟩
 rw [← hJX] at J1 HA ⊢
 clear hJX
 obtain ⟨JP, hJP⟩ : ∃ f, f = jP n c X P := ⟨_, rfl⟩
 rw [← hJP] at HP ⊢
 clear hJP
 obtain ⟨E, hE⟩ : ∃ f, f = je n c X P := ⟨_, rfl⟩
 rw [← hE] at HE HP
 clear hE
 obtain ⟨JA, hJA⟩ : ∃ f, f = ja n c X P := ⟨_, rfl⟩
 rw [← hJA] at HE J2
 clear hJA
 obtain ⟨JM, hJM⟩ : ∃ f, f = jm n c X P := ⟨_, rfl⟩
 rw [← hJM] at J2 HM
 clear hJM
 obtain ⟨JU, hJU⟩ : ∃ f, f = ju n c X := ⟨_, rfl⟩
 rw [← hJU] at HO HM
 clear hJU
 obtain ⟨JD, hJD⟩ : ∃ f, f = jd n c X := ⟨_, rfl⟩
 rw [← hJD] at HA HO
 clear hJD
 obtain ⟨bX0, hb0⟩ : ∃ b, b = jXo n c X := ⟨_, rfl⟩
 rw [← hb0] at J1 ST0 ST1 ST2 SJ
 clear hb0
 obtain ⟨bK, hbK⟩ : ∃ b, b = jko n c X P := ⟨_, rfl⟩
 rw [← hbK] at ST0 ST1 ST2 SJ
 clear hbK
 obtain ⟨b1, hb1⟩ : ∃ b, b = jdo n c X := ⟨_, rfl⟩
 rw [← hb1] at ST1 HA
 clear hb1
 obtain ⟨b2, hb2⟩ : ∃ b, b = juo n c X := ⟨_, rfl⟩
 rw [← hb2] at ST1 HO
 clear hb2
 obtain ⟨b3, hb3⟩ : ∃ b, b = jmo n c X P := ⟨_, rfl⟩
 rw [← hb3] at ST1 HM
 clear hb3
 obtain ⟨b4, hb4⟩ : ∃ b, b = jao n c X P := ⟨_, rfl⟩
 rw [← hb4] at ST2 SJ J2
 clear hb4
 obtain ⟨b5, hb5⟩ : ∃ b, b = jeo n c X P := ⟨_, rfl⟩
 rw [← hb5] at SJ HE
 clear hb5
 have l1 := hl.le
 have l2 := hl.cap
 have l3 := hs.le
 have l4 := hs.cap
 obtain ⟨x, hlo, hcl⟩ := hl.get
 obtain rfl := hlo h1
 have HCL := hideC fun W' (k : Below w.heap.size w W') i (hi : i < n) => (⟨keep_cell k (hcl i hi).1, keep_cell k (hcl i hi).2⟩ : W'.cell? (x.add (i * 2)) = some (.slice (A i) 6 (C i)) ∧ W'.cell? ((x.add (i * 2)).add 1) = some (.slice (pl i) 6 (pc i)))
 have HX := hideC hX
 have HPl := hideC hP
 have HS := hideC hs
 have HW := hideC hW
 clear hl hlo hcl hX hP hs hW bX bP bc
 go_enter Tryz.func18, Tryz.ntmps18
 go_wp2_with (first | (rw [← HW.out]) | fail)
 go_loopw [6, 7] (fun xs i wr => ∃ k : Nat, k ≤ n ∧ i = .int .i64 (k : Int) ∧ Els 22 1 W.heap.size W wr xs k (RowR 6 X)) (fun _ i _ => n - (intOf i).toNat)
 case atStart => exact ⟨0, by omega, rfl, Els.nil (Below.refl _ _) (Nat.le_refl _) _ _ _⟩
 case round =>
  rename World => wr
  obtain ⟨k, hk, rfl, hL⟩ := hrel
  by_cases hkn : k < n
  ·have c0 := (HCL.out wr (below_tr B0 hL.below) k hkn).1
   have HR := hideC (fun W' (r : El.Rest _ wr W') => (⟨_, _, rfl, (hL.elder r).slN ((HX.out k hkn).keep B0)⟩ : RowR 6 X k [.slice (A k) 6 (C k)] W'))
   have HL := hideC hL
   have kn : (k : Int) < n := by omega
   obtain ⟨u, hu⟩ : ∃ q, q = A k := ⟨_, rfl⟩
   obtain ⟨cu, hcu⟩ : ∃ q, q = C k := ⟨_, rfl⟩
   rw [← hu, ← hcu] at c0 HR
   clear hu hcu hL
   go_wp2_with (at_builtin; refine El.push (by rfl) (.tmp 33) (.tmp 39) 23 22 1 24 (.slice none 0 0) (by rfl) Tryz.underlying23 infoSl rfl (by decide) (by decide) W.heap.size W _ k (RowR 6 X) (by rfl) HL.out (by omega) [.slice u 6 cu] rfl (one1 _ _ _) HR.out (by rfl) ?_)
   intro v' w' hL'
   go_wp2
   go_roundw
   case rel => exact ⟨k + 1, by omega, by go_num, hL'⟩
   case measure => simp [intOf]; omega
  ·obtain rfl : n = k := by omega
   obtain ⟨xl, xm, rfl, hg⟩ := hL.grid
   have HB := hideC hL.below
   have HG := hideC hg
   clear hL hg
   go_wp2_with fail
   refine (J1.out _ _ _ HG.out ((HS.out.keep B0).keep HB.out)).mono ?_
   rintro e w2 ⟨xo, xc, rfl, ox⟩
   have KX := below_tr HB.out ox.below
   have r2 := CRow.keep r0 KX
   have FX := hideC (El.Own.free' ox)
   have lwr : W.heap.size ≤ wr.heap.size := HB.out.size
   have B2 := below_tr B0 KX
   have HSX := hideC (Free.self FX.out)
   clear ox KX HB HG J1 r0
   go_wp2
   go_loopw [9, 10, 11] (fun an ms i ws => ∃ k : Nat, k ≤ n ∧ i = .int .i64 (k : Int) ∧ an = .bool (bX0 || bK k) ∧ Els 23 1 w2.heap.size w2 ws ms k (GridR 6 6 JM)) (fun _ _ i _ => n - (intOf i).toNat)
   case atStart => exact ⟨0, by omega, rfl, by rw [← ST0.out], Els.nil (Below.refl _ _) (Nat.le_refl _) _ _ _⟩
   case round =>
    rename World => ws
    obtain ⟨k, hk, rfl, rfl, hL⟩ := hrel
    have K2 := hL.below
    by_cases hkn : k < n
    ·obtain ⟨c0, c1⟩ := HCL.out ws (below_tr B2 K2) k hkn
     have C1 := hideC (HA.out k xo xc ws ((HX.out k hkn).keep (below_tr B2 K2)) (HSX.out.keep K2))
     have C2 := hideC (HO.out k)
     have C3 := hideC (fun W' (q : Below ws.heap.size ws W') u uc => HM.out k u uc W' ((HPl.out k hkn).keep (below_tr (below_tr B2 K2) q)))
     have S1 := hideC (ST1.out k)
     have HL := hideC hL
     have kn : (k : Int) < n := by omega
     obtain ⟨T, hT⟩ : ∃ T, T = (bX0 || bK k) := ⟨_, rfl⟩
     obtain ⟨o1, ho1⟩ : ∃ T, T = b1 k := ⟨_, rfl⟩
     obtain ⟨o2, ho2⟩ : ∃ T, T = b2 k := ⟨_, rfl⟩
     obtain ⟨o3, ho3⟩ : ∃ T, T = b3 k := ⟨_, rfl⟩
     rw [← hT, ← ho1, ← ho2, ← ho3] at S1
     rw [← ho1] at C1
     rw [← ho2] at C2
     rw [← ho3] at C3
     rw [← hT]
     obtain ⟨u, hu⟩ : ∃ q, q = A k := ⟨_, rfl⟩
     obtain ⟨cu, hcu⟩ : ∃ q, q = C k := ⟨_, rfl⟩
     obtain ⟨pu, hpu⟩ : ∃ q, q = pl k := ⟨_, rfl⟩
     obtain ⟨pcu, hpcu⟩ : ∃ q, q = pc k := ⟨_, rfl⟩
     rw [← hu, ← hcu] at c0 C1
     rw [← hpu, ← hpcu] at c1 C3
     clear hu hcu hpu hpcu hT ho1 ho2 ho3 hL
     go_wp2_with fail
     refine (C1.out).mono ?_
     rintro e w3 ⟨d, dc, rfl, sd, k3⟩
     have c1' := keep_cell k3 c1
     clear C1
     go_wp2_with fail
     refine (C2.out _ _ _ sd).mono ?_
     rintro e w4 ⟨uo, uc, rfl, gu, k4⟩
     have c1'' : w4.cell? { block := (x.add (k * 2)).block, off := (x.add (k * 2)).off + 1 } = some (.slice pu 6 pcu) := keep_cell k4 c1'
     have k34 := below_tr k3 k4
     clear C2 c1 c1' c0 sd k3 k4
     go_wp2_with fail
     refine (C3.out _ k34 _ _ gu).mono ?_
     rintro e w5 ⟨L', cm', G', C', rfl, hR⟩
     have HL4 := hideC (HL.out.keep k34)
     have HL5 := hideC (HL4.out.keep hR.below)
     have HR := hideC (fun W' (r : El.Rest _ w5 W') => (⟨_, _, rfl, HL4.out.free (El.RwcAt.free' hR) r⟩ : GridR 6 6 JM k [.slice (some ⟨L', 0, none⟩) 6 cm'] W'))
     clear C3 gu c1'' hR HL k34 HL4
     go_wp2_with (at_builtin; refine El.push (by rfl) (.tmp 79) (.tmp 81) 77 23 1 24 (.slice none 0 0) (by rfl) Tryz.underlying77 infoG rfl (by decide) (by decide) w2.heap.size w2 _ k (GridR 6 6 JM) (by rfl) HL5.out (by omega) [.slice (some ⟨L', 0, none⟩) 6 cm'] rfl (one1 _ _ _) HR.out (by rfl) ?_)
     intro v' w' hL'
     cases T <;> cases o1 <;> cases o2
     all_goals go_wp2
     all_goals go_roundw
     all_goals first
      | (simp [intOf]; omega)
      | exact ⟨k + 1, by omega, by go_num, by rw [S1.out]; first | rfl | simp, hL'⟩
    ·obtain rfl : n = k := by omega
     obtain ⟨mg, mcap, S, rfl, m1, m2, m3, m4, m5, _⟩ := hL.at h1
     have HMS : Hid (∀ i, i < n → ∃ lo cm, ws.cell? ⟨mg, i, none⟩ = some (.slice lo 6 cm) ∧ Grid ws lo 6 cm 6 (JM i)) := fun i hi => by
      obtain ⟨_, ⟨lo, cm, e1, hg⟩, hc⟩ := m5 i hi
      have := hc 0 (.slice lo 6 cm) (by rw [e1]; rfl)
      exact ⟨lo, cm, by simpa using this, hg⟩
     have B3 := below_tr B2 K2
     have r3 := CRow.keep r2 K2
     have FX3 := hideC (FX.out.keep K2)
     have ST2' := hideC (ST2.out)
     obtain ⟨T2, hT2⟩ : ∃ T, T = (bX0 || bK n) := ⟨_, rfl⟩
     rw [← hT2] at ST2' SJ
     rw [← hT2]
     clear hT2 ST2 hL m5 r2 B2 FX HSX ST1 ST0 HA HO HM HX HPl HCL K2
     go_wp2
     go_loopw [9, 18, 19] (fun an al r wo => ∃ k : Nat, k ≤ 6 ∧ r = .int .i64 (k : Int) ∧ an = .bool (T2 || anyb b4 k) ∧ Els 22 1 ws.heap.size ws wo al k (RowR 6 JA)) (fun _ _ r _ => 6 - (intOf r).toNat)
     case atStart => exact ⟨0, by omega, rfl, by show _ = Value.bool (T2 || false); rw [Bool.or_false], Els.nil (Below.refl _ _) (Nat.le_refl _) _ _ _⟩
     case round =>
      rename World => wo
      obtain ⟨r, hr, rfl, rfl, hL⟩ := hrel
      have S2 := hideC (ST2'.out r)
      obtain ⟨T, hT⟩ : ∃ T, T = (T2 || anyb b4 r) := ⟨_, rfl⟩
      by_cases h6 : r < 6
      ·have C2 := hideC (J2.out r)
       obtain ⟨o4, ho4⟩ : ∃ T, T = b4 r := ⟨_, rfl⟩
       rw [← hT, ← ho4] at S2
       rw [← ho4] at C2
       rw [← hT]
       clear hT ho4
       have r6 : (r : Int) < 6 := by omega
       go_wp2
       go_loopw [20, 21] (fun rs i wi => ∃ t : Nat, t ≤ n ∧ i = .int .i64 (t : Int) ∧ Els 22 1 wo.heap.size wo wi rs t (RowR 6 (fun k => JM k r))) (fun _ i _ => n - (intOf i).toNat)
       case atStart => exact ⟨0, by omega, rfl, Els.nil (Below.refl _ _) (Nat.le_refl _) _ _ _⟩
       case round =>
        rename World => wi
        obtain ⟨t, ht, rfl, hI⟩ := hrel
        by_cases htn : t < n
        ·obtain ⟨gl, gc, cg, hg⟩ := HMS.out t htn
         have cg' := keep_cell (below_tr hL.below hI.below) cg
         obtain ⟨A', C', hA', hz'⟩ := hg.keep hL.below
         obtain ⟨y, hy, hyc⟩ := hA'.get
         obtain rfl := hy (by omega)
         have l5 := hA'.le
         have l6 := hA'.cap
         have c1 := keep_cell hI.below (hyc r h6)
         have HR := hideC (fun W' (q : El.Rest _ wi W') => (⟨_, _, rfl, (hI.elder q).slN (hz' r h6)⟩ : RowR 6 (fun k => JM k r) t [.slice (A' r) 6 (C' r)] W'))
         have HI := hideC hI
         have tn : (t : Int) < n := by omega
         obtain ⟨u, hu⟩ : ∃ q, q = A' r := ⟨_, rfl⟩
         obtain ⟨cu, hcu⟩ : ∃ q, q = C' r := ⟨_, rfl⟩
         rw [← hu, ← hcu] at c1 HR
         clear hu hcu hI cg hg hA' hz' hy hyc
         go_wp2_with (at_builtin; refine El.push (by rfl) (.tmp 103) (.tmp 111) 23 22 1 24 (.slice none 0 0) (by rfl) Tryz.underlying23 infoSl rfl (by decide) (by decide) wo.heap.size wo _ t (RowR 6 (fun k => JM k r)) (by rfl) HI.out (by omega) [.slice u 6 cu] rfl (one1 _ _ _) HR.out (by rfl) ?_)
         intro v' w' hI'
         go_wp2
         go_roundw
         case rel => exact ⟨t + 1, by omega, by go_num, hI'⟩
         case measure => simp [intOf]; omega
        ·obtain rfl : n = t := by omega
         obtain ⟨rl, rm, rfl, hg⟩ := hI.grid
         have HLi := hideC (hL.keep hI.below)
         have C3 := hideC (C2.out rl rm wi hg (HS.out.keep (below_tr B3 (below_tr hL.below hI.below))))
         have HL := hideC hL
         clear hg hI C2 hL
         go_wp2_with fail
         refine (C3.out).mono ?_
         rintro e w6 ⟨co, cc, rfl, oc⟩
         have HL6 := hideC (HLi.out.keep oc.below)
         have HR := hideC (fun W' (q : El.Rest _ w6 W') => (⟨_, _, rfl, HLi.out.free (El.Own.free' oc) q⟩ : RowR 6 JA r [.slice co 6 cc] W'))
         clear C3 oc HLi HL
         go_wp2_with (at_builtin; refine El.push (by rfl) (.tmp 119) (.tmp 121) 23 22 1 24 (.slice none 0 0) (by rfl) Tryz.underlying23 infoSl rfl (by decide) (by decide) ws.heap.size ws _ r (RowR 6 JA) (by rfl) HL6.out (by omega) [.slice co 6 cc] rfl (one1 _ _ _) HR.out (by rfl) ?_)
         intro v' w' hL'
         cases T
         all_goals go_wp2
         all_goals go_roundw
         all_goals first
          | (simp [intOf]; omega)
          | exact ⟨r + 1, by omega, by go_num, by rw [S2.out]; first | rfl | simp, hL'⟩
      ·obtain rfl : r = 6 := by omega
       rw [← hT] at SJ
       rw [← hT]
       obtain ⟨al, am, rfl, hg⟩ := hL.grid
       have C2 := hideC (HE.out al am wo hg)
       have KL := hL.below
       have B4 := below_tr B3 KL
       have r4 := CRow.keep r3 KL
       have FX4 := hideC (FX3.out.keep KL)
       have ls := CRow.lt r4
       have lo' := KL.size
       clear hT S2 hg hL J2 HE HMS KL B3 r3 FX3
       go_wp2_with fail
       refine (C2.out).mono ?_
       rintro e w7 ⟨L, lm, G, Cc, rfl, hR⟩
       have R6 := hR.congr (F' := Pr.nD E 0) (fun i j _ _ => Pr.nD_zero E i j)
       have capL := hR.cap
       have capL2 := hR.cap2
       clear hR C2
       go_wp2
       go_loopw [26] (fun v wz => ∃ k : Nat, k ≤ 6 ∧ v = .int .i64 (k : Int) ∧ RwcAt wo.heap.size wo wz L lm G Cc 6 6 (Pr.nD E k)) (fun v _ => 6 - (intOf v).toNat)
       case atStart => exact ⟨0, by omega, rfl, R6⟩
       case round =>
        rename World => wz
        obtain ⟨k, hk, rfl, hO⟩ := hrel
        by_cases h : k < 6
        ·have l0 := hO.cellL h
         have a0 := hO.cell h h
         have fr := hO.free h k
         have s0 := hO.set h h 0
         have rm := hO.room k h
         rw [Pr.nD_at] at a0
         have k6' : (k : Int) < 6 := by omega
         obtain ⟨g0, hg0⟩ : ∃ g, g = G k := ⟨_, rfl⟩
         obtain ⟨ck, hck⟩ : ∃ c, c = Cc k := ⟨_, rfl⟩
         rw [← hg0] at l0 a0 fr s0
         rw [← hck] at l0 rm
         obtain ⟨r6, r7⟩ := rm
         by_cases hn : E k k < 0
         ·have s1 := s0.congr (fun i j _ _ => Pr.nD_put E k hn i j)
          obtain ⟨V, hV⟩ : ∃ V, V = E k k := ⟨_, rfl⟩
          rw [← hV] at a0 hn
          clear s0 hO hg0 hck hV
          go_wp2
          go_roundw
          case rel => exact ⟨k + 1, by omega, by go_num, s1⟩
          case measure => simp [intOf]; omega
         ·have s1 := hO.congr (fun i j _ _ => Pr.nD_skip E k hn i j)
          obtain ⟨V, hV⟩ : ∃ V, V = E k k := ⟨_, rfl⟩
          rw [← hV] at a0 hn
          clear s0 hO hg0 hck hV
          go_wp2
          go_roundw
          case rel => exact ⟨k + 1, by omega, by go_num, s1⟩
          case measure => simp [intOf]; omega
        ·obtain rfl : k = 6 := by omega
         have hZ := hO.congr (fun i j hi hj => HP.out i j hi)
         have rO := CRow.keep r4 hO.below
         have bO := St.below_row (below_tr B4 hO.below) (Nat.le_refl w.heap.size) [.slice xo 6 xc, .slice (some ⟨L, 0, none⟩) 6 lm].toArray
         have FXz := (((FX4.out.keep hO.below).row (g := w.heap.size) (by omega) [.slice xo 6 xc, .slice (some ⟨L, 0, none⟩) 6 lm].toArray).less (B' := w.heap.size) (by omega)).and (((El.RwcAt.free' hZ).row (g := w.heap.size) (by omega) [.slice xo 6 xc, .slice (some ⟨L, 0, none⟩) 6 lm].toArray).less (B' := w.heap.size) (by omega))
         have rR := CRow.row rO [.slice xo 6 xc, .slice (some ⟨L, 0, none⟩) 6 lm]
         have HF := hideC FXz
         clear hO hZ FX4 FXz
         cases T
         all_goals go_wp2_with (first
          | (refine St.wpList_store Pr.isRs (by rfl) _ _ (by rfl) _ [.slice none 0 0, .slice none 0 0] [.slice xo 6 xc, .slice (some ⟨L, 0, none⟩) 6 lm] (by rfl) (by rfl) (by with_reducible exact rO) rfl rfl (one2s _ _ _ _ _ _) ?_)
          | fail)
         all_goals exact bodyPost_ret (results_2 Pr.isRs Tryz.results18 _ _ w.heap.size [.slice xo 6 xc, .slice (some ⟨L, 0, none⟩) 6 lm] rfl rR rfl) rfl ⟨_, _, _, _, by rw [SJ.out]; rfl, bO, HF.out⟩
end Go.Proofs.YtoglokgkgonmdaaGreatDoor
namespace Go.Proofs.YtoglokgkgonmdaaGreatDoor
open Go.RowKit Vc St Mt Dt Cn Mx El
attribute [local go_sem ↓] Go.wp_at_zero Go.wp_at_succ
namespace Mx
theorem hideD {p : Prop} (h : p) : Hid p := h
theorem results_tmp4 {fn : Func} {t u v q : Tmp} (h : fn.results = #[.tmp t, .tmp u, .tmp v, .tmp q]) (tmps : Array Value) (P : Program) (w : World) :
    (results fn tmps).run P w = .ok (.tuple #[tmps.getD t undef, tmps.getD u undef, tmps.getD v undef, tmps.getD q undef]) w := by
  simp [results, h]
theorem els_dst {t : TypeId} {B : Nat} {w0 w : World} {v : Value} {n : Nat} {X : Nat → Nat → Int} {P : Nat → Nat → Nat → Int} (h : Els t 2 B w0 w v n (StR X P)) :
  ∃ lo cm, ∃ (A pl : Nat → Option Addr) (C pc : Nat → Nat), v = .slice lo n cm ∧ Dst w lo n cm (fun k => .slice (A k) 6 (C k)) (fun k => .slice (pl k) 6 (pc k)) ∧ ∀ k, k < n → Sl w (A k) 6 (C k) (X k) ∧ Grid w (pl k) 6 (pc k) 6 (P k) := by
 rcases Nat.eq_zero_or_pos n with e | e
 ·subst e
  obtain ⟨ao, ca, rfl, h1, h2⟩ := h.form
  exact ⟨ao, ca, fun _ => none, fun _ => none, fun _ => 0, fun _ => 0, rfl, ⟨h1, h2, fun j hj => by omega⟩, fun k hk => by omega⟩
 ·obtain ⟨g, cap, S, rfl, h1, h2, _, _, h3, _⟩ := h.at e
  have key : ∀ k, k < n → ∃ y : Option Addr × Nat × Option Addr × Nat, S k = [.slice y.1 6 y.2.1, .slice y.2.2.1 6 y.2.2.2] ∧ Sl w y.1 6 y.2.1 (X k) ∧ Grid w y.2.2.1 6 y.2.2.2 6 (P k) := fun k hk => by
   obtain ⟨a, c, l, m, e1, e2, e3⟩ := (h3 k hk).2.1
   exact ⟨(a, c, l, m), e1, e2, e3⟩
  refine ⟨some ⟨g, 0, none⟩, cap, fun k => if h : k < n then (key k h).choose.1 else none, fun k => if h : k < n then (key k h).choose.2.2.1 else none, fun k => if h : k < n then (key k h).choose.2.1 else 0, fun k => if h : k < n then (key k h).choose.2.2.2 else 0, rfl, ⟨h1, h2, fun k hk => ⟨_, rfl, ?_⟩⟩, fun k hk => ?_⟩
  ·have e1 := (key k hk).choose_spec.1
   simp only [dif_pos hk]
   refine ⟨?_, ?_⟩
   ·have := (h3 k hk).2.2 0 _ (by rw [e1]; rfl)
    rw [Addr.add_lit, Nat.zero_add]
    exact this
   ·have := (h3 k hk).2.2 1 _ (by rw [e1]; rfl)
    rw [Addr.add_lit, Addr.add_lit, Nat.zero_add]
    exact this
  ·simp only [dif_pos hk]
   exact (key k hk).choose_spec.2
def AllR (w w' : World) (n : Nat) (c : Nat → Int) (R : Nat → Nat → Int) (X : Nat → Nat → Int) (P : Nat → Nat → Nat → Int) (vo : Option Addr) (vm : Nat) (no : Option Addr) (nc : Nat) : Prop :=
  (∃ (A pl : Nat → Option Addr) (C pc : Nat → Nat), Dst w' vo n vm (fun k => .slice (A k) 6 (C k)) (fun k => .slice (pl k) 6 (pc k)) ∧ ∀ k, k < n → Sl w' (A k) 6 (C k) (jX n (shr n c R k) X) ∧ Grid w' (pl k) 6 (pc k) 6 (jP n (shr n c R k) X P)) ∧
    Sl w' no n nc (sh 1073741824 (mxw n c R) n) ∧ Below w.heap.size w w'
end Mx
set_option maxRecDepth 20000 in
set_option maxHeartbeats 2000000 in
theorem dall15_no (lo ho ro : Option Addr) (n cm nh hc m rm : Nat) (c : Nat → Int) (Ar : Nat → Option Addr) (Lr Cr : Nat → Nat) (R : Nat → Nat → Int) (b : Bool) (w : World) (hs : Sl w ho nh hc c) (bc : B64 c) (hr : Sls w ro m rm Ar Lr Cr) (hrr : ∀ i, i < m → Sl w (Ar i) (Lr i) (Cr i) (R i)) (bR : ∀ i, B64 (R i))
  (hM : ∀ W, Below w.heap.size w W → Calls Tryz.prog 17 #[.slice lo n cm, .slice ho nh hc] W fun e w' => e = .returned (.bool b) ∧ Below W.heap.size W w') (hno : ¬ (b = true ∧ MayX nh c m Lr R)) :
  Calls Tryz.prog 15 #[.slice lo n cm, .slice ho nh hc, .slice ro m rm] w fun e w' => e = .returned (.tuple #[.slice none 0 0, .slice none 0 0, .bool false, .int .i64 1]) ∧ Below w.heap.size w w' := by
 have HD := hideD (dmix14_any ho ro nh hc m rm c Ar Lr Cr R w hs bc hr hrr bR)
 have HM := hideD hM
 have HN := hideD hno
 clear hs bc hr hrr bR hM hno
 go_enter Tryz.func15, Tryz.ntmps15
 go_wp2_with fail
 refine (HD.out).mono ?_
 rintro e w1 ⟨v, er, rfl, ⟨_, rfl, rfl, k1⟩ | ⟨q, rfl, ow⟩⟩
 ·have C1 := hideD (HM.out _ k1)
  clear HM HD
  go_wp2_with fail
  refine (C1.out).mono ?_
  rintro e w2 ⟨rfl, k2⟩
  cases b
  all_goals go_wp2
  all_goals refine bodyPost_ret (results_tmp4 rfl _ _ _) rfl ?_
  all_goals exact ⟨rfl, below_tr k1 k2⟩
 ·have k1 := ow.below
  have C1 := hideD (HM.out _ k1)
  have hb : b = false := by
   cases b
   ·rfl
   ·exact absurd ⟨rfl, q⟩ HN.out
  subst hb
  obtain ⟨no, nc, rfl, _⟩ := ow.sl
  clear HM HD HN ow q
  go_wp2_with fail
  refine (C1.out).mono ?_
  rintro e w2 ⟨rfl, k2⟩
  go_wp2
  refine bodyPost_ret (results_tmp4 rfl _ _ _) rfl ?_
  exact ⟨rfl, below_tr k1 k2⟩
set_option maxRecDepth 20000 in
set_option maxHeartbeats 4000000 in
theorem dall15_yes (lo ho ro : Option Addr) (n cm hc m rm : Nat) (A pl : Nat → Option Addr) (C pc : Nat → Nat) (X : Nat → Nat → Int) (P : Nat → Nat → Nat → Int) (c : Nat → Int) (Ar : Nat → Option Addr) (Lr Cr : Nat → Nat) (R : Nat → Nat → Int) (w : World)
  (hl : Dst w lo n cm (fun k => .slice (A k) 6 (C k)) (fun k => .slice (pl k) 6 (pc k))) (hX : ∀ k, k < n → Sl w (A k) 6 (C k) (X k)) (hP : ∀ k, k < n → Grid w (pl k) 6 (pc k) 6 (P k)) (hs : Sl w ho n hc c)
  (bX : ∀ k, B64 (X k)) (bP : ∀ k, B2 (P k)) (bc : B64 c) (hr : Sls w ro m rm Ar Lr Cr) (hrr : ∀ i, i < m → Sl w (Ar i) (Lr i) (Cr i) (R i)) (bR : ∀ i, B64 (R i))
  (hM : ∀ W, Below w.heap.size w W → Calls Tryz.prog 17 #[.slice lo n cm, .slice ho n hc] W fun e w' => e = .returned (.bool true) ∧ Below W.heap.size W w') (hm : MayX n c m Lr R) :
  Calls Tryz.prog 15 #[.slice lo n cm, .slice ho n hc, .slice ro m rm] w fun e w' => ∃ vo vm no nc, e = .returned (.tuple #[.slice vo n vm, .slice no n nc, .bool (aO n c R X P), .int .i64 0]) ∧ AllR w w' n c R X P vo vm no nc := by
 have HD := hideD (dmix14_any ho ro n hc m rm c Ar Lr Cr R w hs bc hr hrr bR)
 have HM := hideD hM
 have n1 := hm.ch.one
 have n4 := hm.ch.four
 have l1 := hl.le
 have l2 := hl.cap
 have l3 := hs.le
 have l4 := hs.cap
 have HSh := hideD (fun W (k : Below w.heap.size w W) t (ht : t < n) => dshares15_any ho ro n hc m rm c Ar Lr Cr R (t : Int) W (hs.keep k) bc (hr.keep k) (fun i hi => (hrr i hi).keep k) bR (by omega) (by omega))
 have HJ := hideD (fun W (k : Below w.heap.size w W) t (ht : t < n) so sc (h : Sl W so n sc (shr n c R t)) => djoin15_any lo so n cm sc A pl C pc X P (shr n c R t) W (hl.keep k) (fun k' hk => (hX k' hk).keep k) (fun k' hk => (hP k' hk).keep k) h bX bP (shr_b64 hm ht) (by omega) n4)
 have HX := hideD hm
 have HAO : Hid (aO n c R X P = anyb (fun t => jO n (shr n c R t) X P) n) := rfl
 obtain ⟨ao, hao⟩ : ∃ b, b = aO n c R X P := ⟨_, rfl⟩
 rw [← hao] at HAO ⊢
 obtain ⟨JO, hJO⟩ : ∃ f : Nat → Bool, f = fun t => jO n (shr n c R t) X P := ⟨_, rfl⟩
 have HJ' : Hid (∀ W, Below w.heap.size w W → ∀ t, t < n → ∀ so sc, Sl W so n sc (shr n c R t) → Calls Tryz.prog 18 #[.slice lo n cm, .slice so n sc] W fun e w' => ∃ xo xc po pm, e = .returned (.tuple #[.agg #[.slice xo 6 xc, .slice po 6 pm], .bool (JO t)]) ∧ JoinR W w' (jX n (shr n c R t) X) (jP n (shr n c R t) X P) xo xc po pm) := by
  rw [hJO]; exact HJ.out
 rw [← hJO] at HAO
 clear hao hJO HJ hl hX hP hs bX bP bc hr hrr bR hM hm
 go_enter Tryz.func15, Tryz.ntmps15
 go_wp2_with fail
 refine (HD.out).mono ?_
 rintro e w1 ⟨v, er, rfl, ⟨q, _⟩ | ⟨_, rfl, ow⟩⟩
 ·exact absurd HX.out q
 obtain ⟨no, nc, rfl, sn⟩ := ow.sl
 have k1 := ow.below
 have C1 := hideD (HM.out _ k1)
 clear HM HD ow
 go_wp2_with fail
 refine (C1.out).mono ?_
 rintro e w2 ⟨rfl, k2⟩
 have HS2 := hideD (sn.keep k2)
 have B2 := below_tr k1 k2
 clear C1 k1 k2 sn
 go_wp2
 go_loopw [12, 13, 14] (fun out an i ws => ∃ k : Nat, k ≤ n ∧ i = .int .i64 (k : Int) ∧ an = .bool (anyb JO k) ∧ Els 54 2 w2.heap.size w2 ws out k (StR (fun t => jX n (shr n c R t) X) (fun t => jP n (shr n c R t) X P))) (fun _ _ i _ => n - (intOf i).toNat)
 case atStart => exact ⟨0, by omega, rfl, rfl, Els.nil (Below.refl _ _) (Nat.le_refl _) _ _ _⟩
 case round =>
  rename World => ws
  obtain ⟨k, hk, rfl, rfl, hL⟩ := hrel
  have KB := below_tr B2 hL.below
  by_cases hkn : k < n
  ·have S1 : Hid (anyb JO (k + 1) = (anyb JO k || JO k)) := rfl
   have C1 := hideD (HSh.out ws KB k hkn)
   have C2 := hideD (fun W (q : Below ws.heap.size ws W) => HJ'.out W (below_tr KB q) k hkn)
   obtain ⟨T, hT⟩ : ∃ T, T = anyb JO k := ⟨_, rfl⟩
   obtain ⟨o, ho'⟩ : ∃ T, T = JO k := ⟨_, rfl⟩
   rw [← hT, ← ho'] at S1
   rw [← ho'] at C2
   rw [← hT]
   have HL := hideD hL
   have kn : (k : Int) < n := by omega
   clear hT ho' hL KB
   go_wp2_with fail
   refine (C1.out).mono ?_
   rintro e w3 ⟨v, er, rfl, ⟨q, _⟩ | ⟨_, _, _, rfl, ow⟩⟩
   ·exact absurd ⟨HX.out, by omega, by omega⟩ q
   rw [Int.toNat_natCast] at ow
   obtain ⟨so, sc, rfl, ss⟩ := ow.sl
   have k3 := ow.below
   have HL3 := hideD (HL.out.keep k3)
   have C3 := hideD (C2.out w3 k3 so sc ss)
   clear C1 C2 ow ss HL
   go_wp2_with fail
   refine (C3.out).mono ?_
   rintro e w4 ⟨xo, xc, po, pm, rfl, hB, hF⟩
   have HF := hideD hF
   clear C3 hF
   go_wp2_with (first
    | ((with_reducible show wpList _ _ _ _ _ _); refine St.wpList_storeNew Pr.isRs rfl _ _ (by rfl) _ [.slice none 0 0, .slice none 0 0] [.slice xo 6 xc, .slice po 6 pm] (by rfl) (by rfl) rfl rfl (one2s _ _ _ _ _ _) ?_)
    | fail)
   intro w5 r5 k5
   have HL5 := hideD (HL3.out.keep (below_tr hB k5))
   have HR := hideD (fun W' (q : El.Rest _ w5 W') => (⟨_, _, _, _, rfl, HL3.out.free (HF.out.keep k5) q⟩ : StR (fun t => jX n (shr n c R t) X) (fun t => jP n (shr n c R t) X P) k [.slice xo 6 xc, .slice po 6 pm] W'))
   clear HL3 HF hB k5
   go_wp2_with (first
    | ((with_reducible show wpList _ _ _ _ _ _); refine St.wpList_load Pr.isRs (by rfl) _ (by rfl) _ _ (by rfl) (by with_reducible exact r5) rfl ?_)
    | (at_builtin; refine El.push (by rfl) (.tmp 52) (.tmp 54) 35 54 2 48 (.agg #[.slice none 0 0, .slice none 0 0]) (by rfl) Tryz.underlying35 infoS2 rfl (by decide) (by decide) w2.heap.size w2 _ k _ (by rfl) HL5.out (by omega) [.slice xo 6 xc, .slice po 6 pm] rfl (one2s _ _ _ _ _ _) HR.out (by rfl) ?_)
    | fail)
   intro v' w' hL'
   cases T
   all_goals go_wp2
   all_goals go_roundw
   all_goals first
    | (simp [intOf]; omega)
    | exact ⟨k + 1, by omega, by go_num, by rw [S1.out]; first | rfl | simp, hL'⟩
  ·obtain rfl : n = k := by omega
   obtain ⟨vo, vm, A', pl', C', pc', rfl, hD, hE⟩ := els_dst hL
   have HR := hideD (⟨⟨A', pl', C', pc', hD, hE⟩, HS2.out.keep hL.below, KB⟩ : AllR w ws n c R X P vo vm no nc)
   rw [← HAO.out]
   clear hD hE hL KB HS2
   go_wp2
   refine bodyPost_ret (results_tmp4 rfl _ _ _) rfl ?_
   exact ⟨_, _, _, _, rfl, HR.out⟩
end Go.Proofs.YtoglokgkgonmdaaGreatDoor
