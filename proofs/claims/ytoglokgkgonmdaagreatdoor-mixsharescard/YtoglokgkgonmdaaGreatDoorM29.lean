/-
  The document's answer of layer 14 (radomeref14): Mix.
-/
import Derived.Test.YtoglokgkgonmdaaGreatDoorM28
import Derived.Test.YtoglokgkgonmdaaGreatDoorM8
import Derived.Test.YtoglokgkgonmdaaGreatDoorRegU
import Derived.Deep.AppendLies
import Derived.Deep.RegionHeld3
set_option linter.unusedSimpArgs false
set_option linter.unusedVariables false
namespace Go.Proofs.YtoglokgkgonmdaaGreatDoor
open Go.RowKit Dec Nv Vc St Ld Nu Cn
attribute [local go_sem ↓] Go.wp_at_zero Go.wp_at_succ
namespace Nu
theorem stepN {ops : Array Oper} {o : Oper} {a : Act} {w : World} {K : Act → World → Prop} {Q : Exit → Act → World → Prop} {E : Prop} (hw : Region.wanted o (yielded ops a.tmps) = true) (x y : Operand) (ho : o.op = .store 94 x y)
    (g j : Nat) (s : Bool) (p : Option Addr) (l c : Nat) (hx : a.eval x = .pointer (some ⟨g, j, none⟩)) (hy : a.eval y = .agg #[.bool s, .slice p l c]) (ht : w.there g j 2)
    (h : K (a.put o.dst undef) (w.setCells g j [.bool s, .slice p l c])) : if Region.wanted o (yielded ops a.tmps) = true then Oper.wp Tryz.prog o a w K Q else E := by
  rw [if_pos hw]
  exact wp_store_mid _ x y ho g j #[.bool s, .slice p l c] hx hy ht (by rw [isNum.size]; rfl) (by simp [Value.oneCell']) h
end Nu

/-- What Mix answers. -/
def MixR (w w' : World) (n : Nat) (z : Nat → Int) (m : Nat) (L : Nat → Nat) (R : Nat → Nat → Int) (v : Value) (er : Int) : Prop :=
  (¬ MayX n z m L R ∧ v = .slice none 0 0 ∧ er = 1 ∧ Below w.heap.size w w') ∨ (MayX n z m L R ∧ er = 0 ∧ Own w.heap.size w w' v n (sh 1073741824 (mxw n z R) n))

set_option maxRecDepth 20000 in
set_option maxHeartbeats 4000000 in
theorem dmix14_any (ao lo : Option Addr) (n ca m cm : Nat) (z : Nat → Int) (A : Nat → Option Addr) (L C : Nat → Nat) (R : Nat → Nat → Int) (w : World) (hs : Sl w ao n ca z) (hz : B64 z) (hl : Sls w lo m cm A L C)
    (hr : ∀ i, i < m → Sl w (A i) (L i) (C i) (R i)) (hR : ∀ i, B64 (R i)) :
    Calls Tryz.prog 23 #[.slice ao n ca, .slice lo m cm] w fun e w' => ∃ v er, e = .returned (.tuple #[v, .int .i64 er]) ∧ MixR w w' n z m L R v er := by
  have HS := hide hs
  have l1 := hs.le
  have l2 := hs.cap
  have l3 := hl.le
  have l4 := hl.cap
  have HCk : Hid (∀ W, Below w.heap.size w W → ∀ b : Bool, (b = true ↔ Ch n z 0) → Calls Tryz.prog 9 #[.slice ao n ca, .int .i64 0] W fun e w' => e = .returned (.bool b) ∧ Below W.heap.size W w') := fun W k b hb => dcheck14_any ao n ca z 0 W (hs.keep k) hz b hb (by omega) (by omega)
  have HCr : Hid (∀ W, Below w.heap.size w W → ∀ i, i < m → ∀ b : Bool, (b = true ↔ Ch (L i) (R i) 0) → Calls Tryz.prog 9 #[.slice (A i) (L i) (C i), .int .i64 0] W fun e w' => e = .returned (.bool b) ∧ Below W.heap.size W w') := fun W k i hi b hb => dcheck14_any (A i) (L i) (C i) (R i) 0 W ((hr i hi).keep k) (hR i) b hb (by omega) (by omega)
  obtain ⟨xl, hlo, hlc⟩ := hl.get
  have HLC := hide hlc
  have HLO := hide hlo
  have HR := hide hr
  have HRB := hide hR
  have HZ := hide hz
  clear hs hz hl hr hR hlc hlo
  by_cases hc : Ch n z 0
  · have hn1 := hc.one
    have hn4 := hc.four
    have HCH := hide hc
    have D0 := hide (HCk.out w (Below.refl _ _) true ⟨fun _ => hc, fun _ => rfl⟩)
    clear HCk hc
    by_cases hm : m = n
    · subst hm
      obtain rfl := HLO.out (by omega)
      obtain ⟨i0, hi0, hz0, hz1, hz2⟩ := info2
      go_enter Tryz.func23, Tryz.ntmps23
      go_wp2_with fail
      refine (D0.out).mono ?_
      rintro e w1 ⟨rfl, k1⟩
      go_wp2_with (first
        | (refine wpList_make_full _ rfl _ _ _ (by rfl) w.heap.size 94 i0 (.agg #[.bool false, .slice none 0 0]) 2 Tryz.underlying91 hi0 hz0 hz1 .i64 .i64 _ _ m (by rfl) (by rfl) (by rfl) (by rfl) (by rw [hz2]; omega) (by unfold maxLen; omega) k1.size ?_; intro w2 o2 g2)
        | fail)
      have N2 := nls_made o2 (k1.grown g2 k1.size (fun k hk => by cases hk)) (Nat.le_trans k1.size g2.size)
      have HN2 := hide N2
      obtain ⟨gw, hgw⟩ : ∃ q, q = w1.heap.size := ⟨_, rfl⟩
      rw [← hgw] at HN2 ⊢
      clear N2 o2 g2 hgw k1 hi0 hz0 hz1 hz2
      go_loopw [7] (fun i wr => ∃ k : Nat, k ≤ m ∧ i = .int .i64 (k : Int) ∧ (∀ q, q < k → L q = m ∧ Ch m (R q) 0) ∧ Nls w.heap.size w wr (.slice (some ⟨gw, 0, none⟩) m m) m (fun j => tot (fun q => z q * R q j) k)) (fun i _ => m - (intOf i).toNat)
      case atStart => exact ⟨0, by omega, rfl, fun q hq => by omega, HN2.out⟩
      case round =>
        rename World => wr
        obtain ⟨k, hk, rfl, hrw, hN⟩ := hrel
        by_cases h : k < m
        · have ck := keep_cell hN.below (HLC.out k h)
          have HK := hide (HCr.out wr hN.below k h)
          have kn : (k : Int) < m := by omega
          have rl1 := (HR.out k h).le
          have rl2 := (HR.out k h).cap
          have HRW := hide hrw
          have HN := hide hN
          clear hrw hN
          by_cases e1 : L k = m
          · by_cases e2 : Ch (L k) (R k) 0
            · have HKy := hide (HK.out true ⟨fun _ => e2, fun _ => rfl⟩)
              have HE2 : Hid (Ch m (R k) 0) := by show Ch m (R k) 0; rw [← e1]; exact e2
              have HRK : Hid (Sl w (A k) m (C k) (R k)) := by show Sl w (A k) m (C k) (R k); rw [← e1]; exact HR.out k h
              rw [e1] at ck HKy rl1
              have HE1 := hide e1
              have ck0 : w.cell? (xl.add k) = some (.slice (A k) m (C k)) := by have q := HLC.out k h; rw [e1] at q; exact q
              clear HK e2 e1
              obtain ⟨Ak, hAk⟩ : ∃ q, q = A k := ⟨_, rfl⟩
              obtain ⟨Ck, hCk⟩ : ∃ q, q = C k := ⟨_, rfl⟩
              rw [← hAk, ← hCk] at ck HKy HRK ck0
              rw [← hCk] at rl1 rl2
              have ck3 := hide (fun V (b : Below w.heap.size w V) => keep_cell b ck0)
              clear hAk hCk ck0
              go_wp2_with fail
              refine (HKy.out).mono ?_
              rintro e w3 ⟨rfl, k3⟩
              have N3 := HN.out.keep k3
              have HN3 : Hid (Nls w.heap.size w w3 (.slice (some ⟨gw, 0, none⟩) m m) m (fun j => if j < 0 then tot (fun q => z q * R q j) (k + 1) else tot (fun q => z q * R q j) k)) := N3.congr (fun j hj => by rw [if_neg (by omega)])
              clear N3 ck HKy k3
              go_wp2
              go_loopw [8] (fun jv wq => ∃ j : Nat, j ≤ m ∧ jv = .int .i64 (j : Int) ∧ Nls w.heap.size w wq (.slice (some ⟨gw, 0, none⟩) m m) m (fun q => if q < j then tot (fun i => z i * R i q) (k + 1) else tot (fun i => z i * R i q) k)) (fun jv _ => m - (intOf jv).toNat)
              case atStart => exact ⟨0, by omega, rfl, HN3.out⟩
              case round =>
                rename World => wq
                obtain ⟨j, hj, rfl, hQ⟩ := hrel
                by_cases hjm : j < m
                · obtain ⟨_, _, ee, hat, _⟩ := hQ.at (by omega)
                  cases ee
                  obtain ⟨p, l, c, c0, c1, ei⟩ := hat.num j hjm
                  simp only [if_neg (Nat.lt_irrefl j)] at c0 ei
                  have B0 := hQ.below
                  obtain ⟨xa, hxa, dz⟩ := HS.out.get
                  obtain rfl := hxa (by omega)
                  have dz := keep_cell B0 (dz k h)
                  obtain ⟨xr, hxr, dr⟩ := HRK.out.get
                  obtain rfl := hxr (by omega)
                  have dr := keep_cell B0 (dr j hjm)
                  have dl := ck3.out _ B0
                  have hzk := HCH.out.nn h
                  have hrk := HE2.out.nn hjm
                  have htk := tot_le (a := fun i => z i * R i j) (M := 1152921504606846976) (n := k) (fun q hq => by
                    have a1 := HCH.out.nn (k := q) (by omega)
                    have a2 := (HRW.out q hq).2.nn hjm
                    exact ⟨Int.mul_nonneg a1.1 a2.1, Int.mul_le_mul a1.2 a2.2 a2.1 (by omega)⟩)
                  have hp0 : 0 ≤ z k * R k j := Int.mul_nonneg hzk.1 hrk.1
                  have hp1 : z k * R k j ≤ 1152921504606846976 := Int.mul_le_mul hzk.2 hrk.2 hrk.1 (by omega)
                  have HU : Hid (tot (fun i => z i * R i j) (k + 1) = tot (fun i => z i * R i j) k + z k * R k j) := rfl
                  obtain ⟨tk, htk2⟩ : ∃ q, q = tot (fun i => z i * R i j) k := ⟨_, rfl⟩
                  obtain ⟨zk, hzk2⟩ : ∃ q, q = z k := ⟨_, rfl⟩
                  obtain ⟨rk, hrk2⟩ : ∃ q, q = R k j := ⟨_, rfl⟩
                  rw [← htk2] at c0 ei htk HU
                  rw [← hzk2] at dz hzk hp0 hp1 HU
                  rw [← hrk2] at dr hrk hp0 hp1 HU
                  obtain ⟨s1, hs1⟩ : ∃ q, q = decide (tk < 0) := ⟨_, rfl⟩
                  rw [← hs1] at c0 ei
                  have HO1 := hide (fun W => of_any zk W (by omega) (by omega))
                  have HO2 := hide (fun W => of_any rk W (by omega) (by omega))
                  have HMu := hide (fun W va vb (h1 : IsNum W va zk) (h2 : IsNum W vb rk) => mul_any va vb zk rk W (len100 (by omega)) (len100 (by omega)) h1 h2)
                  have HAd := hide (fun W vb (h1 : IsNum W (.agg #[.bool s1, .slice p l c]) tk) (h2 : IsNum W vb (zk * rk)) => add_any _ vb tk (zk * rk) W (len100 (by omega)) (len100 (by omega)) h1 h2)
                  have HSS : Hid (∀ V, Below wq.heap.size wq V → (V.cell? ⟨gw, j * 2, none⟩ = some (.bool s1) ∧ V.cell? ⟨gw, j * 2 + 1, none⟩ = some (.slice p l c) ∧ V.cell? (xa.add k) = some (.int .i64 zk) ∧ V.cell? (xl.add k) = some (.slice (some xr) m Ck) ∧ V.cell? (xr.add j) = some (.int .i64 rk))) := fun V b => ⟨keep_cell b c0, keep_cell b c1, keep_cell b dz, keep_cell b dl, keep_cell b dr⟩
                  have hk1 : (j : Int) < m := by omega
                  have HQ := hide hQ
                  have EI := hide ei
                  clear hs1 htk2 hzk2 hrk2 c0 c1 dz dl dr hQ hat ei B0 hp0 hp1
                  go_upto_region 12 with fail
                  have D0 := Vc.below_drew' wq
                  refine Ru.wp_region_U [22] (fun w' => w'.cell? ⟨gw, j * 2, none⟩ = some (.bool s1) ∧ w'.cell? ⟨gw, j * 2 + 1, none⟩ = some (.slice p l c) ∧ w'.cell? (xa.add k) = some (.int .i64 zk) ∧ w'.cell? (xl.add k) = some (.slice (some xr) m Ck) ∧ w'.cell? (xr.add j) = some (.int .i64 rk)) (by kernel_rfl) (HSS.out _ D0) (fun hHeld => ?_)
                  refine Ru.wpAnyU_take (i := 0) (v := .slice (some ⟨gw, 0, none⟩) m m) rfl (by kernel_rfl) (by kernel_rfl) (by kernel_rfl) (by kernel_rfl) (by kernel_rfl) (by kernel_rfl) (fun _ _ _ h => h) (Or.inl ⟨by kernel_rfl, fun w hS => by obtain ⟨sc0, sc1, sc2, sc3, sc4⟩ := hS; go_simp⟩) hHeld ?_
                  simp only [Act.put, List.getElem_toArray, List.getElem_cons_zero, List.getElem_cons_succ, List.setIfInBounds_toArray, List.set_cons_zero, List.set_cons_succ]
                  refine Ru.wpAnyU_take (i := 1) (v := .int .i64 (j : Int)) rfl (by kernel_rfl) (by kernel_rfl) (by kernel_rfl) (by kernel_rfl) (by kernel_rfl) (by kernel_rfl) (fun _ _ _ h => h) (Or.inl ⟨by kernel_rfl, fun w hS => by obtain ⟨sc0, sc1, sc2, sc3, sc4⟩ := hS; go_simp⟩) hHeld ?_
                  simp only [Act.put, List.getElem_toArray, List.getElem_cons_zero, List.getElem_cons_succ, List.setIfInBounds_toArray, List.set_cons_zero, List.set_cons_succ]
                  refine Ru.wpAnyU_take (i := 2) (v := .slice (some ⟨gw, 0, none⟩) m m) rfl (by kernel_rfl) (by kernel_rfl) (by kernel_rfl) (by kernel_rfl) (by kernel_rfl) (by kernel_rfl) (fun _ _ _ h => h) (Or.inl ⟨by kernel_rfl, fun w hS => by obtain ⟨sc0, sc1, sc2, sc3, sc4⟩ := hS; go_simp⟩) hHeld ?_
                  simp only [Act.put, List.getElem_toArray, List.getElem_cons_zero, List.getElem_cons_succ, List.setIfInBounds_toArray, List.set_cons_zero, List.set_cons_succ]
                  refine Ru.wpAnyU_take (i := 3) (v := .int .i64 (j : Int)) rfl (by kernel_rfl) (by kernel_rfl) (by kernel_rfl) (by kernel_rfl) (by kernel_rfl) (by kernel_rfl) (fun _ _ _ h => h) (Or.inl ⟨by kernel_rfl, fun w hS => by obtain ⟨sc0, sc1, sc2, sc3, sc4⟩ := hS; go_simp⟩) hHeld ?_
                  simp only [Act.put, List.getElem_toArray, List.getElem_cons_zero, List.getElem_cons_succ, List.setIfInBounds_toArray, List.set_cons_zero, List.set_cons_succ]
                  refine Ru.wpAnyU_take (i := 4) (v := .pointer (some ⟨gw, j * 2, none⟩)) rfl (by kernel_rfl) (by kernel_rfl) (by kernel_rfl) (by kernel_rfl) (by kernel_rfl) (by kernel_rfl) (fun _ _ _ h => h) (Or.inl ⟨by kernel_rfl, fun w hS => by obtain ⟨sc0, sc1, sc2, sc3, sc4⟩ := hS; go_simp⟩) hHeld ?_
                  simp only [Act.put, List.getElem_toArray, List.getElem_cons_zero, List.getElem_cons_succ, List.setIfInBounds_toArray, List.set_cons_zero, List.set_cons_succ]
                  refine Ru.wpAnyU_take (i := 5) (v := .agg #[.bool s1, .slice p l c]) rfl (by kernel_rfl) (by kernel_rfl) (by kernel_rfl) (by kernel_rfl) (by kernel_rfl) (by kernel_rfl) (fun _ _ _ h => h) (Nu.yieldsN (by kernel_rfl) _ (by rfl) gw (j * 2) _ _ (by rfl) (fun w h => ⟨h.1, h.2.1⟩)) hHeld ?_
                  simp only [Act.put, List.getElem_toArray, List.getElem_cons_zero, List.getElem_cons_succ, List.setIfInBounds_toArray, List.set_cons_zero, List.set_cons_succ]
                  refine Ru.wpAnyU_take (i := 6) (v := .slice (some xa) m ca) rfl (by kernel_rfl) (by kernel_rfl) (by kernel_rfl) (by kernel_rfl) (by kernel_rfl) (by kernel_rfl) (fun _ _ _ h => h) (Or.inl ⟨by kernel_rfl, fun w hS => by obtain ⟨sc0, sc1, sc2, sc3, sc4⟩ := hS; go_simp⟩) hHeld ?_
                  simp only [Act.put, List.getElem_toArray, List.getElem_cons_zero, List.getElem_cons_succ, List.setIfInBounds_toArray, List.set_cons_zero, List.set_cons_succ]
                  refine Ru.wpAnyU_take (i := 7) (v := .int .i64 (k : Int)) rfl (by kernel_rfl) (by kernel_rfl) (by kernel_rfl) (by kernel_rfl) (by kernel_rfl) (by kernel_rfl) (fun _ _ _ h => h) (Or.inl ⟨by kernel_rfl, fun w hS => by obtain ⟨sc0, sc1, sc2, sc3, sc4⟩ := hS; go_simp⟩) hHeld ?_
                  simp only [Act.put, List.getElem_toArray, List.getElem_cons_zero, List.getElem_cons_succ, List.setIfInBounds_toArray, List.set_cons_zero, List.set_cons_succ]
                  refine Ru.wpAnyU_take (i := 8) (v := .pointer (some (xa.add k))) rfl (by kernel_rfl) (by kernel_rfl) (by kernel_rfl) (by kernel_rfl) (by kernel_rfl) (by kernel_rfl) (fun _ _ _ h => h) (Or.inl ⟨by kernel_rfl, fun w hS => by obtain ⟨sc0, sc1, sc2, sc3, sc4⟩ := hS; go_simp⟩) hHeld ?_
                  simp only [Act.put, List.getElem_toArray, List.getElem_cons_zero, List.getElem_cons_succ, List.setIfInBounds_toArray, List.set_cons_zero, List.set_cons_succ]
                  refine Ru.wpAnyU_take (i := 9) (v := .int .i64 zk) rfl (by kernel_rfl) (by kernel_rfl) (by kernel_rfl) (by kernel_rfl) (by kernel_rfl) (by kernel_rfl) (fun _ _ _ h => h) (Or.inl ⟨by kernel_rfl, fun w hS => by obtain ⟨sc0, sc1, sc2, sc3, sc4⟩ := hS; go_simp⟩) hHeld ?_
                  simp only [Act.put, List.getElem_toArray, List.getElem_cons_zero, List.getElem_cons_succ, List.setIfInBounds_toArray, List.set_cons_zero, List.set_cons_succ]
                  refine Ru.wpAnyU_take (i := 11) (v := .slice (some xl) m cm) rfl (by kernel_rfl) (by kernel_rfl) (by kernel_rfl) (by kernel_rfl) (by kernel_rfl) (by kernel_rfl) (fun _ _ _ h => h) (Or.inl ⟨by kernel_rfl, fun w hS => by obtain ⟨sc0, sc1, sc2, sc3, sc4⟩ := hS; go_simp⟩) hHeld ?_
                  simp only [Act.put, List.getElem_toArray, List.getElem_cons_zero, List.getElem_cons_succ, List.setIfInBounds_toArray, List.set_cons_zero, List.set_cons_succ]
                  refine Ru.wpAnyU_take (i := 12) (v := .int .i64 (k : Int)) rfl (by kernel_rfl) (by kernel_rfl) (by kernel_rfl) (by kernel_rfl) (by kernel_rfl) (by kernel_rfl) (fun _ _ _ h => h) (Or.inl ⟨by kernel_rfl, fun w hS => by obtain ⟨sc0, sc1, sc2, sc3, sc4⟩ := hS; go_simp⟩) hHeld ?_
                  simp only [Act.put, List.getElem_toArray, List.getElem_cons_zero, List.getElem_cons_succ, List.setIfInBounds_toArray, List.set_cons_zero, List.set_cons_succ]
                  refine Ru.wpAnyU_take (i := 13) (v := .pointer (some (xl.add k))) rfl (by kernel_rfl) (by kernel_rfl) (by kernel_rfl) (by kernel_rfl) (by kernel_rfl) (by kernel_rfl) (fun _ _ _ h => h) (Or.inl ⟨by kernel_rfl, fun w hS => by obtain ⟨sc0, sc1, sc2, sc3, sc4⟩ := hS; go_simp⟩) hHeld ?_
                  simp only [Act.put, List.getElem_toArray, List.getElem_cons_zero, List.getElem_cons_succ, List.setIfInBounds_toArray, List.set_cons_zero, List.set_cons_succ]
                  refine Ru.wpAnyU_take (i := 14) (v := .slice (some xr) m Ck) rfl (by kernel_rfl) (by kernel_rfl) (by kernel_rfl) (by kernel_rfl) (by kernel_rfl) (by kernel_rfl) (fun _ _ _ h => h) (Or.inl ⟨by kernel_rfl, fun w hS => by obtain ⟨sc0, sc1, sc2, sc3, sc4⟩ := hS; go_simp⟩) hHeld ?_
                  simp only [Act.put, List.getElem_toArray, List.getElem_cons_zero, List.getElem_cons_succ, List.setIfInBounds_toArray, List.set_cons_zero, List.set_cons_succ]
                  refine Ru.wpAnyU_take (i := 15) (v := .int .i64 (j : Int)) rfl (by kernel_rfl) (by kernel_rfl) (by kernel_rfl) (by kernel_rfl) (by kernel_rfl) (by kernel_rfl) (fun _ _ _ h => h) (Or.inl ⟨by kernel_rfl, fun w hS => by obtain ⟨sc0, sc1, sc2, sc3, sc4⟩ := hS; go_simp⟩) hHeld ?_
                  simp only [Act.put, List.getElem_toArray, List.getElem_cons_zero, List.getElem_cons_succ, List.setIfInBounds_toArray, List.set_cons_zero, List.set_cons_succ]
                  refine Ru.wpAnyU_take (i := 16) (v := .pointer (some (xr.add j))) rfl (by kernel_rfl) (by kernel_rfl) (by kernel_rfl) (by kernel_rfl) (by kernel_rfl) (by kernel_rfl) (fun _ _ _ h => h) (Or.inl ⟨by kernel_rfl, fun w hS => by obtain ⟨sc0, sc1, sc2, sc3, sc4⟩ := hS; go_simp⟩) hHeld ?_
                  simp only [Act.put, List.getElem_toArray, List.getElem_cons_zero, List.getElem_cons_succ, List.setIfInBounds_toArray, List.set_cons_zero, List.set_cons_succ]
                  refine Ru.wpAnyU_take (i := 17) (v := .int .i64 rk) rfl (by kernel_rfl) (by kernel_rfl) (by kernel_rfl) (by kernel_rfl) (by kernel_rfl) (by kernel_rfl) (fun _ _ _ h => h) (Or.inl ⟨by kernel_rfl, fun w hS => by obtain ⟨sc0, sc1, sc2, sc3, sc4⟩ := hS; go_simp⟩) hHeld ?_
                  simp only [Act.put, List.getElem_toArray, List.getElem_cons_zero, List.getElem_cons_succ, List.setIfInBounds_toArray, List.set_cons_zero, List.set_cons_succ]
                  refine Ru.wpAnyU_ready (rs := [10]) (by kernel_rfl) (by simp) ?_
                  refine Ru.AllReadyU.cons rfl (by kernel_rfl) (fun K hK => ?_) Ru.AllReadyU.nil
                  go_simp
                  refine (HO1.out _).mono ?_
                  rintro e x1 ⟨va, rfl, ia, kx1⟩
                  have D1 := below_tr D0 kx1
                  go_wp2_with fail
                  refine hK.out _ _ (HSS.out _ D1) (fun hHeld => ?_)
                  clear hK K
                  try simp only [Act.put, List.getElem_toArray, List.getElem_cons_zero, List.getElem_cons_succ, List.setIfInBounds_toArray, List.set_cons_zero, List.set_cons_succ]
                  refine Ru.wpAnyU_ready (rs := [18]) (by kernel_rfl) (by simp) ?_
                  refine Ru.AllReadyU.cons rfl (by kernel_rfl) (fun K hK => ?_) Ru.AllReadyU.nil
                  go_simp
                  refine (HO2.out _).mono ?_
                  rintro e x2 ⟨vb, rfl, ib, kx2⟩
                  have D2 := below_tr D1 kx2
                  have ia2 := ia.below kx2
                  go_wp2_with fail
                  refine hK.out _ _ (HSS.out _ D2) (fun hHeld => ?_)
                  clear hK K
                  try simp only [Act.put, List.getElem_toArray, List.getElem_cons_zero, List.getElem_cons_succ, List.setIfInBounds_toArray, List.set_cons_zero, List.set_cons_succ]
                  refine Ru.wpAnyU_ready (rs := [19]) (by kernel_rfl) (by simp) ?_
                  refine Ru.AllReadyU.cons rfl (by kernel_rfl) (fun K hK => ?_) Ru.AllReadyU.nil
                  go_simp
                  refine (HMu.out _ _ _ ia2 ib).mono ?_
                  rintro e x3 ⟨vc, rfl, ic, kx3⟩
                  have D3 := below_tr D2 kx3
                  go_wp2_with fail
                  refine hK.out _ _ (HSS.out _ D3) (fun hHeld => ?_)
                  clear hK K
                  try simp only [Act.put, List.getElem_toArray, List.getElem_cons_zero, List.getElem_cons_succ, List.setIfInBounds_toArray, List.set_cons_zero, List.set_cons_succ]
                  refine Ru.wpAnyU_ready (rs := [20]) (by kernel_rfl) (by simp) ?_
                  refine Ru.AllReadyU.cons rfl (by kernel_rfl) (fun K hK => ?_) Ru.AllReadyU.nil
                  go_simp
                  refine (HAd.out _ _ (EI.out.below D3) ic).mono ?_
                  rintro e x4 ⟨vd, rfl, id', kx4⟩
                  have D4 := below_tr D3 kx4
                  go_wp2_with fail
                  refine hK.out _ _ (HSS.out _ D4) (fun hHeld => ?_)
                  clear hK K
                  try simp only [Act.put, List.getElem_toArray, List.getElem_cons_zero, List.getElem_cons_succ, List.setIfInBounds_toArray, List.set_cons_zero, List.set_cons_succ]
                  refine Ru.wpAnyU_take (i := 21) (v := .pointer (some ⟨gw, j * 2, none⟩)) rfl (by kernel_rfl) (by kernel_rfl) (by kernel_rfl) (by kernel_rfl) (by kernel_rfl) (by kernel_rfl) (fun _ _ _ h => h) (Or.inl ⟨by kernel_rfl, fun w hS => by obtain ⟨sc0, sc1, sc2, sc3, sc4⟩ := hS; go_simp⟩) hHeld ?_
                  simp only [Act.put, List.getElem_toArray, List.getElem_cons_zero, List.getElem_cons_succ, List.setIfInBounds_toArray, List.set_cons_zero, List.set_cons_succ]
                  obtain ⟨q1, q2, q3, rfl⟩ := id'.form
                  have N4 := HQ.out.keep D4
                  refine Ru.wpAnyU_ready (rs := [22]) (by kernel_rfl) (by simp) ?_
                  refine Ru.AllReadyU.cons2 rfl (by kernel_rfl) (fun K hK => ?_) Ru.AllReadyU.nil
                  refine Nu.stepN (by kernel_rfl) _ _ (by rfl) gw (j * 2) _ _ _ _ (by rfl) (by rfl) (N4.there hjm) ?_
                  have N5 := (N4.set hjm id').1
                  have HN5 := hide (N5.congr (b := fun q => if q < j + 1 then tot (fun i => z i * R i q) (k + 1) else tot (fun i => z i * R i q) k) (fun q hq => by
                    show (if q = j then tk + zk * rk else if q < j then tot (fun i => z i * R i q) (k + 1) else tot (fun i => z i * R i q) k) = if q < j + 1 then tot (fun i => z i * R i q) (k + 1) else tot (fun i => z i * R i q) k
                    by_cases e : q = j
                    · rw [if_pos e, if_pos (by omega), e, HU.out]
                    · rw [if_neg e]
                      by_cases e2 : q < j
                      · rw [if_pos e2, if_pos (by omega)]
                      · rw [if_neg e2, if_neg (by omega)]))
                  clear N4 N5
                  refine hK.out _ _ ?_
                  clear hK K
                  try simp only [Act.put, List.getElem_toArray, List.getElem_cons_zero, List.getElem_cons_succ, List.setIfInBounds_toArray, List.set_cons_zero, List.set_cons_succ]
                  refine wpAny_done (by kernel_rfl) ?_ _
                  go_wp2
                  go_roundw
                  case rel => exact ⟨j + 1, by omega, by go_num, HN5.out⟩
                  case measure => simp [intOf]; omega
                · obtain rfl : m = j := by omega
                  have HN4 : Hid (Nls w.heap.size w wq (.slice (some ⟨gw, 0, none⟩) m m) m (fun j => tot (fun q => z q * R q j) (k + 1))) := hQ.congr (fun q hq => by rw [if_pos hq])
                  clear hQ
                  go_wp2
                  go_roundw
                  case rel =>
                    refine ⟨k + 1, by omega, by go_num, fun q hq => ?_, HN4.out⟩
                    by_cases e : q = k
                    · subst e; exact ⟨HE1.out, HE2.out⟩
                    · exact HRW.out q (by omega)
                  case measure => simp [intOf]; omega
            · have HKn := hide (HK.out false ⟨fun q => (by cases q), fun q => absurd q e2⟩)
              have HNO : Hid (¬ MayX m z m L R) := fun q => e2 (by rw [e1]; exact (q.row k h).2)
              rw [e1] at ck HKn rl1
              clear HK e2 e1
              obtain ⟨Ak, hAk⟩ : ∃ q, q = A k := ⟨_, rfl⟩
              obtain ⟨Ck, hCk⟩ : ∃ q, q = C k := ⟨_, rfl⟩
              rw [← hAk, ← hCk] at ck HKn
              rw [← hCk] at rl1 rl2
              clear hAk hCk
              go_wp2_with fail
              refine (HKn.out).mono ?_
              rintro e w3 ⟨rfl, k3⟩
              have B3 := HN.out.below.trans (k3.mono HN.out.base)
              go_wp2
              go_ret2
              exact ⟨_, _, rfl, Or.inl ⟨HNO.out, rfl, rfl, B3⟩⟩
          · have HNO : Hid (¬ MayX m z m L R) := fun q => e1 (q.row k h).1
            have e3 : ¬ ((L k : Nat) : Int) = (m : Int) := by omega
            obtain ⟨Ak, hAk⟩ : ∃ q, q = A k := ⟨_, rfl⟩
            obtain ⟨Ck, hCk⟩ : ∃ q, q = C k := ⟨_, rfl⟩
            obtain ⟨Lk, hLk⟩ : ∃ q, q = L k := ⟨_, rfl⟩
            rw [← hAk, ← hCk, ← hLk] at ck
            rw [← hCk, ← hLk] at rl1
            rw [← hCk] at rl2
            rw [← hLk] at e3
            clear HK e1 hAk hCk hLk
            go_wp2
            go_ret2
            exact ⟨_, _, rfl, Or.inl ⟨HNO.out, rfl, rfl, HN.out.below⟩⟩
        · obtain rfl : m = k := by omega
          have hmay : MayX m z m L R := ⟨HCH.out, rfl, hrw⟩
          obtain ⟨_, _, ee, hat, _⟩ := hN.at (by omega)
          cases ee
          have HSh := hide (dshares_any 1073741824 gw m m (mxw m z R) wr hat hn4 (by omega) (by omega) (fun j hj => by have h1 := mxw_nn hmay hj; have h2 := mxw_le hmay hj; omega) (by rw [mxw_tot hmay]; omega))
          have HMAY := hide hmay
          have HB := hide hN.below
          have HL := hide (show w.heap.size ≤ wr.heap.size from hN.base)
          clear hN hat hmay hrw
          go_wp2_with fail
          refine (HSh.out).mono ?_
          rintro e w2 ⟨v, rfl, ow⟩
          have ow2 : Own w.heap.size w w2 v m (sh 1073741824 (mxw m z R) m) := ⟨row_mono ow.row HL.out, HB.out.trans (ow.below.mono HL.out), Nat.le_trans HL.out ow.base⟩
          have HO2 := hide ow2
          clear ow ow2
          go_wp2
          go_ret2
          exact ⟨_, _, rfl, Or.inr ⟨HMAY.out, rfl, HO2.out⟩⟩
    · have HNO : Hid (¬ MayX n z m L R) := fun q => hm q.rows
      have e3 : ¬ (m : Int) = (n : Int) := by omega
      go_enter Tryz.func23, Tryz.ntmps23
      go_wp2_with fail
      refine (D0.out).mono ?_
      rintro e w1 ⟨rfl, k1⟩
      go_wp2
      go_ret2
      exact ⟨_, _, rfl, Or.inl ⟨HNO.out, rfl, rfl, k1⟩⟩
  · have HNO : Hid (¬ MayX n z m L R) := fun q => hc q.ch
    have D0 := hide (HCk.out w (Below.refl _ _) false ⟨fun q => (by cases q), fun q => absurd q hc⟩)
    clear HCk hc
    go_enter Tryz.func23, Tryz.ntmps23
    go_wp2_with fail
    refine (D0.out).mono ?_
    rintro e w1 ⟨rfl, k1⟩
    go_wp2
    go_ret2
    exact ⟨_, _, rfl, Or.inl ⟨HNO.out, rfl, rfl, k1⟩⟩
end Go.Proofs.YtoglokgkgonmdaaGreatDoor

/-
  The document's answer of layer 15 (radomeref15): Shares.
-/
set_option linter.unusedSimpArgs false
set_option linter.unusedVariables false
namespace Go.Proofs.YtoglokgkgonmdaaGreatDoor
open Go.RowKit Vc Cn Mx
attribute [local go_sem ↓] Go.wp_at_zero Go.wp_at_succ
namespace Mx
theorem hideX {p : Prop} (h : p) : Hid p := h
/-- What Shares answers. -/
def SharesR (w w' : World) (n : Nat) (z : Nat → Int) (m : Nat) (L : Nat → Nat) (R : Nat → Nat → Int) (tq : Int) (v : Value) (er : Int) : Prop :=
  (¬ (MayX n z m L R ∧ 0 ≤ tq ∧ tq < n) ∧ v = .slice none 0 0 ∧ er = 1 ∧ Below w.heap.size w w') ∨ (MayX n z m L R ∧ 0 ≤ tq ∧ tq < n ∧ er = 0 ∧ Own w.heap.size w w' v n (shr n z R tq.toNat))
theorem step_push {ops : Array Oper} {o : Oper} {a : Act} {K : Act → World → Prop} {Q : Exit → Act → World → Prop} {E : Prop} {wr : World} (hgd : o.guard = none) (s x : Operand)
    (ho : o.op = .call { callee := .builtin .append, args := #[s, x], argTypes := #[22, 22] }) (B : Nat) (w0 : World) (v : Value) (n : Nat) (z : Nat → Int) (hs : a.eval s = v) (hown : Own B w0 wr v n z) (hl : n ≤ 2000000) (y : Int) (hy : y = z n)
    (hx : a.eval x = .slice (some ⟨wr.heap.size, 0, none⟩) 1 1)
    (h : ∀ v' w', Own B w0 w' v' (n + 1) z → K (a.put o.dst v') w') : if Region.wanted o (yielded ops a.tmps) = true then Oper.wp Tryz.prog o a (wr.alloc (.cells #[.int .i64 y] 2)) K Q else E := by
  obtain ⟨i0, hi, hz0, hz1, hz2⟩ := info_parts infoI64
  subst hy
  refine step_append_lies _ hgd s x 22 ho B 2 i0 (.int .i64 0) 1 8 Tryz.underlying22 hi hz0 hz1 hz2 rfl (by decide) v n (vals n z) hs (hown.row.alloc _) ⟨wr.heap.size, 0, none⟩ 1 1 [.int .i64 (z n)] hx rfl (cell_one_new _ _ _) (by intro u hu; simp at hu; subst hu; rfl) (by omega) (by unfold maxLen; omega) (by omega) (by have := hown.base; simp; omega) _ rfl ?_
  intro g cap w' h1 h2 _ _
  rw [vals_push] at h1
  refine h _ w' ⟨h1, ?_, Nat.le_trans (by have := hown.base; simp; omega) h2.size⟩
  refine (hown.below.alloc hown.base _).grown h2 (by have := hown.base; simp; omega) ?_
  intro k hk
  exact (hown.row.lt k hk).1
end Mx

set_option maxRecDepth 20000 in
set_option maxHeartbeats 4000000 in
theorem dshares15_any (ao lo : Option Addr) (n ca m cm : Nat) (z : Nat → Int) (A : Nat → Option Addr) (L C : Nat → Nat) (R : Nat → Nat → Int) (tq : Int) (w : World) (hs : Sl w ao n ca z) (hz : B64 z) (hl : Sls w lo m cm A L C)
    (hr : ∀ i, i < m → Sl w (A i) (L i) (C i) (R i)) (hR : ∀ i, B64 (R i)) (t0 : -9223372036854775808 ≤ tq) (t1 : tq ≤ 9223372036854775807) :
    Calls Tryz.prog 6 #[.slice ao n ca, .slice lo m cm, .int .i64 tq] w fun e w' => ∃ v er, e = .returned (.tuple #[v, .int .i64 er]) ∧ SharesR w w' n z m L R tq v er := by
  have HD := hideX (dmix14_any ao lo n ca m cm z A L C R w hs hz hl hr hR)
  have l1 := hs.le
  have l2 := hs.cap
  have l3 := hl.le
  have l4 := hl.cap
  obtain ⟨xa, hxa, hac⟩ := hs.get
  obtain ⟨xl, hlo, hlc⟩ := hl.get
  have HXA := hideX hxa
  have HAC := hideX hac
  have HLO := hideX hlo
  have HLC := hideX hlc
  have HR := hideX hr
  clear hs hz hl hr hR hxa hac hlo hlc
  by_cases hm : MayX n z m L R
  · have hn1 := hm.ch.one
    have hn4 := hm.ch.four
    have hmn := hm.rows
    subst hmn
    by_cases hto : tq < 0
    · have HNO : Hid (¬ (MayX m z m L R ∧ 0 ≤ tq ∧ tq < m)) := fun q => by have := q.2.1; omega
      have HM := hideX hm
      clear hm
      go_enter Tryz.func6, Tryz.ntmps6
      go_wp2_with fail
      refine (HD.out).mono ?_
      rintro e w1 ⟨v1, er, rfl, ⟨q, _⟩ | ⟨_, rfl, ow⟩⟩
      · exact absurd HM.out q
      · have HB := hideX ow.below
        clear ow
        go_wp2
        go_ret2
        exact ⟨_, _, rfl, Or.inl ⟨HNO.out, rfl, rfl, HB.out⟩⟩
    · by_cases hto2 : (m : Int) ≤ tq
      · have HNO : Hid (¬ (MayX m z m L R ∧ 0 ≤ tq ∧ tq < m)) := fun q => by have := q.2.2; omega
        have HM := hideX hm
        clear hm
        go_enter Tryz.func6, Tryz.ntmps6
        go_wp2_with fail
        refine (HD.out).mono ?_
        rintro e w1 ⟨v1, er, rfl, ⟨q, _⟩ | ⟨_, rfl, ow⟩⟩
        · exact absurd HM.out q
        · have HB := hideX ow.below
          clear ow
          go_wp2
          go_ret2
          exact ⟨_, _, rfl, Or.inl ⟨HNO.out, rfl, rfl, HB.out⟩⟩
      · obtain ⟨t, rfl⟩ : ∃ t : Nat, tq = (t : Int) := ⟨tq.toNat, by omega⟩
        have ht : t < m := by omega
        have hd1 : decide ((t : Int) < 0) = false := decide_eq_false (by omega)
        have hd2 : decide (m ≤ t) = false := decide_eq_false (by omega)
        have hd3 : decide ((t : Int) ≥ m) = false := decide_eq_false (by omega)
        obtain rfl := HXA.out (by omega)
        obtain rfl := HLO.out (by omega)
        have HM := hideX hm
        have HW := hideX (wt_in hm ht)
        clear hm
        go_enter Tryz.func6, Tryz.ntmps6
        go_wp2_with fail
        refine (HD.out).mono ?_
        rintro e w1 ⟨v1, er, rfl, ⟨q, _⟩ | ⟨_, rfl, ow⟩⟩
        · exact absurd HM.out q
        have HB := hideX ow.below
        clear ow HD
        go_wp2
        go_loopw [10, 11, 12] (fun v sv i wr => ∃ k : Nat, k ≤ m ∧ i = .int .i64 (k : Int) ∧ sv = .bool (decide (0 < tot (wt m z R t) k)) ∧ Own w1.heap.size w1 wr v k (wt m z R t)) (fun _ _ i _ => m - (intOf i).toNat)
        case atStart => exact ⟨0, by omega, rfl, rfl, Own.nil (Below.refl _ _) (Nat.le_refl _) _⟩
        case round =>
          rename World => wr
          obtain ⟨k, hk, rfl, rfl, hO⟩ := hrel
          have KB := below_tr HB.out hO.below
          by_cases h : k < m
          · have ck := keep_cell HB.out (HAC.out k h)
            have c1 := keep_cell HB.out (HLC.out k h)
            have hrow := (HM.out.row k h).1
            obtain ⟨xr, hxr, hrc⟩ := (HR.out k h).get
            have l5 := (HR.out k h).le
            have l6 := (HR.out k h).cap
            rw [hrow] at hxr hrc c1 l5
            obtain hxr := hxr (by omega)
            have c2 := keep_cell HB.out (hrc t ht)
            rw [hxr] at c1
            have wk := HW.out k
            have t0' := tot_nn (a := wt m z R t) (n := k) (fun j _ => (HW.out j).1)
            have HU : Hid (tot (wt m z R t) (k + 1) = tot (wt m z R t) k + wt m z R t k) := rfl
            have hwk : wt m z R t k = z k * R k t := by unfold wt; rw [if_pos h]
            have hzk := HM.out.ch.nn h
            have hrk := (HM.out.row k h).2.nn ht
            obtain ⟨cc, hcc⟩ : ∃ q, q = C k := ⟨_, rfl⟩
            obtain ⟨zk, hzk2⟩ : ∃ q, q = z k := ⟨_, rfl⟩
            obtain ⟨rk, hrk2⟩ : ∃ q, q = R k t := ⟨_, rfl⟩
            rw [← hcc] at c1 l5 l6
            rw [← hzk2] at ck hzk hwk
            rw [← hrk2] at c2 hrk hwk
            obtain ⟨V, hV⟩ : ∃ q, q = wt m z R t k := ⟨_, rfl⟩
            obtain ⟨tk, htk⟩ : ∃ q, q = tot (wt m z R t) k := ⟨_, rfl⟩
            rw [← hV] at wk HU hwk
            rw [← htk] at t0' HU ⊢
            have HV := hideX hV
            have hp : zk * rk = V := hwk.symm
            have hVw : IntKind.i64.wrap V = V := by rw [IntKind.wrap_i64]; omega
            obtain ⟨vo, vc, rfl, _⟩ := hO.sl
            have kn : (k : Int) < m := by omega
            have tn : (t : Int) < m := by omega
            have CK := hideX (fun W (q : Below w1.heap.size w1 W) => (⟨keep_cell q ck, keep_cell q c1, keep_cell q c2⟩ : W.cell? (xa.add k) = some (.int .i64 zk) ∧ W.cell? (xl.add k) = some (.slice (some xr) m cc) ∧ W.cell? (xr.add t) = some (.int .i64 rk)))
            clear hrow hxr hrc hcc hzk2 hrk2 hV htk hwk KB ck c1 c2
            go_wp2
            refine Ru.wp_region_U [] (fun w' => w'.cell? (xa.add k) = some (.int .i64 zk) ∧ w'.cell? (xl.add k) = some (.slice (some xr) m cc) ∧ w'.cell? (xr.add t) = some (.int .i64 rk)) (by kernel_rfl) (CK.out _ (below_tr hO.below (Vc.below_drew' _))) (fun hHeld => ?_)
            refine Ru.wpAnyU_take (i := 0) (v := .slice vo k vc) rfl (by kernel_rfl) (by kernel_rfl) (by kernel_rfl) (by kernel_rfl) (by kernel_rfl) (by kernel_rfl) (fun _ _ _ h => h) (Or.inl ⟨by kernel_rfl, fun w hS => by obtain ⟨sc0, sc1, sc2⟩ := hS; go_simp⟩) hHeld ?_
            simp only [Act.put, List.getElem_toArray, List.getElem_cons_zero, List.getElem_cons_succ, List.setIfInBounds_toArray, List.set_cons_zero, List.set_cons_succ]
            refine Ru.wpAnyU_take (i := 1) (v := .slice (some xa) m ca) rfl (by kernel_rfl) (by kernel_rfl) (by kernel_rfl) (by kernel_rfl) (by kernel_rfl) (by kernel_rfl) (fun _ _ _ h => h) (Or.inl ⟨by kernel_rfl, fun w hS => by obtain ⟨sc0, sc1, sc2⟩ := hS; go_simp⟩) hHeld ?_
            simp only [Act.put, List.getElem_toArray, List.getElem_cons_zero, List.getElem_cons_succ, List.setIfInBounds_toArray, List.set_cons_zero, List.set_cons_succ]
            refine Ru.wpAnyU_take (i := 2) (v := .int .i64 (k : Int)) rfl (by kernel_rfl) (by kernel_rfl) (by kernel_rfl) (by kernel_rfl) (by kernel_rfl) (by kernel_rfl) (fun _ _ _ h => h) (Or.inl ⟨by kernel_rfl, fun w hS => by obtain ⟨sc0, sc1, sc2⟩ := hS; go_simp⟩) hHeld ?_
            simp only [Act.put, List.getElem_toArray, List.getElem_cons_zero, List.getElem_cons_succ, List.setIfInBounds_toArray, List.set_cons_zero, List.set_cons_succ]
            refine Ru.wpAnyU_take (i := 3) (v := .pointer (some (xa.add k))) rfl (by kernel_rfl) (by kernel_rfl) (by kernel_rfl) (by kernel_rfl) (by kernel_rfl) (by kernel_rfl) (fun _ _ _ h => h) (Or.inl ⟨by kernel_rfl, fun w hS => by obtain ⟨sc0, sc1, sc2⟩ := hS; go_simp⟩) hHeld ?_
            simp only [Act.put, List.getElem_toArray, List.getElem_cons_zero, List.getElem_cons_succ, List.setIfInBounds_toArray, List.set_cons_zero, List.set_cons_succ]
            refine Ru.wpAnyU_take (i := 4) (v := .int .i64 zk) rfl (by kernel_rfl) (by kernel_rfl) (by kernel_rfl) (by kernel_rfl) (by kernel_rfl) (by kernel_rfl) (fun _ _ _ h => h) (Or.inl ⟨by kernel_rfl, fun w hS => by obtain ⟨sc0, sc1, sc2⟩ := hS; go_simp⟩) hHeld ?_
            simp only [Act.put, List.getElem_toArray, List.getElem_cons_zero, List.getElem_cons_succ, List.setIfInBounds_toArray, List.set_cons_zero, List.set_cons_succ]
            refine Ru.wpAnyU_take (i := 5) (v := .slice (some xl) m cm) rfl (by kernel_rfl) (by kernel_rfl) (by kernel_rfl) (by kernel_rfl) (by kernel_rfl) (by kernel_rfl) (fun _ _ _ h => h) (Or.inl ⟨by kernel_rfl, fun w hS => by obtain ⟨sc0, sc1, sc2⟩ := hS; go_simp⟩) hHeld ?_
            simp only [Act.put, List.getElem_toArray, List.getElem_cons_zero, List.getElem_cons_succ, List.setIfInBounds_toArray, List.set_cons_zero, List.set_cons_succ]
            refine Ru.wpAnyU_take (i := 6) (v := .int .i64 (k : Int)) rfl (by kernel_rfl) (by kernel_rfl) (by kernel_rfl) (by kernel_rfl) (by kernel_rfl) (by kernel_rfl) (fun _ _ _ h => h) (Or.inl ⟨by kernel_rfl, fun w hS => by obtain ⟨sc0, sc1, sc2⟩ := hS; go_simp⟩) hHeld ?_
            simp only [Act.put, List.getElem_toArray, List.getElem_cons_zero, List.getElem_cons_succ, List.setIfInBounds_toArray, List.set_cons_zero, List.set_cons_succ]
            refine Ru.wpAnyU_take (i := 7) (v := .pointer (some (xl.add k))) rfl (by kernel_rfl) (by kernel_rfl) (by kernel_rfl) (by kernel_rfl) (by kernel_rfl) (by kernel_rfl) (fun _ _ _ h => h) (Or.inl ⟨by kernel_rfl, fun w hS => by obtain ⟨sc0, sc1, sc2⟩ := hS; go_simp⟩) hHeld ?_
            simp only [Act.put, List.getElem_toArray, List.getElem_cons_zero, List.getElem_cons_succ, List.setIfInBounds_toArray, List.set_cons_zero, List.set_cons_succ]
            refine Ru.wpAnyU_take (i := 8) (v := .slice (some xr) m cc) rfl (by kernel_rfl) (by kernel_rfl) (by kernel_rfl) (by kernel_rfl) (by kernel_rfl) (by kernel_rfl) (fun _ _ _ h => h) (Or.inl ⟨by kernel_rfl, fun w hS => by obtain ⟨sc0, sc1, sc2⟩ := hS; go_simp⟩) hHeld ?_
            simp only [Act.put, List.getElem_toArray, List.getElem_cons_zero, List.getElem_cons_succ, List.setIfInBounds_toArray, List.set_cons_zero, List.set_cons_succ]
            refine Ru.wpAnyU_take (i := 9) (v := .int .i64 (t : Int)) rfl (by kernel_rfl) (by kernel_rfl) (by kernel_rfl) (by kernel_rfl) (by kernel_rfl) (by kernel_rfl) (fun _ _ _ h => h) (Or.inl ⟨by kernel_rfl, fun w hS => by obtain ⟨sc0, sc1, sc2⟩ := hS; go_simp⟩) hHeld ?_
            simp only [Act.put, List.getElem_toArray, List.getElem_cons_zero, List.getElem_cons_succ, List.setIfInBounds_toArray, List.set_cons_zero, List.set_cons_succ]
            refine Ru.wpAnyU_take (i := 10) (v := .pointer (some (xr.add t))) rfl (by kernel_rfl) (by kernel_rfl) (by kernel_rfl) (by kernel_rfl) (by kernel_rfl) (by kernel_rfl) (fun _ _ _ h => h) (Or.inl ⟨by kernel_rfl, fun w hS => by obtain ⟨sc0, sc1, sc2⟩ := hS; go_simp⟩) hHeld ?_
            simp only [Act.put, List.getElem_toArray, List.getElem_cons_zero, List.getElem_cons_succ, List.setIfInBounds_toArray, List.set_cons_zero, List.set_cons_succ]
            refine Ru.wpAnyU_take (i := 11) (v := .int .i64 rk) rfl (by kernel_rfl) (by kernel_rfl) (by kernel_rfl) (by kernel_rfl) (by kernel_rfl) (by kernel_rfl) (fun _ _ _ h => h) (Or.inl ⟨by kernel_rfl, fun w hS => by obtain ⟨sc0, sc1, sc2⟩ := hS; go_simp⟩) hHeld ?_
            simp only [Act.put, List.getElem_toArray, List.getElem_cons_zero, List.getElem_cons_succ, List.setIfInBounds_toArray, List.set_cons_zero, List.set_cons_succ]
            refine Ru.wpAnyU_take (i := 12) (v := .int .i64 V) rfl (by kernel_rfl) (by kernel_rfl) (by kernel_rfl) (by kernel_rfl) (by kernel_rfl) (by kernel_rfl) (fun _ _ _ h => h) (Or.inl ⟨by kernel_rfl, fun w hS => by obtain ⟨sc0, sc1, sc2⟩ := hS; go_simp⟩) hHeld ?_
            simp only [Act.put, List.getElem_toArray, List.getElem_cons_zero, List.getElem_cons_succ, List.setIfInBounds_toArray, List.set_cons_zero, List.set_cons_succ]
            refine Ru.wpAnyU_ready (rs := [13]) (by kernel_rfl) (by simp) ?_
            refine Ru.AllReadyU.cons rfl (by kernel_rfl) (fun K hK => ?_) Ru.AllReadyU.nil
            go_simp
            refine hK.out _ _ (CK.out _ (below_tr hO.below (below_al (Vc.below_drew' _) _))) (fun hHeld => ?_)
            clear hK K
            try simp only [Act.put, List.getElem_toArray, List.getElem_cons_zero, List.getElem_cons_succ, List.setIfInBounds_toArray, List.set_cons_zero, List.set_cons_succ]
            refine Ru.wpAnyU_ready (rs := [14]) (by kernel_rfl) (by simp) ?_
            refine Ru.AllReadyU.cons rfl (by kernel_rfl) (fun K hK => ?_) Ru.AllReadyU.nil
            refine Mx.step_push rfl (.tmp 40) (.tmp 53) (by rfl) w1.heap.size w1 (.slice vo k vc) k (wt m z R t) (by rfl) hO.drew (by omega) V (by exact HV.out) (by rfl) ?_
            intro v' w' hO'
            refine hK.out _ _ (CK.out _ hO'.below) (fun hHeld => ?_)
            clear hK K
            try simp only [Act.put, List.getElem_toArray, List.getElem_cons_zero, List.getElem_cons_succ, List.setIfInBounds_toArray, List.set_cons_zero, List.set_cons_succ]
            refine Ru.wpAnyU_take (i := 15) (v := v') rfl (by kernel_rfl) (by kernel_rfl) (by kernel_rfl) (by kernel_rfl) (by kernel_rfl) (by kernel_rfl) (fun _ _ _ h => h) (Or.inl ⟨by kernel_rfl, fun w hS => by obtain ⟨sc0, sc1, sc2⟩ := hS; go_simp⟩) hHeld ?_
            simp only [Act.put, List.getElem_toArray, List.getElem_cons_zero, List.getElem_cons_succ, List.setIfInBounds_toArray, List.set_cons_zero, List.set_cons_succ]
            refine Ru.wpAnyU_done (by kernel_rfl) ?_
            obtain ⟨po, pc, rfl, hps⟩ := hO'.sl
            obtain ⟨px, hpx, hpc⟩ := hps.get
            obtain rfl := hpx (by omega)
            have ck' := hpc k (by omega)
            have l7 := hps.le
            have l8 := hps.cap
            rw [← HV.out] at ck'
            have HO := hideX hO'
            clear hps hpx hpc hO'
            by_cases c3 : 0 < tk
            · rw [decide_eq_true c3]
              go_wp2
              go_roundw
              case rel => exact ⟨k + 1, by omega, by go_num, by rw [HU.out, decide_eq_true (show 0 < tk + V by omega)], HO.out⟩
              case measure => simp [intOf]; omega
            · rw [decide_eq_false c3]
              have HSN : Hid (decide (0 < tot (wt m z R t) (k + 1)) = decide (0 < V)) := by show decide (0 < tot (wt m z R t) (k + 1)) = decide (0 < V); rw [HU.out, show tk + V = V by omega]
              go_wp2
              go_roundw
              case rel => exact ⟨k + 1, by omega, by go_num, by rw [HSN.out], HO.out⟩
              case measure => simp [intOf]; omega
          · obtain rfl : m = k := by omega
            have t0' := tot_nn (a := wt m z R t) (n := m) (fun j _ => (HW.out j).1)
            obtain ⟨po, pc, rfl, hps⟩ := hO.sl
            have HB2 := hideX KB
            have HS := hideX hps
            have HL := hideX (show w.heap.size ≤ wr.heap.size from KB.size)
            clear KB hps hO
            by_cases c3 : 0 < tot (wt m z R t) m
            · rw [decide_eq_true c3]
              have HOf := hideX (dof14_any po m pc (wt m z R t) 0 wr HS.out (fun j => by have := HW.out j; omega) (by omega) (by omega))
              have HMW := hideX (wt_may HM.out ht)
              have HC3 := hideX c3
              clear c3 t0'
              go_wp2_with fail
              refine (HOf.out).mono ?_
              rintro e w3 ⟨v3, er3, rfl, ⟨q, _⟩ | ⟨_, q, _⟩ | ⟨_, _, rfl, ow⟩⟩
              · exact absurd HMW.out q
              · exact absurd q (by have := HC3.out; omega)
              · have ow2 : Own w.heap.size w w3 v3 m (shr m z R t) := ⟨row_mono (ow.congr (z' := shr m z R t) fun j hj => by
                  show sh (1073741824 - 0 * (m : Int)) (wt m z R t) m j + 0 = shr m z R t j
                  rw [shr_is hj, if_neg (by have := HC3.out; omega), Int.zero_mul, Int.sub_zero, Int.add_zero]).row HL.out, HB2.out.trans (ow.below.mono HL.out), Nat.le_trans HL.out ow.base⟩
                have HO2 := hideX ow2
                clear ow ow2
                go_wp2
                go_ret2
                exact ⟨_, _, rfl, Or.inr ⟨HM.out, by omega, by omega, rfl, HO2.out⟩⟩
            · rw [decide_eq_false c3]
              obtain ⟨i0, hi, hz0, hz1, hz2⟩ := info_parts infoI64
              have HC3 : Hid (tot (wt m z R t) m = 0) := by show tot (wt m z R t) m = 0; omega
              have kn : (t : Int) < m := by omega
              clear c3 t0'
              go_wp2_with (at_make; refine wpList_make_full _ rfl _ _ 22 rfl wr.heap.size 2 i0 (.int .i64 0) 1 Tryz.underlying22 hi hz0 hz1 _ _ _ _ m rfl rfl (by omega) (by omega) (by rw [hz2]; omega) (by unfold maxLen; omega) (Nat.le_refl _) ?_)
              intro w3 o3 g3
              have hO3 := own_made o3 g3 (Nat.le_refl _)
              have cT := hO3.cell (j := t) ht
              have fT := hO3.free t
              have hO4 := hO3.set t 1073741824
              have ow2 : Own w.heap.size w _ _ m (shr m z R t) := ⟨row_mono (hO4.congr (z' := shr m z R t) fun j hj => by rw [shr_is hj, if_pos HC3.out]).row HL.out, HB2.out.trans (hO4.below.mono HL.out), Nat.le_trans HL.out hO4.base⟩
              have HO2 := hideX ow2
              clear hO3 hO4 ow2 o3 g3 hi hz0 hz1 hz2
              go_wp2
              go_ret2
              exact ⟨_, _, rfl, Or.inr ⟨HM.out, by omega, by omega, rfl, HO2.out⟩⟩
  · have HNO : Hid (¬ (MayX n z m L R ∧ 0 ≤ tq ∧ tq < n)) := fun q => hm q.1
    have HM := hideX hm
    clear hm
    go_enter Tryz.func6, Tryz.ntmps6
    go_wp2_with fail
    refine (HD.out).mono ?_
    rintro e w1 ⟨v1, er, rfl, ⟨_, rfl, rfl, k1⟩ | ⟨q, _⟩⟩
    · go_wp2
      go_ret2
      exact ⟨_, _, rfl, Or.inl ⟨HNO.out, rfl, rfl, k1⟩⟩
    · exact absurd q HM.out
end Go.Proofs.YtoglokgkgonmdaaGreatDoor
