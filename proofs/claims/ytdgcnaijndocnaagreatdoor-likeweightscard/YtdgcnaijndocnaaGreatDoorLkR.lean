/-
  The document's answer of layer 16 (radomeref16): in, Weights; by py/LkR.py.
-/
import Derived.Test.YtdgcnaijndocnaaGreatDoorM2
import Derived.Test.YtdgcnaijndocnaaGreatDoorM15
import Derived.Test.YtdgcnaijndocnaaGreatDoorM24
import Derived.Test.YtdgcnaijndocnaaGreatDoorM4
import Derived.Test.YtdgcnaijndocnaaGreatDoorRegU
import Derived.Test.YtdgcnaijndocnaaGreatDoorM6
set_option linter.unusedSimpArgs false
set_option linter.unusedVariables false
namespace Go.Proofs.YtdgcnaijndocnaaGreatDoor
open Go.RowKit Vc Cn Lk
attribute [local go_sem ↓] Go.wp_at_zero Go.wp_at_succ
namespace Lk
theorem hideK {p : Prop} (h : p) : Hid p := h
theorem own_low {w w0 w1 : World} {B B' : Nat} {v : Value} {n : Nat} {z : Nat → Int} (h : Own B w1 w v n z) (b : Below B' w0 w1) (hB : B' ≤ B) : Own B' w0 w v n z := by
  have hb := h.from b hB
  obtain ⟨⟨h1, h2⟩, _, h3⟩ := h
  refine ⟨⟨h1, ?_⟩, hb, by omega⟩
  rcases h2 with h2 | ⟨g, cap, cur, rfl, hb, hg, hn, hc, hs, ht⟩
  · exact Or.inl h2
  · exact Or.inr ⟨g, cap, cur, rfl, by omega, hg, hn, hc, hs, ht⟩
/-- An append of one number to a slice of the call's own, as one step of a region that draws. -/
theorem step_push {ops : Array Oper} {o : Oper} {a : Act} {wr : World} {K : Act → World → Prop} {Q : Exit → Act → World → Prop} {E : Prop} (hgd : o.guard = none) (s x : Operand)
    (ho : o.op = .call { callee := .builtin .append, args := #[s, x], argTypes := #[22, 22] }) (B : Nat) (w0 : World) (v : Value) (n : Nat) (z : Nat → Int) (hs : a.eval s = v) (hown : Own B w0 wr v n z) (hl : n ≤ 2000000) (y : Int) (hy : y = z n)
    (hx : a.eval x = .slice (some ⟨wr.heap.size, 0, none⟩) 1 1)
    (hK : ∀ v' w', Own B w0 w' v' (n + 1) z → K (a.put o.dst v') w') :
    if Region.wanted o (yielded ops a.tmps) = true then Oper.wp Tryz.prog o a (wr.alloc (.cells #[.int .i64 y] 2)) K Q else E := by
  obtain ⟨i0, hi, hz0, hz1, hz2⟩ := info_parts infoI64
  subst hy
  have hb : B ≤ (wr.alloc (.cells #[.int .i64 (z n)] 2)).heap.size := by have := hown.base; simp; omega
  refine step_append_lies _ hgd s x 22 ho B 2 i0 (.int .i64 0) 1 8 Tryz.underlying22 hi hz0 hz1 hz2 rfl (by decide) v n (vals n z) hs (hown.row.alloc _) ⟨wr.heap.size, 0, none⟩ 1 1 [.int .i64 (z n)] hx rfl (World.news_of_block (heap_alloc_new wr _)) (by intro u hu; simp at hu; subst hu; rfl) (by omega) (by unfold maxLen; omega) (by omega) hb _ rfl ?_
  intro g cap w' h1 h2 h3 h4
  rw [vals_push] at h1
  exact hK _ w' ⟨h1, (hown.below.alloc hown.base _).grown h2 hb (fun k hk => (hown.row.lt k hk).1), Nat.le_trans hb h2.size⟩
end Lk
open Lk

theorem rin16_yes (z : Int) (w : World) (h : -4611686018427387903 ≤ z ∧ z ≤ 4611686018427387903) : Calls Tryz.prog 42 #[.int .i64 z] w fun e w' => e = .returned (.bool true) ∧ w' = w := by
  have e1 : decide (z ≥ -4611686018427387903) = true := decide_eq_true h.1
  have e2 : decide (z ≤ 4611686018427387903) = true := decide_eq_true h.2
  go_enter Tryz.func42, Tryz.ntmps42
  go_wp2
  go_ret
  exact ⟨rfl, rfl⟩
theorem rin16_no (z : Int) (w : World) (h : ¬ (-4611686018427387903 ≤ z ∧ z ≤ 4611686018427387903)) : Calls Tryz.prog 42 #[.int .i64 z] w fun e w' => e = .returned (.bool false) ∧ w' = w := by
  by_cases h1 : -4611686018427387903 ≤ z
  · have e1 : decide (z ≥ -4611686018427387903) = true := decide_eq_true h1
    have e2 : decide (z ≤ 4611686018427387903) = false := decide_eq_false (by omega)
    go_enter Tryz.func42, Tryz.ntmps42
    go_wp2
    go_ret
    exact ⟨rfl, rfl⟩
  · have e1 : decide (z ≥ -4611686018427387903) = false := decide_eq_false (by omega)
    go_enter Tryz.func42, Tryz.ntmps42
    go_wp2
    go_ret
    exact ⟨rfl, rfl⟩

set_option maxRecDepth 20000 in
set_option maxHeartbeats 2000000 in
theorem rweights_yes (n cl cc : Nat) (lo co : Option Addr) (l c : Nat → Int) (fl : Int) (w : World) (hl : Sl w lo n cl l) (hc : Sl w co n cc c) (bl' : B64 l) (bc' : B64 c) (h : MayL n l c fl) :
    Calls Tryz.prog 13 #[.slice lo n cl, .slice co n cc, .int .i64 fl] w fun e w' => ∃ vo vc, e = .returned (.tuple #[.slice vo n vc, .bool (wo l c n n), .int .i64 0]) ∧ Own w.heap.size w w' (.slice vo n vc) n (oc fl (wz l c n) n) := by
  obtain ⟨xl, hlo, hcl⟩ := hl.get
  obtain ⟨xc, hco, hcc⟩ := hc.get
  have n1 := h.ch.one
  have n4 := h.ch.four
  obtain rfl := hlo (by omega)
  obtain rfl := hco (by omega)
  have h2 := hl.cap
  have h4 := hc.cap
  have hl1 := hl.le
  have hc1 := hc.le
  have f0 := h.lo
  have f1 := h.hi
  have HCK := hideK (fun W (a : Sl W (some xc) n cc c) => dcheck14_any (some xc) n cc c 0 W a bc' true (by simp; exact h.ch) (by omega) (by omega))
  have HOF := hideK (fun vo vc W (a : Sl W vo n vc (wz l c n)) => dof14_any vo n vc (wz l c n) fl W a (fun k => by have := wz_in h k; omega) (by omega) (by omega))
  have HM := hideK h
  have HBL := hideK (bl_in h)
  have HL := hideK hcl
  have HC := hideK hcc
  have HL0 := hideK hl
  have HC0 := hideK hc
  have BL := hideK bl'
  have BC := hideK bc'
  have e0 : decide (fl < 0) = false := decide_eq_false (by omega)
  have e1 : decide (fl > 67108864) = false := decide_eq_false (by omega)
  clear h hl hc hlo hco hcl hcc bl' bc' f0 f1
  go_enter Tryz.func13, Tryz.ntmps13
  go_wp2_with fail
  refine (HCK.out _ (HC0.out)).mono ?_
  rintro e w1 ⟨rfl, k1⟩
  go_wp2
  go_loopw [9, 10] (fun b i wr => ∃ k : Nat, k ≤ n ∧ i = .int .i64 (k : Int) ∧ b = .int .i64 (bl l c k) ∧ Below w.heap.size w wr) (fun _ i _ => n - (intOf i).toNat)
  case atStart => exact ⟨0, by omega, rfl, rfl, k1⟩
  case round =>
    rename World => wr
    clear k1
    obtain ⟨k, hk, rfl, rfl, k1⟩ := hrel
    by_cases hkn : k < n
    · have kn : (k : Int) < n := by omega
      have cl0 := keep_cell k1 (HL.out k hkn)
      have cc0 := keep_cell k1 (HC.out k hkn)
      have mk := HM.out.each k hkn
      have HI := hideK (fun W => rin16_yes (l k) W mk)
      have hlo := bl_lo l c k
      have H1 := hideK (bl_yes (l := l) (c := c) (k := k))
      have H0 := hideK (bl_no (l := l) (c := c) (k := k))
      obtain ⟨B, hB⟩ : ∃ B, B = bl l c k := ⟨_, rfl⟩
      rw [← hB] at H1 H0 hlo ⊢
      obtain ⟨P, hP⟩ : ∃ P, P = l k := ⟨_, rfl⟩
      obtain ⟨Q, hQ⟩ : ∃ Q, Q = c k := ⟨_, rfl⟩
      rw [← hP] at cl0 HI H1 H0
      rw [← hQ] at cc0 H1 H0
      clear hB hP hQ mk
      go_wp2_with fail
      refine (HI.out _).mono ?_
      rintro e w2 ⟨rfl, q2⟩
      obtain rfl := q2.symm
      by_cases h0 : 0 < Q
      · have g0 : decide (Q > 0) = true := decide_eq_true h0
        by_cases hb : B < 0
        · have g1 : decide (B < 0) = true := decide_eq_true hb
          have HE := hideK (H1.out h0 (Or.inl hb))
          clear H1 H0
          go_upto_region 9 with fail
          go_quiet (fail)
          go_wp2
          go_roundw
          all_goals first
            | (simp [intOf]; omega)
            | exact ⟨k + 1, by omega, by go_num, by rw [HE.out], Vc.below_drewN k1 _⟩
        · have g1 : decide (B < 0) = false := decide_eq_false hb
          obtain ⟨b, rfl⟩ : ∃ b : Nat, B = (b : Int) := ⟨B.toNat, by omega⟩
          have bn : (b : Int) < n := by omega
          have cb := keep_cell k1 (HL.out b (by omega))
          rw [Int.toNat_natCast] at H1 H0
          obtain ⟨R, hR⟩ : ∃ R, R = l b := ⟨_, rfl⟩
          rw [← hR] at cb H1 H0
          clear hR
          by_cases hr : R < P
          · have g2 : decide (P > R) = true := decide_eq_true hr
            have HE := hideK (H1.out h0 (Or.inr hr))
            clear H1 H0
            go_upto_region 9 with fail
            go_quiet (fail)
            go_wp2
            go_roundw
            all_goals first
              | (simp [intOf]; omega)
              | exact ⟨k + 1, by omega, by go_num, by rw [HE.out], Vc.below_drewN k1 _⟩
          · have g2 : decide (P > R) = false := decide_eq_false (by omega)
            have HE := hideK (H0.out (fun q => by have := q.2; omega))
            clear H1 H0
            go_upto_region 9 with fail
            go_quiet (fail)
            go_wp2
            go_roundw
            all_goals first
              | (simp [intOf]; omega)
              | exact ⟨k + 1, by omega, by go_num, by rw [HE.out], Vc.below_drewN k1 _⟩
      · have g0 : decide (Q > 0) = false := decide_eq_false h0
        have HE := hideK (H0.out (fun q => h0 q.1))
        clear H1 H0
        go_upto_region 9 with fail
        go_quiet (fail)
        go_wp2
        go_roundw
        all_goals first
          | (simp [intOf]; omega)
          | exact ⟨k + 1, by omega, by go_num, by rw [HE.out], Vc.below_drewN k1 _⟩
    · obtain rfl : n = k := by omega
      have hbn := HBL.out
      obtain ⟨b, hb⟩ : ∃ b : Nat, b = (bl l c n).toNat := ⟨_, rfl⟩
      have hbe : bl l c n = (b : Int) := by omega
      rw [hbe]
      have bn : b < n := by omega
      have bz : (b : Int) < n := by omega
      go_wp2
      go_loopw [11, 12, 13, 14, 15] (fun a v i _ _ wr => ∃ k : Nat, k ≤ n ∧ i = .int .i64 (k : Int) ∧ a = .bool (wo l c n k) ∧ Own w.heap.size w wr v k (wz l c n)) (fun _ _ i _ _ _ => n - (intOf i).toNat)
      case atStart => exact ⟨0, by omega, rfl, rfl, Own.nil k1 k1.size _⟩
      case round =>
        rename World => wr
        obtain ⟨k, hk, rfl, rfl, hown⟩ := hrel
        by_cases hkn : k < n
        · have kn : (k : Int) < n := by omega
          have B1 := hown.below
          have cl0 := keep_cell B1 (HL.out k hkn)
          have cb0 := keep_cell B1 (HL.out b bn)
          have cc0 := keep_cell B1 (HC.out k hkn)
          have pk := HM.out.each k hkn
          have pb := HM.out.each b bn
          have pc := HM.out.ch.nn hkn
          have hd := fun h0 => d_neg HM.out (i := k) hkn h0
          have hwz := wz_in HM.out k
          have hw : wz l c n k = if c k = 0 then 0 else Gw.ex (Qn.clamp (l k - l b)) * c k := by
            unfold wz
            rw [← hb]
            by_cases h0 : c k = 0
            · rw [if_pos h0, if_pos (Or.inl h0)]
            · rw [if_neg h0, if_neg (by omega)]
          have hwo : wo l c n (k + 1) = (wo l c n k || (!decide (c k = 0) && Qn.great (l k - l b))) := by rw [hb]; rfl
          rw [← hb] at hd
          have HW := hideK hw
          have HO := hideK hwo
          have HB0 := hideK hown
          obtain ⟨T, hT⟩ : ∃ T, T = wo l c n k := ⟨_, rfl⟩
          rw [← hT] at HO ⊢
          obtain ⟨Z, hZ⟩ : ∃ Z, Z = wz l c n := ⟨_, rfl⟩
          obtain ⟨P, hP⟩ : ∃ P, P = l k := ⟨_, rfl⟩
          obtain ⟨R, hR⟩ : ∃ R, R = l b := ⟨_, rfl⟩
          obtain ⟨Q, hQ⟩ : ∃ Q, Q = c k := ⟨_, rfl⟩
          rw [← hP, ← hR, ← hQ] at HO
          rw [← hZ, ← hP, ← hR, ← hQ] at HW
          rw [← hP] at cl0 pk hd
          rw [← hR] at cb0 pb hd
          rw [← hQ] at cc0 pc hd
          rw [← hZ] at hown HB0 hwz ⊢
          clear hT hP hR hZ hw hwo hb hbe hbn
          obtain ⟨vo, vc, rfl, hs⟩ := hown.sl
          by_cases h0 : Q = 0
          · have HZ : Hid (0 = Z k) := hideK (by rw [HW.out, if_pos h0])
            have HT : Hid (T = wo l c n (k + 1)) := hideK (by rw [HO.out, h0]; simp)
            have e4 : (Q == 0) = true := by simp [h0]
            clear hd HO HW pk pb pc hwz
            go_wp2_with (at_builtin; refine wpList_push (by rfl) (.tmp 80) (.tmp 81) (by rfl) w.heap.size w _ k Z (by rfl) hown (by omega) 0 (by exact HZ.out) (by rfl) ?_)
            intro v' w' hown'
            go_wp2
            go_roundw
            all_goals first
              | (simp [intOf]; omega)
              | exact ⟨k + 1, by omega, by go_num, by rw [← HT.out], hown'⟩
          · have HD := hideK (hd h0)
            have HZ : Hid (Z k = Gw.ex (Qn.clamp (P - R)) * Q) := hideK (by rw [HW.out, if_neg h0])
            have HT : Hid (wo l c n (k + 1) = (T || Qn.great (P - R))) := hideK (by rw [HO.out, decide_eq_false h0]; simp)
            have e4 : (Q == 0) = false := by simp [h0]
            have OA := hideK (fun W => of_any P W (by omega) (by omega))
            have OB := hideK (fun W => of_any R W (by omega) (by omega))
            have SB := hideK (fun va vb W => sub_any va vb P R W (digs_short (by omega) (by omega)) (digs_short (by omega) (by omega)))
            have BD := hideK (fun v W => bound_is v (P - R) W (digs_short (by omega) (by omega)))
            have cb : -4611686018427387903 ≤ Qn.clamp (P - R) ∧ Qn.clamp (P - R) ≤ 4611686018427387903 := by unfold Qn.clamp; split <;> (try split) <;> omega
            have EX := hideK (fun W => rexp_any (Qn.clamp (P - R)) W HD.out (by omega))
            have HWR : Hid (IntKind.i64.wrap (Gw.ex (Qn.clamp (P - R)) * Q) = Z k) := hideK (by rw [← HZ.out, IntKind.wrap_i64]; omega)
            obtain ⟨d, hd'⟩ : ∃ d, d = Qn.clamp (P - R) := ⟨_, rfl⟩
            obtain ⟨g, hg⟩ : ∃ g, g = Qn.great (P - R) := ⟨_, rfl⟩
            obtain ⟨D, hDD⟩ : ∃ D, D = P - R := ⟨_, rfl⟩
            obtain ⟨M, hM⟩ : ∃ M, M = Z k := ⟨_, rfl⟩
            obtain ⟨X, hX⟩ : ∃ X, X = Gw.ex (Qn.clamp (P - R)) := ⟨_, rfl⟩
            rw [← hX, ← hM] at HWR
            rw [← hX, ← hd'] at EX
            rw [← hg] at HT BD
            rw [← hd', ← hDD] at BD
            rw [← hDD] at SB
            have HM' := hideK hM
            have HQ := hideK hQ
            have HWR' : IntKind.i64.wrap (X * Q) = M := HWR.out
            have HS : Hid (∀ V, Below wr.heap.size wr V → V.cell? (xl.add k) = some (.int .i64 P) ∧ V.cell? (xl.add b) = some (.int .i64 R)) := fun V q => ⟨keep_cell q cl0, keep_cell q cb0⟩
            have HS2 : Hid (∀ V, Below wr.heap.size wr V → V.cell? (xc.add k) = some (.int .i64 Q)) := fun V q => keep_cell q cc0
            clear hd HO HW pk pb pc hwz hd' hg hDD hM hX HZ HD cb cl0 cb0 HWR hQ
            go_upto_region 18 with fail
            have D1 := Vc.below_drew' wr
            refine Ru.wp_region_U [] (fun w' => w'.cell? (xl.add k) = some (.int .i64 P) ∧ w'.cell? (xl.add b) = some (.int .i64 R)) (by kernel_rfl) (HS.out _ D1) (fun hHeld => ?_)
            refine Ru.wpAnyU_take (i := 0) (v := .slice (some xl) n cl) rfl (by kernel_rfl) (by kernel_rfl) (by kernel_rfl) (by kernel_rfl) (by kernel_rfl) (by kernel_rfl) (fun _ _ _ h => h) (Or.inl ⟨by kernel_rfl, fun w hS => by obtain ⟨sc0, sc1⟩ := hS; go_simp⟩) hHeld ?_
            simp only [Act.put, List.getElem_toArray, List.getElem_cons_zero, List.getElem_cons_succ, List.setIfInBounds_toArray, List.set_cons_zero, List.set_cons_succ]
            refine Ru.wpAnyU_take (i := 1) (v := .int .i64 (k : Int)) rfl (by kernel_rfl) (by kernel_rfl) (by kernel_rfl) (by kernel_rfl) (by kernel_rfl) (by kernel_rfl) (fun _ _ _ h => h) (Or.inl ⟨by kernel_rfl, fun w hS => by obtain ⟨sc0, sc1⟩ := hS; go_simp⟩) hHeld ?_
            simp only [Act.put, List.getElem_toArray, List.getElem_cons_zero, List.getElem_cons_succ, List.setIfInBounds_toArray, List.set_cons_zero, List.set_cons_succ]
            refine Ru.wpAnyU_take (i := 2) (v := .pointer (some (xl.add k))) rfl (by kernel_rfl) (by kernel_rfl) (by kernel_rfl) (by kernel_rfl) (by kernel_rfl) (by kernel_rfl) (fun _ _ _ h => h) (Or.inl ⟨by kernel_rfl, fun w hS => by obtain ⟨sc0, sc1⟩ := hS; go_simp⟩) hHeld ?_
            simp only [Act.put, List.getElem_toArray, List.getElem_cons_zero, List.getElem_cons_succ, List.setIfInBounds_toArray, List.set_cons_zero, List.set_cons_succ]
            refine Ru.wpAnyU_take (i := 3) (v := .int .i64 P) rfl (by kernel_rfl) (by kernel_rfl) (by kernel_rfl) (by kernel_rfl) (by kernel_rfl) (by kernel_rfl) (fun _ _ _ h => h) (Or.inl ⟨by kernel_rfl, fun w hS => by obtain ⟨sc0, sc1⟩ := hS; go_simp⟩) hHeld ?_
            simp only [Act.put, List.getElem_toArray, List.getElem_cons_zero, List.getElem_cons_succ, List.setIfInBounds_toArray, List.set_cons_zero, List.set_cons_succ]
            refine Ru.wpAnyU_take (i := 5) (v := .slice (some xl) n cl) rfl (by kernel_rfl) (by kernel_rfl) (by kernel_rfl) (by kernel_rfl) (by kernel_rfl) (by kernel_rfl) (fun _ _ _ h => h) (Or.inl ⟨by kernel_rfl, fun w hS => by obtain ⟨sc0, sc1⟩ := hS; go_simp⟩) hHeld ?_
            simp only [Act.put, List.getElem_toArray, List.getElem_cons_zero, List.getElem_cons_succ, List.setIfInBounds_toArray, List.set_cons_zero, List.set_cons_succ]
            refine Ru.wpAnyU_take (i := 6) (v := .int .i64 (b : Int)) rfl (by kernel_rfl) (by kernel_rfl) (by kernel_rfl) (by kernel_rfl) (by kernel_rfl) (by kernel_rfl) (fun _ _ _ h => h) (Or.inl ⟨by kernel_rfl, fun w hS => by obtain ⟨sc0, sc1⟩ := hS; go_simp⟩) hHeld ?_
            simp only [Act.put, List.getElem_toArray, List.getElem_cons_zero, List.getElem_cons_succ, List.setIfInBounds_toArray, List.set_cons_zero, List.set_cons_succ]
            refine Ru.wpAnyU_take (i := 7) (v := .pointer (some (xl.add b))) rfl (by kernel_rfl) (by kernel_rfl) (by kernel_rfl) (by kernel_rfl) (by kernel_rfl) (by kernel_rfl) (fun _ _ _ h => h) (Or.inl ⟨by kernel_rfl, fun w hS => by obtain ⟨sc0, sc1⟩ := hS; go_simp⟩) hHeld ?_
            simp only [Act.put, List.getElem_toArray, List.getElem_cons_zero, List.getElem_cons_succ, List.setIfInBounds_toArray, List.set_cons_zero, List.set_cons_succ]
            refine Ru.wpAnyU_take (i := 8) (v := .int .i64 R) rfl (by kernel_rfl) (by kernel_rfl) (by kernel_rfl) (by kernel_rfl) (by kernel_rfl) (by kernel_rfl) (fun _ _ _ h => h) (Or.inl ⟨by kernel_rfl, fun w hS => by obtain ⟨sc0, sc1⟩ := hS; go_simp⟩) hHeld ?_
            simp only [Act.put, List.getElem_toArray, List.getElem_cons_zero, List.getElem_cons_succ, List.setIfInBounds_toArray, List.set_cons_zero, List.set_cons_succ]
            refine Ru.wpAnyU_ready (rs := [4]) (by kernel_rfl) (by simp) ?_
            refine Ru.AllReadyU.cons rfl (by kernel_rfl) (fun K hK => ?_) Ru.AllReadyU.nil
            go_simp
            refine (OA.out _).mono ?_
            rintro _ w2 ⟨v2, rfl, i2, k2⟩
            have D2 := below_tr D1 k2
            go_wp2_with fail
            refine hK.out _ _ (HS.out _ D2) (fun hHeld => ?_)
            clear hK K
            try simp only [Act.put, List.getElem_toArray, List.getElem_cons_zero, List.getElem_cons_succ, List.setIfInBounds_toArray, List.set_cons_zero, List.set_cons_succ]
            refine Ru.wpAnyU_ready (rs := [9]) (by kernel_rfl) (by simp) ?_
            refine Ru.AllReadyU.cons rfl (by kernel_rfl) (fun K hK => ?_) Ru.AllReadyU.nil
            go_simp
            refine (OB.out _).mono ?_
            rintro _ w3 ⟨v3, rfl, i3, k3⟩
            have i2' := i2.below k3
            have D3 := below_tr D2 k3
            go_wp2_with fail
            refine hK.out _ _ (HS.out _ D3) (fun hHeld => ?_)
            clear hK K
            try simp only [Act.put, List.getElem_toArray, List.getElem_cons_zero, List.getElem_cons_succ, List.setIfInBounds_toArray, List.set_cons_zero, List.set_cons_succ]
            refine Ru.wpAnyU_ready (rs := [10]) (by kernel_rfl) (by simp) ?_
            refine Ru.AllReadyU.cons rfl (by kernel_rfl) (fun K hK => ?_) Ru.AllReadyU.nil
            go_simp
            refine (SB.out _ _ _ i2' i3).mono ?_
            rintro _ w4 ⟨v4, rfl, i4, k4⟩
            have D4 := below_tr D3 k4
            go_wp2_with fail
            refine hK.out _ _ (HS.out _ D4) (fun hHeld => ?_)
            clear hK K
            try simp only [Act.put, List.getElem_toArray, List.getElem_cons_zero, List.getElem_cons_succ, List.setIfInBounds_toArray, List.set_cons_zero, List.set_cons_succ]
            refine Ru.wpAnyU_ready (rs := [11]) (by kernel_rfl) (by simp) ?_
            refine Ru.AllReadyU.cons rfl (by kernel_rfl) (fun K hK => ?_) Ru.AllReadyU.nil
            go_simp
            refine (BD.out _ _ i4).mono ?_
            rintro _ w5 ⟨rfl, k5⟩
            have D5 := below_tr D4 k5
            go_wp2_with fail
            refine hK.out _ _ (HS.out _ D5) (fun hHeld => ?_)
            clear hK K
            try simp only [Act.put, List.getElem_toArray, List.getElem_cons_zero, List.getElem_cons_succ, List.setIfInBounds_toArray, List.set_cons_zero, List.set_cons_succ]
            refine Ru.wpAnyU_take (i := 12) (v := .tuple #[.int .i64 d, .bool g]) rfl (by kernel_rfl) (by kernel_rfl) (by kernel_rfl) (by kernel_rfl) (by kernel_rfl) (by kernel_rfl) (fun _ _ _ h => h) (Or.inl ⟨by kernel_rfl, fun w hS => by obtain ⟨sc0, sc1⟩ := hS; go_simp⟩) hHeld ?_
            simp only [Act.put, List.getElem_toArray, List.getElem_cons_zero, List.getElem_cons_succ, List.setIfInBounds_toArray, List.set_cons_zero, List.set_cons_succ]
            refine Ru.wpAnyU_take (i := 13) (v := .int .i64 d) rfl (by kernel_rfl) (by kernel_rfl) (by kernel_rfl) (by kernel_rfl) (by kernel_rfl) (by kernel_rfl) (fun _ _ _ h => h) (Or.inl ⟨by kernel_rfl, fun w hS => by obtain ⟨sc0, sc1⟩ := hS; go_simp⟩) hHeld ?_
            simp only [Act.put, List.getElem_toArray, List.getElem_cons_zero, List.getElem_cons_succ, List.setIfInBounds_toArray, List.set_cons_zero, List.set_cons_succ]
            refine Ru.wpAnyU_take (i := 14) (v := .bool g) rfl (by kernel_rfl) (by kernel_rfl) (by kernel_rfl) (by kernel_rfl) (by kernel_rfl) (by kernel_rfl) (fun _ _ _ h => h) (Or.inl ⟨by kernel_rfl, fun w hS => by obtain ⟨sc0, sc1⟩ := hS; go_simp⟩) hHeld ?_
            simp only [Act.put, List.getElem_toArray, List.getElem_cons_zero, List.getElem_cons_succ, List.setIfInBounds_toArray, List.set_cons_zero, List.set_cons_succ]
            refine Ru.wpAnyU_take (i := 15) (v := .int .i64 d) rfl (by kernel_rfl) (by kernel_rfl) (by kernel_rfl) (by kernel_rfl) (by kernel_rfl) (by kernel_rfl) (fun _ _ _ h => h) (Or.inl ⟨by kernel_rfl, fun w hS => by obtain ⟨sc0, sc1⟩ := hS; go_simp⟩) hHeld ?_
            simp only [Act.put, List.getElem_toArray, List.getElem_cons_zero, List.getElem_cons_succ, List.setIfInBounds_toArray, List.set_cons_zero, List.set_cons_succ]
            refine Ru.wpAnyU_take (i := 16) (v := .bool g) rfl (by kernel_rfl) (by kernel_rfl) (by kernel_rfl) (by kernel_rfl) (by kernel_rfl) (by kernel_rfl) (fun _ _ _ h => h) (Or.inl ⟨by kernel_rfl, fun w hS => by obtain ⟨sc0, sc1⟩ := hS; go_simp⟩) hHeld ?_
            simp only [Act.put, List.getElem_toArray, List.getElem_cons_zero, List.getElem_cons_succ, List.setIfInBounds_toArray, List.set_cons_zero, List.set_cons_succ]
            refine Ru.wpAnyU_done (by kernel_rfl) ?_
            have D5' := D5
            have HB5 := hideK (hown.keep D5)
            all_goals go_upto_region 20 with fail
            all_goals (
              refine Ru.wp_region_U [10] (fun w' => w'.cell? (xc.add k) = some (.int .i64 Q)) (by kernel_rfl) (HS2.out _ (below_tr D5' (Vc.below_drew' _))) (fun hHeld => ?_)
              refine Ru.wpAnyU_take (i := 1) (v := .int .i64 d) rfl (by kernel_rfl) (by kernel_rfl) (by kernel_rfl) (by kernel_rfl) (by kernel_rfl) (by kernel_rfl) (fun _ _ _ h => h) (Or.inl ⟨by kernel_rfl, fun w hS => by obtain sc0 := hS; go_simp⟩) hHeld ?_
              simp only [Act.put, List.getElem_toArray, List.getElem_cons_zero, List.getElem_cons_succ, List.setIfInBounds_toArray, List.set_cons_zero, List.set_cons_succ]
              refine Ru.wpAnyU_take (i := 0) (v := .slice vo k vc) rfl (by kernel_rfl) (by kernel_rfl) (by kernel_rfl) (by kernel_rfl) (by kernel_rfl) (by kernel_rfl) (fun _ _ _ h => h) (Or.inl ⟨by kernel_rfl, fun w hS => by obtain sc0 := hS; go_simp⟩) hHeld ?_
              simp only [Act.put, List.getElem_toArray, List.getElem_cons_zero, List.getElem_cons_succ, List.setIfInBounds_toArray, List.set_cons_zero, List.set_cons_succ]
              refine Ru.wpAnyU_take (i := 3) (v := .slice (some xc) n cc) rfl (by kernel_rfl) (by kernel_rfl) (by kernel_rfl) (by kernel_rfl) (by kernel_rfl) (by kernel_rfl) (fun _ _ _ h => h) (Or.inl ⟨by kernel_rfl, fun w hS => by obtain sc0 := hS; go_simp⟩) hHeld ?_
              simp only [Act.put, List.getElem_toArray, List.getElem_cons_zero, List.getElem_cons_succ, List.setIfInBounds_toArray, List.set_cons_zero, List.set_cons_succ]
              refine Ru.wpAnyU_take (i := 4) (v := .int .i64 (k : Int)) rfl (by kernel_rfl) (by kernel_rfl) (by kernel_rfl) (by kernel_rfl) (by kernel_rfl) (by kernel_rfl) (fun _ _ _ h => h) (Or.inl ⟨by kernel_rfl, fun w hS => by obtain sc0 := hS; go_simp⟩) hHeld ?_
              simp only [Act.put, List.getElem_toArray, List.getElem_cons_zero, List.getElem_cons_succ, List.setIfInBounds_toArray, List.set_cons_zero, List.set_cons_succ]
              refine Ru.wpAnyU_take (i := 5) (v := .pointer (some (xc.add k))) rfl (by kernel_rfl) (by kernel_rfl) (by kernel_rfl) (by kernel_rfl) (by kernel_rfl) (by kernel_rfl) (fun _ _ _ h => h) (Or.inl ⟨by kernel_rfl, fun w hS => by obtain sc0 := hS; go_simp⟩) hHeld ?_
              simp only [Act.put, List.getElem_toArray, List.getElem_cons_zero, List.getElem_cons_succ, List.setIfInBounds_toArray, List.set_cons_zero, List.set_cons_succ]
              refine Ru.wpAnyU_take (i := 6) (v := .int .i64 Q) rfl (by kernel_rfl) (by kernel_rfl) (by kernel_rfl) (by kernel_rfl) (by kernel_rfl) (by kernel_rfl) (fun _ _ _ h => h) (Or.inl ⟨by kernel_rfl, fun w hS => by obtain sc0 := hS; go_simp⟩) hHeld ?_
              simp only [Act.put, List.getElem_toArray, List.getElem_cons_zero, List.getElem_cons_succ, List.setIfInBounds_toArray, List.set_cons_zero, List.set_cons_succ]
              refine Ru.wpAnyU_ready (rs := [2]) (by kernel_rfl) (by simp) ?_
              refine Ru.AllReadyU.cons rfl (by kernel_rfl) (fun K hK => ?_) Ru.AllReadyU.nil
              go_simp
              refine (EX.out _).mono ?_
              rintro _ w6 ⟨rfl, k6⟩
              have D6 := below_tr (below_tr D5' (Vc.below_drew' _)) k6
              go_wp2_with fail
              refine hK.out _ _ (HS2.out _ D6) (fun hHeld => ?_)
              clear hK K
              try simp only [Act.put, List.getElem_toArray, List.getElem_cons_zero, List.getElem_cons_succ, List.setIfInBounds_toArray, List.set_cons_zero, List.set_cons_succ]
              refine Ru.wpAnyU_take (i := 7) (v := .int .i64 M) rfl (by kernel_rfl) (by kernel_rfl) (by kernel_rfl) (by kernel_rfl) (by kernel_rfl) (by kernel_rfl) (fun _ _ _ h => h) (Or.inl ⟨by kernel_rfl, fun w hS => by obtain sc0 := hS; go_simp⟩) hHeld ?_
              simp only [Act.put, List.getElem_toArray, List.getElem_cons_zero, List.getElem_cons_succ, List.setIfInBounds_toArray, List.set_cons_zero, List.set_cons_succ]
              refine Ru.wpAnyU_ready (rs := [8]) (by kernel_rfl) (by simp) ?_
              refine Ru.AllReadyU.cons rfl (by kernel_rfl) (fun K hK => ?_) Ru.AllReadyU.nil
              go_simp
              refine hK.out _ _ (HS2.out _ (below_al D6 _)) (fun hHeld => ?_)
              clear hK K
              try simp only [Act.put, List.getElem_toArray, List.getElem_cons_zero, List.getElem_cons_succ, List.setIfInBounds_toArray, List.set_cons_zero, List.set_cons_succ]
              refine Ru.wpAnyU_ready (rs := [9]) (by kernel_rfl) (by simp) ?_
              refine Ru.AllReadyU.cons rfl (by kernel_rfl) (fun K hK => ?_) Ru.AllReadyU.nil
              refine step_push (by rfl) (.tmp 102) (.tmp 110) (by rfl) w.heap.size w _ k Z (by rfl) (HB5.out.keep (below_tr (Vc.below_drew' _) k6)) (by omega) M HM'.out (by rfl) ?_
              intro v' w' hown'
              refine hK.out _ _ (by rw [HQ.out]; exact keep_cell hown'.below (HC.out k hkn)) (fun hHeld => ?_)
              clear hK K
              try simp only [Act.put, List.getElem_toArray, List.getElem_cons_zero, List.getElem_cons_succ, List.setIfInBounds_toArray, List.set_cons_zero, List.set_cons_succ]
              refine Ru.wpAnyU_ready (rs := [10]) (by kernel_rfl) (by simp) ?_
              refine Ru.AllReadyU.cons2 rfl (by kernel_rfl) (fun K hK => ?_) Ru.AllReadyU.nil
              go_simp
              refine hK.out _ _ ?_
              clear hK K
              try simp only [Act.put, List.getElem_toArray, List.getElem_cons_zero, List.getElem_cons_succ, List.setIfInBounds_toArray, List.set_cons_zero, List.set_cons_succ]
              refine wpAny_done (by kernel_rfl) ?_ _
              go_wp2
              go_roundw
              all_goals first
                | (simp [intOf]; omega)
                | exact ⟨k + 1, by omega, by go_num, by rw [HT.out]; first | rfl | (simp; done) | (simp [*]; done), hown'⟩)
        · clear hb hbe hbn
          obtain rfl : n = k := by omega
          obtain ⟨vo, vc, rfl, hs⟩ := hown.sl
          go_wp2_with fail
          refine (HOF.out _ _ _ hs).mono ?_
          rintro e w2 ⟨v, er, rfl, ho⟩
          rcases ho with ⟨q, _⟩ | ⟨_, q, _⟩ | ⟨_, _, rfl, ho⟩
          · exact absurd (wz_may HM.out) q
          · exact absurd q (by have := wz_pos HM.out; omega)
          · obtain ⟨v2, c2, rfl, _⟩ := ho.sl
            go_wp2
            go_ret3
            exact ⟨_, _, rfl, own_low ho hown.below hown.base⟩

set_option maxRecDepth 20000 in
set_option maxHeartbeats 2000000 in
theorem rweights_no (n m cl cc : Nat) (lo co : Option Addr) (l c : Nat → Int) (fl : Int) (w : World) (hl : Sl w lo n cl l) (hc : Sl w co m cc c) (bl' : B64 l) (bc' : B64 c) (f0 : -9223372036854775808 ≤ fl) (f1 : fl ≤ 9223372036854775807) (h : ¬ (n = m ∧ MayL n l c fl)) :
    Calls Tryz.prog 13 #[.slice lo n cl, .slice co m cc, .int .i64 fl] w fun e w' => e = .returned (.tuple #[.slice none 0 0, .bool false, .int .i64 1]) ∧ Below w.heap.size w w' := by
  by_cases hnm : n = m
  case neg =>
    have e0 : ((n : Int) != (m : Int)) = true := by simp; omega
    clear h hl hc
    go_enter Tryz.func13, Tryz.ntmps13
    go_wp2
    go_ret3
    exact ⟨rfl, Below.refl _ _⟩
  subst hnm
  have e0 : ((n : Int) != (n : Int)) = false := by simp
  by_cases hch : Ch n c 0
  case neg =>
    have HCK := hideK (fun W (a : Sl W co n cc c) => dcheck14_any co n cc c 0 W a bc' false (by simp; exact hch) (by omega) (by omega))
    have HC0 := hideK hc
    clear h hl hc hch
    go_enter Tryz.func13, Tryz.ntmps13
    go_wp2_with fail
    refine (HCK.out _ (HC0.out)).mono ?_
    rintro e w1 ⟨rfl, k1⟩
    go_wp2
    go_ret3
    exact ⟨rfl, k1⟩
  have HCK := hideK (fun W (a : Sl W co n cc c) => dcheck14_any co n cc c 0 W a bc' true (by simp; exact hch) (by omega) (by omega))
  have HC0 := hideK hc
  by_cases g0 : fl < 0
  case pos =>
    have e1 : decide (fl < 0) = true := decide_eq_true g0
    clear h hl hc hch
    go_enter Tryz.func13, Tryz.ntmps13
    go_wp2_with fail
    refine (HCK.out _ (HC0.out)).mono ?_
    rintro e w1 ⟨rfl, k1⟩
    go_wp2
    go_ret3
    exact ⟨rfl, k1⟩
  have e1 : decide (fl < 0) = false := decide_eq_false g0
  by_cases g1 : fl > 67108864
  case pos =>
    have e2 : decide (fl > 67108864) = true := decide_eq_true g1
    clear h hl hc hch
    go_enter Tryz.func13, Tryz.ntmps13
    go_wp2_with fail
    refine (HCK.out _ (HC0.out)).mono ?_
    rintro e w1 ⟨rfl, k1⟩
    go_wp2
    go_ret3
    exact ⟨rfl, k1⟩
  have e2 : decide (fl > 67108864) = false := decide_eq_false g1
  have hbad : Hid (¬ ∀ j, j < n → (-4611686018427387903 ≤ l j ∧ l j ≤ 4611686018427387903)) := fun q => h ⟨rfl, hch, by omega, by omega, q⟩
  obtain ⟨xl, hlo, hcl⟩ := hl.get
  obtain ⟨xc, hco, hcc⟩ := hc.get
  have n1 := hch.one
  have n4 := hch.four
  obtain rfl := hlo (by omega)
  obtain rfl := hco (by omega)
  have h2 := hl.cap
  have h4 := hc.cap
  have hl1 := hl.le
  have hc1 := hc.le
  have HL := hideK hcl
  have HC := hideK hcc
  clear h hl hc hlo hco hcl hcc bl' bc' f0 f1 hch g0 g1
  go_enter Tryz.func13, Tryz.ntmps13
  go_wp2_with fail
  refine (HCK.out _ (HC0.out)).mono ?_
  rintro e w1 ⟨rfl, k1⟩
  go_wp2
  go_loopw [9, 10] (fun b i wr => ∃ k : Nat, k ≤ n ∧ i = .int .i64 (k : Int) ∧ b = .int .i64 (bl l c k) ∧ Below w.heap.size w wr ∧ ∀ j, j < k → (-4611686018427387903 ≤ l j ∧ l j ≤ 4611686018427387903)) (fun _ i _ => n - (intOf i).toNat)
  case atStart => exact ⟨0, by omega, rfl, rfl, k1, fun j hj => absurd hj (by omega)⟩
  case round =>
    rename World => wr
    clear k1
    obtain ⟨k, hk, rfl, rfl, k1, hall⟩ := hrel
    by_cases hkn : k < n
    · have kn : (k : Int) < n := by omega
      have cl0 := keep_cell k1 (HL.out k hkn)
      have cc0 := keep_cell k1 (HC.out k hkn)
      by_cases mk : -4611686018427387903 ≤ l k ∧ l k ≤ 4611686018427387903
      case neg =>
        have HI := hideK (fun W => rin16_no (l k) W mk)
        clear hall mk
        go_wp2_with fail
        refine (HI.out _).mono ?_
        rintro e w2 ⟨rfl, q2⟩
        obtain rfl := q2.symm
        go_wp2
        go_ret3
        exact ⟨rfl, k1⟩
      have HA : Hid (∀ j, j < k + 1 → (-4611686018427387903 ≤ l j ∧ l j ≤ 4611686018427387903)) := fun j hj => by
        by_cases e : j = k
        · rw [e]; exact mk
        · exact hall j (by omega)
      have HI := hideK (fun W => rin16_yes (l k) W mk)
      have hlo := bl_lo l c k
      have H1 := hideK (bl_yes (l := l) (c := c) (k := k))
      have H0 := hideK (bl_no (l := l) (c := c) (k := k))
      obtain ⟨B, hB⟩ : ∃ B, B = bl l c k := ⟨_, rfl⟩
      rw [← hB] at H1 H0 hlo ⊢
      obtain ⟨P, hP⟩ : ∃ P, P = l k := ⟨_, rfl⟩
      obtain ⟨Q, hQ⟩ : ∃ Q, Q = c k := ⟨_, rfl⟩
      rw [← hP] at cl0 HI H1 H0
      rw [← hQ] at cc0 H1 H0
      clear hB hP hQ mk hall
      go_wp2_with fail
      refine (HI.out _).mono ?_
      rintro e w2 ⟨rfl, q2⟩
      obtain rfl := q2.symm
      by_cases h0 : 0 < Q
      · have g0 : decide (Q > 0) = true := decide_eq_true h0
        by_cases hb : B < 0
        · have g1 : decide (B < 0) = true := decide_eq_true hb
          have HE := hideK (H1.out h0 (Or.inl hb))
          clear H1 H0
          go_upto_region 9 with fail
          go_quiet (fail)
          go_wp2
          go_roundw
          all_goals first
            | (simp [intOf]; omega)
            | exact ⟨k + 1, by omega, by go_num, by rw [HE.out], Vc.below_drewN k1 _, HA.out⟩
        · have g1 : decide (B < 0) = false := decide_eq_false hb
          obtain ⟨b, rfl⟩ : ∃ b : Nat, B = (b : Int) := ⟨B.toNat, by omega⟩
          have bn : (b : Int) < n := by omega
          have cb := keep_cell k1 (HL.out b (by omega))
          rw [Int.toNat_natCast] at H1 H0
          obtain ⟨R, hR⟩ : ∃ R, R = l b := ⟨_, rfl⟩
          rw [← hR] at cb H1 H0
          clear hR
          by_cases hr : R < P
          · have g2 : decide (P > R) = true := decide_eq_true hr
            have HE := hideK (H1.out h0 (Or.inr hr))
            clear H1 H0
            go_upto_region 9 with fail
            go_quiet (fail)
            go_wp2
            go_roundw
            all_goals first
              | (simp [intOf]; omega)
              | exact ⟨k + 1, by omega, by go_num, by rw [HE.out], Vc.below_drewN k1 _, HA.out⟩
          · have g2 : decide (P > R) = false := decide_eq_false (by omega)
            have HE := hideK (H0.out (fun q => by have := q.2; omega))
            clear H1 H0
            go_upto_region 9 with fail
            go_quiet (fail)
            go_wp2
            go_roundw
            all_goals first
              | (simp [intOf]; omega)
              | exact ⟨k + 1, by omega, by go_num, by rw [HE.out], Vc.below_drewN k1 _, HA.out⟩
      · have g0 : decide (Q > 0) = false := decide_eq_false h0
        have HE := hideK (H0.out (fun q => h0 q.1))
        clear H1 H0
        go_upto_region 9 with fail
        go_quiet (fail)
        go_wp2
        go_roundw
        all_goals first
          | (simp [intOf]; omega)
          | exact ⟨k + 1, by omega, by go_num, by rw [HE.out], Vc.below_drewN k1 _, HA.out⟩
    · obtain rfl : n = k := by omega
      exact absurd hall hbad.out

namespace Lk
/-- The first place of the greatest. -/
def pl (l : Nat → Int) : Nat → Nat
  | 0 => 0
  | k + 1 => if l (pl l k) < l k then k else pl l k
theorem pl_lt (l : Nat → Int) : ∀ n, pl l n < n ∨ pl l n = 0
  | 0 => Or.inr rfl
  | n + 1 => by
    have := pl_lt l n
    show (if l (pl l n) < l n then n else pl l n) < n + 1 ∨ (if l (pl l n) < l n then n else pl l n) = 0
    split <;> omega
/-- How much greater it is than the others. -/
def lft (l : Nat → Int) (a : Nat) : Nat → Int
  | 0 => 4611686018427387903
  | k + 1 => if k ≠ a ∧ Qn.clamp (l a - l k) < lft l a k then Qn.clamp (l a - l k) else lft l a k
theorem pl_yes {l : Nat → Int} {k : Nat} (h : l (pl l k) < l k) : pl l (k + 1) = k := if_pos h
theorem pl_no {l : Nat → Int} {k : Nat} (h : ¬ l (pl l k) < l k) : pl l (k + 1) = pl l k := if_neg h
theorem lft_yes {l : Nat → Int} {a k : Nat} (h : k ≠ a) (h2 : Qn.clamp (l a - l k) < lft l a k) : lft l a (k + 1) = Qn.clamp (l a - l k) := if_pos ⟨h, h2⟩
theorem lft_no {l : Nat → Int} {a k : Nat} (h : ¬ (k ≠ a ∧ Qn.clamp (l a - l k) < lft l a k)) : lft l a (k + 1) = lft l a k := if_neg h
end Lk

set_option maxRecDepth 20000 in
set_option maxHeartbeats 2000000 in
theorem rbest_any (n cl : Nat) (lo : Option Addr) (l : Nat → Int) (w : World) (hl : Sl w lo n cl l) (bl' : B64 l) (n1 : 1 ≤ n) (n4 : n ≤ 64) :
    Calls Tryz.prog 16 #[.slice lo n cl] w fun e w' => e = .returned (.tuple #[.int .i64 (pl l n : Int), .int .i64 (lft l (pl l n) n)]) ∧ Below w.heap.size w w' := by
  obtain ⟨xl, hlo, hcl⟩ := hl.get
  obtain rfl := hlo (by omega)
  have h2 := hl.cap
  have hl1 := hl.le
  have HL := hideK hcl
  have BL := hideK bl'
  clear hl hlo hcl bl'
  go_enter Tryz.func16, Tryz.ntmps16
  go_wp2
  go_loopw [4, 5] (fun b i wr => ∃ k : Nat, k ≤ n ∧ i = .int .i64 (k : Int) ∧ b = .int .i64 (pl l k : Int) ∧ Below w.heap.size w wr) (fun _ i _ => n - (intOf i).toNat)
  case atStart => exact ⟨0, by omega, rfl, rfl, Below.refl _ _⟩
  case round =>
    rename World => wr
    obtain ⟨k, hk, rfl, rfl, k1⟩ := hrel
    by_cases hkn : k < n
    · have kn : (k : Int) < n := by omega
      have cl0 := keep_cell k1 (HL.out k hkn)
      have hlt := pl_lt l k
      have H1 := hideK (pl_yes (l := l) (k := k))
      have H0 := hideK (pl_no (l := l) (k := k))
      obtain ⟨a, ha⟩ : ∃ a, a = pl l k := ⟨_, rfl⟩
      rw [← ha] at hlt H1 H0 ⊢
      have an : (a : Int) < n := by omega
      have ca := keep_cell k1 (HL.out a (by omega))
      obtain ⟨P, hP⟩ : ∃ P, P = l k := ⟨_, rfl⟩
      obtain ⟨R, hR⟩ : ∃ R, R = l a := ⟨_, rfl⟩
      rw [← hP] at cl0 H1 H0
      rw [← hR] at ca H1 H0
      clear ha hP hR
      by_cases h0 : R < P
      · have g0 : decide (P > R) = true := decide_eq_true h0
        have HE := hideK (H1.out h0)
        clear H1 H0
        go_upto_region 5 with fail
        go_quiet (fail)
        go_wp2
        go_roundw
        all_goals first
          | (simp [intOf]; omega)
          | exact ⟨k + 1, by omega, by go_num, by rw [HE.out], Vc.below_drewN k1 _⟩
      · have g0 : decide (P > R) = false := decide_eq_false h0
        have HE := hideK (H0.out h0)
        clear H1 H0
        go_upto_region 5 with fail
        go_quiet (fail)
        go_wp2
        go_roundw
        all_goals first
          | (simp [intOf]; omega)
          | exact ⟨k + 1, by omega, by go_num, by rw [HE.out], Vc.below_drewN k1 _⟩
    · obtain rfl : n = k := by omega
      have hlt := pl_lt l n
      obtain ⟨a, ha⟩ : ∃ a, a = pl l n := ⟨_, rfl⟩
      rw [← ha] at hlt ⊢
      have HA := hideK ha
      clear ha
      have an : (a : Int) < n := by omega
      go_wp2
      go_loopw [6, 7, 8, 9] (fun f i _ _ w2 => ∃ k : Nat, k ≤ n ∧ i = .int .i64 (k : Int) ∧ f = .int .i64 (lft l a k) ∧ Below w.heap.size w w2) (fun _ i _ _ _ => n - (intOf i).toNat)
      case atStart => exact ⟨0, by omega, rfl, rfl, k1⟩
      case round =>
        clear k1
        rename World => wr
        obtain ⟨k, hk, rfl, rfl, B1⟩ := hrel
        by_cases hkn : k < n
        · have kn : (k : Int) < n := by omega
          have cl0 := keep_cell B1 (HL.out k hkn)
          have cb0 := keep_cell B1 (HL.out a (by omega))
          have pk := BL.out k
          have pb := BL.out a
          have H1 := hideK (lft_yes (l := l) (a := a) (k := k))
          have H0 := hideK (lft_no (l := l) (a := a) (k := k))
          obtain ⟨F, hF⟩ : ∃ F, F = lft l a k := ⟨_, rfl⟩
          obtain ⟨P, hP⟩ : ∃ P, P = l a := ⟨_, rfl⟩
          obtain ⟨R, hR⟩ : ∃ R, R = l k := ⟨_, rfl⟩
          rw [← hF, ← hP, ← hR] at H1 H0
          rw [← hF]
          rw [← hR] at cl0 pk
          rw [← hP] at cb0 pb
          have OA := hideK (fun W => of_any P W pb.1 pb.2)
          have OB := hideK (fun W => of_any R W pk.1 pk.2)
          have SB := hideK (fun va vb W => sub_any va vb P R W (digs_short (by omega) (by omega)) (digs_short (by omega) (by omega)))
          have BD := hideK (fun v W => bound_is v (P - R) W (digs_short (by omega) (by omega)))
          obtain ⟨d, hd'⟩ : ∃ d, d = Qn.clamp (P - R) := ⟨_, rfl⟩
          obtain ⟨g, hg⟩ : ∃ g, g = Qn.great (P - R) := ⟨_, rfl⟩
          obtain ⟨D, hDD⟩ : ∃ D, D = P - R := ⟨_, rfl⟩
          rw [← hg] at BD
          rw [← hd'] at BD H1 H0
          rw [← hDD] at BD SB
          have HS : Hid (∀ V, Below wr.heap.size wr V → V.cell? (xl.add a) = some (.int .i64 P) ∧ V.cell? (xl.add k) = some (.int .i64 R)) := fun V q => ⟨keep_cell q cb0, keep_cell q cl0⟩
          have B1' := hideK B1
          clear hF hP hR pk pb hd' hg hDD cl0 cb0
          go_upto_region 11 with fail
          have D1 := Vc.below_drew' wr
          refine Ru.wp_region_U [] (fun w' => w'.cell? (xl.add a) = some (.int .i64 P) ∧ w'.cell? (xl.add k) = some (.int .i64 R)) (by kernel_rfl) (HS.out _ D1) (fun hHeld => ?_)
          refine Ru.wpAnyU_take (i := 0) (v := .slice (some xl) n cl) rfl (by kernel_rfl) (by kernel_rfl) (by kernel_rfl) (by kernel_rfl) (by kernel_rfl) (by kernel_rfl) (fun _ _ _ h => h) (Or.inl ⟨by kernel_rfl, fun w hS => by obtain ⟨sc0, sc1⟩ := hS; go_simp⟩) hHeld ?_
          simp only [Act.put, List.getElem_toArray, List.getElem_cons_zero, List.getElem_cons_succ, List.setIfInBounds_toArray, List.set_cons_zero, List.set_cons_succ]
          refine Ru.wpAnyU_take (i := 1) (v := .int .i64 (a : Int)) rfl (by kernel_rfl) (by kernel_rfl) (by kernel_rfl) (by kernel_rfl) (by kernel_rfl) (by kernel_rfl) (fun _ _ _ h => h) (Or.inl ⟨by kernel_rfl, fun w hS => by obtain ⟨sc0, sc1⟩ := hS; go_simp⟩) hHeld ?_
          simp only [Act.put, List.getElem_toArray, List.getElem_cons_zero, List.getElem_cons_succ, List.setIfInBounds_toArray, List.set_cons_zero, List.set_cons_succ]
          refine Ru.wpAnyU_take (i := 2) (v := .pointer (some (xl.add a))) rfl (by kernel_rfl) (by kernel_rfl) (by kernel_rfl) (by kernel_rfl) (by kernel_rfl) (by kernel_rfl) (fun _ _ _ h => h) (Or.inl ⟨by kernel_rfl, fun w hS => by obtain ⟨sc0, sc1⟩ := hS; go_simp⟩) hHeld ?_
          simp only [Act.put, List.getElem_toArray, List.getElem_cons_zero, List.getElem_cons_succ, List.setIfInBounds_toArray, List.set_cons_zero, List.set_cons_succ]
          refine Ru.wpAnyU_take (i := 3) (v := .int .i64 P) rfl (by kernel_rfl) (by kernel_rfl) (by kernel_rfl) (by kernel_rfl) (by kernel_rfl) (by kernel_rfl) (fun _ _ _ h => h) (Or.inl ⟨by kernel_rfl, fun w hS => by obtain ⟨sc0, sc1⟩ := hS; go_simp⟩) hHeld ?_
          simp only [Act.put, List.getElem_toArray, List.getElem_cons_zero, List.getElem_cons_succ, List.setIfInBounds_toArray, List.set_cons_zero, List.set_cons_succ]
          refine Ru.wpAnyU_take (i := 5) (v := .slice (some xl) n cl) rfl (by kernel_rfl) (by kernel_rfl) (by kernel_rfl) (by kernel_rfl) (by kernel_rfl) (by kernel_rfl) (fun _ _ _ h => h) (Or.inl ⟨by kernel_rfl, fun w hS => by obtain ⟨sc0, sc1⟩ := hS; go_simp⟩) hHeld ?_
          simp only [Act.put, List.getElem_toArray, List.getElem_cons_zero, List.getElem_cons_succ, List.setIfInBounds_toArray, List.set_cons_zero, List.set_cons_succ]
          refine Ru.wpAnyU_take (i := 6) (v := .int .i64 (k : Int)) rfl (by kernel_rfl) (by kernel_rfl) (by kernel_rfl) (by kernel_rfl) (by kernel_rfl) (by kernel_rfl) (fun _ _ _ h => h) (Or.inl ⟨by kernel_rfl, fun w hS => by obtain ⟨sc0, sc1⟩ := hS; go_simp⟩) hHeld ?_
          simp only [Act.put, List.getElem_toArray, List.getElem_cons_zero, List.getElem_cons_succ, List.setIfInBounds_toArray, List.set_cons_zero, List.set_cons_succ]
          refine Ru.wpAnyU_take (i := 7) (v := .pointer (some (xl.add k))) rfl (by kernel_rfl) (by kernel_rfl) (by kernel_rfl) (by kernel_rfl) (by kernel_rfl) (by kernel_rfl) (fun _ _ _ h => h) (Or.inl ⟨by kernel_rfl, fun w hS => by obtain ⟨sc0, sc1⟩ := hS; go_simp⟩) hHeld ?_
          simp only [Act.put, List.getElem_toArray, List.getElem_cons_zero, List.getElem_cons_succ, List.setIfInBounds_toArray, List.set_cons_zero, List.set_cons_succ]
          refine Ru.wpAnyU_take (i := 8) (v := .int .i64 R) rfl (by kernel_rfl) (by kernel_rfl) (by kernel_rfl) (by kernel_rfl) (by kernel_rfl) (by kernel_rfl) (fun _ _ _ h => h) (Or.inl ⟨by kernel_rfl, fun w hS => by obtain ⟨sc0, sc1⟩ := hS; go_simp⟩) hHeld ?_
          simp only [Act.put, List.getElem_toArray, List.getElem_cons_zero, List.getElem_cons_succ, List.setIfInBounds_toArray, List.set_cons_zero, List.set_cons_succ]
          refine Ru.wpAnyU_ready (rs := [4]) (by kernel_rfl) (by simp) ?_
          refine Ru.AllReadyU.cons rfl (by kernel_rfl) (fun K hK => ?_) Ru.AllReadyU.nil
          go_simp
          refine (OA.out _).mono ?_
          rintro _ w2 ⟨v2, rfl, i2, k2⟩
          have D2 := below_tr D1 k2
          go_wp2_with fail
          refine hK.out _ _ (HS.out _ D2) (fun hHeld => ?_)
          clear hK K
          try simp only [Act.put, List.getElem_toArray, List.getElem_cons_zero, List.getElem_cons_succ, List.setIfInBounds_toArray, List.set_cons_zero, List.set_cons_succ]
          refine Ru.wpAnyU_ready (rs := [9]) (by kernel_rfl) (by simp) ?_
          refine Ru.AllReadyU.cons rfl (by kernel_rfl) (fun K hK => ?_) Ru.AllReadyU.nil
          go_simp
          refine (OB.out _).mono ?_
          rintro _ w3 ⟨v3, rfl, i3, k3⟩
          have i2' := i2.below k3
          have D3 := below_tr D2 k3
          go_wp2_with fail
          refine hK.out _ _ (HS.out _ D3) (fun hHeld => ?_)
          clear hK K
          try simp only [Act.put, List.getElem_toArray, List.getElem_cons_zero, List.getElem_cons_succ, List.setIfInBounds_toArray, List.set_cons_zero, List.set_cons_succ]
          refine Ru.wpAnyU_ready (rs := [10]) (by kernel_rfl) (by simp) ?_
          refine Ru.AllReadyU.cons rfl (by kernel_rfl) (fun K hK => ?_) Ru.AllReadyU.nil
          go_simp
          refine (SB.out _ _ _ i2' i3).mono ?_
          rintro _ w4 ⟨v4, rfl, i4, k4⟩
          have D4 := below_tr D3 k4
          go_wp2_with fail
          refine hK.out _ _ (HS.out _ D4) (fun hHeld => ?_)
          clear hK K
          try simp only [Act.put, List.getElem_toArray, List.getElem_cons_zero, List.getElem_cons_succ, List.setIfInBounds_toArray, List.set_cons_zero, List.set_cons_succ]
          refine Ru.wpAnyU_ready (rs := [11]) (by kernel_rfl) (by simp) ?_
          refine Ru.AllReadyU.cons rfl (by kernel_rfl) (fun K hK => ?_) Ru.AllReadyU.nil
          go_simp
          refine (BD.out _ _ i4).mono ?_
          rintro _ w5 ⟨rfl, k5⟩
          have D5 := below_tr D4 k5
          go_wp2_with fail
          refine hK.out _ _ (HS.out _ D5) (fun hHeld => ?_)
          clear hK K
          try simp only [Act.put, List.getElem_toArray, List.getElem_cons_zero, List.getElem_cons_succ, List.setIfInBounds_toArray, List.set_cons_zero, List.set_cons_succ]
          refine Ru.wpAnyU_take (i := 12) (v := .tuple #[.int .i64 d, .bool g]) rfl (by kernel_rfl) (by kernel_rfl) (by kernel_rfl) (by kernel_rfl) (by kernel_rfl) (by kernel_rfl) (fun _ _ _ h => h) (Or.inl ⟨by kernel_rfl, fun w hS => by obtain ⟨sc0, sc1⟩ := hS; go_simp⟩) hHeld ?_
          simp only [Act.put, List.getElem_toArray, List.getElem_cons_zero, List.getElem_cons_succ, List.setIfInBounds_toArray, List.set_cons_zero, List.set_cons_succ]
          refine Ru.wpAnyU_take (i := 13) (v := .int .i64 d) rfl (by kernel_rfl) (by kernel_rfl) (by kernel_rfl) (by kernel_rfl) (by kernel_rfl) (by kernel_rfl) (fun _ _ _ h => h) (Or.inl ⟨by kernel_rfl, fun w hS => by obtain ⟨sc0, sc1⟩ := hS; go_simp⟩) hHeld ?_
          simp only [Act.put, List.getElem_toArray, List.getElem_cons_zero, List.getElem_cons_succ, List.setIfInBounds_toArray, List.set_cons_zero, List.set_cons_succ]
          refine Ru.wpAnyU_take (i := 14) (v := .bool g) rfl (by kernel_rfl) (by kernel_rfl) (by kernel_rfl) (by kernel_rfl) (by kernel_rfl) (by kernel_rfl) (fun _ _ _ h => h) (Or.inl ⟨by kernel_rfl, fun w hS => by obtain ⟨sc0, sc1⟩ := hS; go_simp⟩) hHeld ?_
          simp only [Act.put, List.getElem_toArray, List.getElem_cons_zero, List.getElem_cons_succ, List.setIfInBounds_toArray, List.set_cons_zero, List.set_cons_succ]
          refine Ru.wpAnyU_take (i := 15) (v := .int .i64 d) rfl (by kernel_rfl) (by kernel_rfl) (by kernel_rfl) (by kernel_rfl) (by kernel_rfl) (by kernel_rfl) (fun _ _ _ h => h) (Or.inl ⟨by kernel_rfl, fun w hS => by obtain ⟨sc0, sc1⟩ := hS; go_simp⟩) hHeld ?_
          simp only [Act.put, List.getElem_toArray, List.getElem_cons_zero, List.getElem_cons_succ, List.setIfInBounds_toArray, List.set_cons_zero, List.set_cons_succ]
          refine Ru.wpAnyU_take (i := 16) (v := .bool g) rfl (by kernel_rfl) (by kernel_rfl) (by kernel_rfl) (by kernel_rfl) (by kernel_rfl) (by kernel_rfl) (fun _ _ _ h => h) (Or.inl ⟨by kernel_rfl, fun w hS => by obtain ⟨sc0, sc1⟩ := hS; go_simp⟩) hHeld ?_
          simp only [Act.put, List.getElem_toArray, List.getElem_cons_zero, List.getElem_cons_succ, List.setIfInBounds_toArray, List.set_cons_zero, List.set_cons_succ]
          refine Ru.wpAnyU_done (by kernel_rfl) ?_
          have HB := hideK (below_tr B1'.out D5)
          by_cases hka : k = a
          · have e4 : ((k : Int) != (a : Int)) = false := by simp [hka]
            have HE := hideK (H0.out (fun q => q.1 hka))
            clear H1 H0
            go_wp2
            go_roundw
            all_goals first
              | (simp [intOf]; omega)
              | exact ⟨k + 1, by omega, by go_num, by rw [HE.out], HB.out⟩
          · have e4 : ((k : Int) != (a : Int)) = true := by simp; omega
            by_cases hdf : d < F
            · have e5 : decide (d < F) = true := decide_eq_true hdf
              have HE := hideK (H1.out hka hdf)
              clear H1 H0
              go_wp2
              go_roundw
              all_goals first
                | (simp [intOf]; omega)
                | exact ⟨k + 1, by omega, by go_num, by rw [HE.out], HB.out⟩
            · have e5 : decide (d < F) = false := decide_eq_false hdf
              have HE := hideK (H0.out (fun q => hdf q.2))
              clear H1 H0
              go_wp2
              go_roundw
              all_goals first
                | (simp [intOf]; omega)
                | exact ⟨k + 1, by omega, by go_num, by rw [HE.out], HB.out⟩
        · obtain rfl : n = k := by omega
          go_wp2
          go_ret2
          exact ⟨by rw [HA.out]; rfl, B1⟩
end Go.Proofs.YtdgcnaijndocnaaGreatDoor
