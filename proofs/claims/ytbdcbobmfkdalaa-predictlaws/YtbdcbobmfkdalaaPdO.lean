/-
  Layer 12's laws: a state of small numbers (someState).
-/
import Derived.Test.YtbdcbobmfkdalaaM9
import Derived.Test.YtbdcbobmfkdalaaM17
import Derived.Test.YtbdcbobmfkdalaaM4
set_option linter.unusedSimpArgs false
set_option linter.unusedVariables false
namespace Go.Proofs.Ytbdcbobmfkdalaa
open Go.RowKit Vc St Mt Cm Ld Pd Pr Qn Dt
attribute [local go_sem ↓] Go.wp_at_zero Go.wp_at_succ

namespace Pd
theorem hide2 {p : Prop} (h : p) : Hid p := h
theorem isR3 : Is 32 2 := ⟨by kernel_rfl, ⟨_, Try.underlying32, rfl⟩⟩
theorem soP_eq (m : Nat) (K : Nat → Nat) (Z : Nat → Nat → Int) (k : Nat) : soP m K Z k k = (if soN m K Z k k < 0 then -soN m K Z k k else soN m K Z k k) + 68719476736 := by unfold soP; rw [if_pos rfl]
theorem soP_ne (m : Nat) (K : Nat → Nat) (Z : Nat → Nat → Int) {k j : Nat} (h : k ≠ j) : soP m K Z k j = soN m K Z (max k j) (min k j) := by unfold soP; rw [if_neg h]
end Pd

set_option maxRecDepth 20000 in
set_option maxHeartbeats 8000000 in
theorem psome_any (xo po : Option Addr) (l xc m pc : Nat) (zx : Nat → Int) (A : Nat → Option Addr) (K C : Nat → Nat) (Z : Nat → Nat → Int) (w : World) (hX : Sl w xo l xc zx) (hP : Sls w po m pc A K C) (hZ : ∀ r, r < m → Sl w (A r) (K r) (C r) (Z r)) :
    Calls Try.prog 5 #[.slice xo l xc, .slice po m pc, .int .i64 68719476736] w fun e w' => ∃ yo yc ro rc, e = .returned (.agg #[.slice yo 6 yc, .slice ro 6 rc]) ∧ Sl w' yo 6 yc (soX l zx) ∧ Grid w' ro 6 rc 6 (soP m K Z) ∧ Below w.heap.size w w' := by
  have r0 := crow_new w 32 [.slice none 0 0, .slice none 0 0]
  have B0 := below_al (Below.refl _ w) (.cells [.slice none 0 0, .slice none 0 0].toArray 32)
  obtain ⟨W, hW⟩ : ∃ W, W = w.alloc (.cells [.slice none 0 0, .slice none 0 0].toArray 32) := ⟨_, rfl⟩
  rw [← hW] at r0 B0
  have HW := hide2 hW
  have lX1 := hX.le
  have lX2 := hX.cap
  have lP1 := hP.le
  have lP2 := hP.cap
  have HX := hide2 hX
  have HP := hide2 hP
  have HZ := hide2 hZ
  clear hW hX hP hZ
  go_enter Try.func5, Try.ntmps5
  go_wp2_with (first
    | (erw [← HW.out])
    | (refine St.wpList_storeNew isR3 rfl _ _ (by rfl) _ [.slice none 0 0, .slice none 0 0] [.slice none 0 0, .slice none 0 0] (by rfl) (by rfl) rfl rfl (by intro v hv; simp only [List.mem_cons, List.not_mem_nil, or_false] at hv; rcases hv with rfl | rfl <;> rfl) ?_; intro w1 n1 k1; have r1 := CRow.keep r0 k1; have B1 := below_tr B0 k1)
    | fail)
  have l0 := CRow.lt r0
  have l1 := CRow.lt n1
  have lb := B0.size
  obtain ⟨g, hg⟩ : ∃ g, g = W.heap.size := ⟨_, rfl⟩
  rw [← hg] at n1 l0 l1 ⊢
  obtain ⟨o, ho⟩ : ∃ o, o = w1.heap.size := ⟨_, rfl⟩
  rw [← ho] at l1
  have z1 : Ls.Sts o w1 (.slice none 0 0) (.slice none 0 0) 0 0 6 (soX l zx) (soP m K Z) := Ls.Sts.nil (by omega) _ _ _
  have hR : ∀ V, But (fun q => q = g ∨ o ≤ q) w1 V → CRow V w.heap.size 32 [.slice none 0 0, .slice none 0 0] := fun V k => crowBut r1 k (by rintro (e | e) <;> omega)
  have hB : ∀ V, But (fun q => q = g ∨ o ≤ q) w1 V → Below w.heap.size w V := fun V k => k.below B1 B1.size (by rintro q (e | e) <;> omega)
  have HR := hide2 hR
  have HB := hide2 hB
  clear hR hB r0 r1 B0 B1 k1 ho hg HW lb
  go_loopw [8] (fun i wr => ∃ (k : Nat) (vX vP : Value), k ≤ 6 ∧ i = .int .i64 (k : Int) ∧ CRow wr g 32 [vX, vP] ∧ Ls.Sts o wr vX vP k k 6 (soX l zx) (soP m K Z) ∧ But (fun q => q = g ∨ o ≤ q) w1 wr) (fun i _ => 6 - (intOf i).toNat)
  case atStart => exact ⟨0, _, _, by omega, rfl, n1, z1, But.refl _ _⟩
  case round =>
    rename World => wr
    obtain ⟨k, vX, vP, hk, rfl, nr, zr, br⟩ := hrel
    by_cases h : k < 6
    · have Br := HB.out _ br
      have xr := HX.out.keep Br
      have cX : wr.cell? ⟨g, 0, none⟩ = some vX := CRow.cell nr (k := 0) rfl rfl
      have e64 : soX l zx k = soX l zx k := rfl
      have bX := soX_in l zx k
      obtain ⟨V, hV⟩ : ∃ V, V = soX l zx k := ⟨_, rfl⟩
      rw [← hV] at bX
      have HV := hide2 hV
      clear e64 hV
      go_upto_if 23 with fail
      go_cut [9] (fun v wx => v = .int .i64 V ∧ wx = wr)
      case first =>
        by_cases hl : k < l
        · obtain ⟨xa, hxa, hxc⟩ := xr.get
          obtain rfl := hxa (by omega)
          have cz := hxc k hl
          have d1 : decide ((k : Int) < (l : Int)) = true := decide_eq_true (by omega)
          have eV : Hid (V = (zx k).tmod 68719476736) := by show V = _; rw [HV.out]; unfold soX; rw [if_pos hl]
          obtain ⟨zk, hzk⟩ : ∃ z, z = zx k := ⟨_, rfl⟩
          rw [← hzk] at cz eV
          have e1 : Int.tmod zk 68719476736 = V := eV.out.symm
          clear hzk hxa hxc eV
          go_wp2
          go_meet
          exact ⟨rfl, rfl⟩
        · have d1 : decide ((k : Int) < (l : Int)) = false := decide_eq_false (by omega)
          have eV : V = 0 := by rw [HV.out]; unfold soX; rw [if_neg hl]
          go_wp2
          go_meet
          exact ⟨by rw [eV], rfl⟩
      obtain ⟨rfl, rfl⟩ := hcut
      go_wp2_with (first
        | (at_builtin; refine Ls.pushX (by rfl) _ _ (by rfl) o _ vP k k 6 (soX l zx) (soP m K Z) (by rfl) zr (by omega) (by omega) V HV.out (by rfl) ?_)
        | fail)
      intro v' w' zp bp
      obtain ⟨lo', cm', hv', _⟩ := zp.sl
      subst hv'
      have n2 := crowBut nr bp (by omega)
      have c2 : w'.cell? ⟨g, 0, none⟩ = some vX := CRow.cell n2 (k := 0) rfl rfl
      have f2 := CRow.free n2 0
      have n3 := CRow.set n2 0 (.slice lo' (k + 1) cm')
      have b3 := (br.trans (bp.mono fun q e => Or.inr e)).set (p := ⟨g, 0, none⟩) (.slice lo' (k + 1) cm') (Or.inl rfl)
      have z3 := zp.put (g := g) l1 ((But.refl (· = g) w').set (p := ⟨g, 0, none⟩) (.slice lo' (k + 1) cm') rfl)
      obtain ⟨w3, hw3⟩ : ∃ W, W = w'.setCell ⟨g, 0, none⟩ (.slice lo' (k + 1) cm') := ⟨_, rfl⟩
      rw [← hw3] at n3 b3 z3
      have H3 := hide2 hw3
      have B3 := HB.out _ b3
      clear hw3 n2 bp zp nr br zr cX xr
      go_wp2_with (first | (rw [← H3.out]) | fail)
      go_loopw [10, 11] (fun v i wi => ∃ j : Nat, j ≤ 6 ∧ i = .int .i64 (j : Int) ∧ Own w3.heap.size w3 wi v j (soP m K Z k)) (fun _ i _ => 6 - (intOf i).toNat)
      case atStart => exact ⟨0, by omega, rfl, Own.nil (Below.refl _ _) (Nat.le_refl _) _⟩
      case round =>
        rename World => wi
        obtain ⟨j, hj, rfl, hO⟩ := hrel
        by_cases h5 : j < 6
        · have Bi := below_tr B3 hO.below
          obtain ⟨a, ha⟩ : ∃ a, a = max k j := ⟨_, rfl⟩
          obtain ⟨b, hb⟩ : ∃ b, b = min k j := ⟨_, rfl⟩
          have e1 : max (k : Int) (j : Int) = (a : Int) := by omega
          have e2 : min (k : Int) (j : Int) = (b : Int) := by omega
          have bN := soN_in m K Z a b
          have HN : Hid (soN m K Z a b = soN m K Z a b) := rfl
          obtain ⟨n, hn⟩ : ∃ n, n = soN m K Z a b := ⟨_, rfl⟩
          rw [← hn] at bN
          have HNv := hide2 hn
          have a6 : a < 6 := by omega
          have b6 : b < 6 := by omega
          have eP : Hid (soP m K Z k j = if k = j then (if n < 0 then -n else n) + 68719476736 else n) := by
            show _ = _
            by_cases e : k = j
            · subst e
              have ea : a = k := by omega
              have eb : b = k := by omega
              rw [if_pos rfl, soP_eq, hn, ea, eb]
            · rw [if_neg e, soP_ne _ _ _ e, hn, ha, hb]
          have HAB : Hid (a = max k j ∧ b = min k j) := ⟨ha, hb⟩
          clear hn HN ha hb
          by_cases hm : a < m
          · obtain ⟨pa, hpa, hpc⟩ := (HP.out.keep Bi).get
            obtain rfl := hpa (by omega)
            have cr := hpc a hm
            have sr := (HZ.out a hm).keep Bi
            have l5 := sr.le
            have l6 := sr.cap
            have d1 : decide ((a : Int) < (m : Int)) = true := decide_eq_true (by omega)
            obtain ⟨ka, hka⟩ : ∃ q, q = K a := ⟨_, rfl⟩
            obtain ⟨ca, hca⟩ : ∃ q, q = C a := ⟨_, rfl⟩
            rw [← hka] at cr sr l5
            rw [← hca] at cr sr l5 l6
            by_cases hb : b < ka
            · obtain ⟨ra, hra, hrc⟩ := sr.get
              rw [hra (by omega)] at cr
              have cz := hrc b hb
              have d2 : decide ((b : Int) < (ka : Int)) = true := decide_eq_true (by omega)
              have eV : Hid (n = (Z a b).tmod 1073741824) := by show n = _; rw [HNv.out]; unfold soN; rw [if_pos ⟨hm, by rw [← hka]; exact hb⟩]
              obtain ⟨zk, hzk⟩ : ∃ z, z = Z a b := ⟨_, rfl⟩
              rw [← hzk] at cz eV
              have e3 : Int.tmod zk 1073741824 = n := eV.out.symm
              clear hzk hpa hpc hra hrc sr eV hka hca
              obtain ⟨y, hy⟩ : ∃ y, y = soP m K Z k j := ⟨_, rfl⟩
              have HY := hide2 hy
              rw [← hy] at eP
              clear hy
              by_cases ekj : k = j
              · subst ekj
                by_cases hn0 : n < 0
                · have ey : Hid (y = -n + 68719476736) := by show y = _; rw [eP.out, if_pos rfl, if_pos hn0]
                  have e4 : -n + 68719476736 = y := ey.out.symm
                  have d3 : decide (n < 0) = true := decide_eq_true hn0
                  have by0 : 68719476736 ≤ y ∧ y < 69793218560 := by omega
                  clear ey eP HNv HAB
                  go_wp2_with (first
                    | (at_builtin; refine Ls.pushN (by rfl) _ _ (by rfl) w3.heap.size w3 _ k (soP m K Z k) (by rfl) hO (by omega) y HY.out (by rfl) ?_)
                    | fail)
                  intro v4 w4 hO4
                  go_wp2
                  go_roundw
                  case rel => exact ⟨k + 1, by omega, by go_num, hO4⟩
                  case measure => simp [intOf]; omega
                · have ey : Hid (y = n + 68719476736) := by show y = _; rw [eP.out, if_pos rfl, if_neg hn0]
                  have e4 : n + 68719476736 = y := ey.out.symm
                  have d3 : decide (n < 0) = false := decide_eq_false hn0
                  have by0 : 68719476736 ≤ y ∧ y < 69793218560 := by omega
                  clear ey eP HNv HAB
                  go_wp2_with (first
                    | (at_builtin; refine Ls.pushN (by rfl) _ _ (by rfl) w3.heap.size w3 _ k (soP m K Z k) (by rfl) hO (by omega) y HY.out (by rfl) ?_)
                    | fail)
                  intro v4 w4 hO4
                  go_wp2
                  go_roundw
                  case rel => exact ⟨k + 1, by omega, by go_num, hO4⟩
                  case measure => simp [intOf]; omega
              · have ey : Hid (y = n) := by show y = _; rw [eP.out, if_neg ekj]
                have d5 : ((k : Int) == (j : Int)) = false := beq_eq_false_iff_ne.2 (by omega)
                have d6 : decide ((k : Int) = (j : Int)) = false := decide_eq_false (by omega)
                have HY2 : Hid (n = soP m K Z k j) := by show n = _; rw [← HY.out, ey.out]
                clear ey eP HNv HAB HY
                go_wp2_with (first
                  | (at_builtin; refine Ls.pushN (by rfl) _ _ (by rfl) w3.heap.size w3 _ j (soP m K Z k) (by rfl) hO (by omega) n HY2.out (by rfl) ?_)
                  | fail)
                intro v4 w4 hO4
                go_wp2
                go_roundw
                case rel => exact ⟨j + 1, by omega, by go_num, hO4⟩
                case measure => simp [intOf]; omega
            · have d2 : decide ((b : Int) < (ka : Int)) = false := decide_eq_false (by omega)
              have eV : n = 0 := by rw [HNv.out]; unfold soN; rw [if_neg (fun q => hb (by rw [hka]; exact q.2))]
              subst eV
              clear hpa hpc sr hka hca
              by_cases ekj : k = j
              · subst ekj
                have HY2 : Hid (68719476736 = soP m K Z k k) := by show (68719476736 : Int) = _; rw [eP.out, if_pos rfl]; rfl
                clear eP HNv HAB
                go_wp2_with (first
                  | (at_builtin; refine Ls.pushN (by rfl) _ _ (by rfl) w3.heap.size w3 _ k (soP m K Z k) (by rfl) hO (by omega) 68719476736 HY2.out (by rfl) ?_)
                  | fail)
                intro v4 w4 hO4
                go_wp2
                go_roundw
                case rel => exact ⟨k + 1, by omega, by go_num, hO4⟩
                case measure => simp [intOf]; omega
              · have HY2 : Hid (0 = soP m K Z k j) := by show (0 : Int) = _; rw [eP.out, if_neg ekj]
                have d5 : ((k : Int) == (j : Int)) = false := beq_eq_false_iff_ne.2 (by omega)
                have d6 : decide ((k : Int) = (j : Int)) = false := decide_eq_false (by omega)
                clear eP HNv HAB
                go_wp2_with (first
                  | (at_builtin; refine Ls.pushN (by rfl) _ _ (by rfl) w3.heap.size w3 _ j (soP m K Z k) (by rfl) hO (by omega) 0 HY2.out (by rfl) ?_)
                  | fail)
                intro v4 w4 hO4
                go_wp2
                go_roundw
                case rel => exact ⟨j + 1, by omega, by go_num, hO4⟩
                case measure => simp [intOf]; omega
          · have d1 : decide ((a : Int) < (m : Int)) = false := decide_eq_false (by omega)
            have eV : n = 0 := by rw [HNv.out]; unfold soN; rw [if_neg (fun q => hm q.1)]
            subst eV
            by_cases ekj : k = j
            · subst ekj
              have HY2 : Hid (68719476736 = soP m K Z k k) := by show (68719476736 : Int) = _; rw [eP.out, if_pos rfl]; rfl
              clear eP HNv HAB
              go_wp2_with (first
                | (at_builtin; refine Ls.pushN (by rfl) _ _ (by rfl) w3.heap.size w3 _ k (soP m K Z k) (by rfl) hO (by omega) 68719476736 HY2.out (by rfl) ?_)
                | fail)
              intro v4 w4 hO4
              go_wp2
              go_roundw
              case rel => exact ⟨k + 1, by omega, by go_num, hO4⟩
              case measure => simp [intOf]; omega
            · have HY2 : Hid (0 = soP m K Z k j) := by show (0 : Int) = _; rw [eP.out, if_neg ekj]
              have d5 : ((k : Int) == (j : Int)) = false := beq_eq_false_iff_ne.2 (by omega)
              have d6 : decide ((k : Int) = (j : Int)) = false := decide_eq_false (by omega)
              clear eP HNv HAB
              go_wp2_with (first
                | (at_builtin; refine Ls.pushN (by rfl) _ _ (by rfl) w3.heap.size w3 _ j (soP m K Z k) (by rfl) hO (by omega) 0 HY2.out (by rfl) ?_)
                | fail)
              intro v4 w4 hO4
              go_wp2
              go_roundw
              case rel => exact ⟨j + 1, by omega, by go_num, hO4⟩
              case measure => simp [intOf]; omega
        · obtain rfl : j = 6 := by omega
          obtain ⟨ra, rc, rfl, sr, fr⟩ := own_fresh hO
          have ki := hO.below
          have z4 := z3.keep ki
          have n4 := CRow.keep n3 ki
          have b4 := b3.then ki
          have ap := z3.apart fr
          have c4 : wi.cell? ⟨g, 1, none⟩ = some vP := CRow.cell n4 (k := 1) rfl rfl
          have HSr := hide2 sr
          have HAP := hide2 ap
          clear sr ap fr hO ki h5
          go_wp2_with (first
            | (at_builtin; refine Ls.pushP (by rfl) _ _ (by rfl) o _ vP (k + 1) k 6 (soX l zx) (soP m K Z) (by rfl) z4 (by omega) (by omega) ra rc HSr.out HAP.out (by rfl) ?_)
            | fail)
          intro v' w5 z5 b5
          obtain ⟨lp, cp, hv', _⟩ := z5.grid
          subst hv'
          have n5 := crowBut n4 b5 (by omega)
          have c5 : w5.cell? ⟨g, 1, none⟩ = some vP := CRow.cell n5 (k := 1) rfl rfl
          have f5 := CRow.free n5 1
          have n6 := CRow.set n5 1 (.slice lp (k + 1) cp)
          have b6 := (b4.trans (b5.mono fun q e => Or.inr e)).set (p := ⟨g, 1, none⟩) (.slice lp (k + 1) cp) (Or.inl rfl)
          have z6 := z5.put (g := g) l1 ((But.refl (· = g) w5).set (p := ⟨g, 1, none⟩) (.slice lp (k + 1) cp) rfl)
          clear n5 b5 z5 n4 b4 z4 c4 HSr HAP n3 b3 z3
          go_wp2
          go_roundw
          case rel => exact ⟨k + 1, _, _, by omega, by go_num, n6, z6, b6⟩
          case measure => simp [intOf]; omega
    · obtain rfl : k = 6 := by omega
      obtain ⟨yo, yc, rfl, _⟩ := zr.sl
      obtain ⟨ro, rc, rfl, _⟩ := zr.grid
      have rr := HR.out _ br
      have Br := HB.out _ br
      have rE := CRow.row rr [.slice yo 6 yc, .slice ro 6 rc]
      have zE := zr.put (g := w.heap.size) (by omega) (Ls.but_row wr w.heap.size ([.slice yo 6 yc, .slice ro 6 rc] : List Value).toArray)
      obtain ⟨yo', yc', e1, sE⟩ := zE.sl
      obtain ⟨ro', rc', e2, gE⟩ := zE.grid
      cases e1
      cases e2
      clear h zE zr
      go_wp2_with (first
        | (refine St.wpList_load isR3 (by rfl) _ (by rfl) _ _ (by rfl) (by with_reducible exact nr) rfl ?_)
        | (refine St.wpList_store isR3 rfl _ _ (by rfl) _ _ [.slice yo 6 yc, .slice ro 6 rc] (by rfl) (by rfl) (by with_reducible exact rr) rfl rfl (by intro v hv; simp only [List.mem_cons, List.not_mem_nil, or_false] at hv; rcases hv with rfl | rfl <;> rfl) ?_)
        | fail)
      exact bodyPost_ret (results_1 isR3 Try.results5 _ _ w.heap.size _ rfl rE rfl) rfl ⟨_, _, _, _, rfl, sE, gE, St.below_row Br (Nat.le_refl _) _⟩
end Go.Proofs.Ytbdcbobmfkdalaa
