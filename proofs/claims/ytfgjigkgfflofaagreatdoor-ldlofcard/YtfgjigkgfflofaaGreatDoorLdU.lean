/-
  factorsOf of the laws of layer 9.
-/
import Derived.Test.YtfgjigkgfflofaaGreatDoorM18
import Derived.Test.YtfgjigkgfflofaaGreatDoorRegU
import Derived.Deep.CutRange
import Derived.Deep.DeepCutAuto
set_option linter.unusedSimpArgs false
set_option linter.unusedVariables false
namespace Go.Proofs.YtfgjigkgfflofaaGreatDoor
open Go.RowKit Vc Mt St Qn Dt Ld

set_option maxRecDepth 10000 in
set_option maxHeartbeats 2000000 in
theorem factorsOf_any (n : Nat) (L : Nat → Nat → Int) (d : Nat → Int) (w : World) (hm : FMay n (mz n n L) d) :
    Calls Tryz.prog 11 #[.agg (fvals n (mz n n L) d).toArray] w fun e w' => ∃ lo cl do' cd, e = .returned (.agg #[.slice lo n cl, .slice do' n cd]) ∧ Grid w' lo n cl n L ∧ Sl w' do' n cd d ∧ Below w.heap.size w w' := by
  obtain ⟨h1, hn⟩ := FMay.n hm
  have h36 := size_le hn hn
  have rF : FRow (w.alloc (.cells (fvals n (mz n n L) d).toArray 27)) w.heap.size n (mz n n L) d := crow_new w _ _
  have hB := below_al (Below.refl _ w) (.cells (fvals n (mz n n L) d).toArray 27)
  have hWs : (w.alloc (.cells (fvals n (mz n n L) d).toArray 27)).heap.size = w.heap.size + 1 := by simp
  have HZ : Hid (∀ i j, i < n → j < n → mz n n L (i * n + j) = L i j) := fun i j hi hj => mz_at hi hj
  obtain ⟨W, hW⟩ : ∃ W, W = w.alloc (.cells (fvals n (mz n n L) d).toArray 27) := ⟨_, rfl⟩
  rw [← hW] at rF hB hWs
  have rF2 := CRow.alloc (CRow.alloc rF (.cells #[.slice none 0 0, .slice none 0 0] 39)) (.cells #[.slice none 0 0, .slice none 0 0] 39)
  have rR : GRow ((W.alloc (.cells #[.slice none 0 0, .slice none 0 0] 39)).alloc (.cells #[.slice none 0 0, .slice none 0 0] 39)) W.heap.size (.slice none 0 0) (.slice none 0 0) := CRow.alloc (crow_new W _ [.slice none 0 0, .slice none 0 0]) _
  have rO : GRow ((W.alloc (.cells #[.slice none 0 0, .slice none 0 0] 39)).alloc (.cells #[.slice none 0 0, .slice none 0 0] 39)) (W.heap.size + 1) (.slice none 0 0) (.slice none 0 0) := crow_new1 W _ _ [.slice none 0 0, .slice none 0 0]
  have hB2 := below_al (below_al hB (.cells #[.slice none 0 0, .slice none 0 0] 39)) (.cells #[.slice none 0 0, .slice none 0 0] 39)
  obtain ⟨V, hV⟩ : ∃ V, V = (W.alloc (.cells #[.slice none 0 0, .slice none 0 0] 39)).alloc (.cells #[.slice none 0 0, .slice none 0 0] 39) := ⟨_, rfl⟩
  have hVs : V.heap.size = W.heap.size + 2 := by rw [hV]; simp
  rw [← hV] at rF2 rR rO hB2
  rw [hWs] at rR rO hVs
  have HC := fcheck_any n (mz n n L) d V
  rw [resC_yes hm] at HC
  have HCk := Hid.mkV HC
  obtain ⟨z, hz⟩ : ∃ z, z = mz n n L := ⟨_, rfl⟩
  rw [← hz] at HZ HCk rF2 hW ⊢
  have HW := Hid.mkV hW
  have HV := Hid.mkV hV
  clear hm HC hW hV hz rF hB
  go_enter Tryz.func11, Tryz.ntmps11
  go_wp2_with (first
    | (rw [← HW.out, ← HV.out]; refine St.wpList_load isF (by rfl) _ (by rfl) _ _ (by rfl) (by with_reducible exact rF2) (fvals_len _ _ _) ?_)
    | fail)
  refine HCk.out.mono ?_
  rintro e w1 ⟨rfl, k1⟩
  have F1 := CRow.keep rF2 k1
  have R1 := CRow.keep rR k1
  have O1 := CRow.keep rO k1
  have B1 := below_tr hB2 k1
  have z1 := k1.size
  clear rF2 rR rO hB2 HCk HW HV k1
  obtain ⟨g1, hg1⟩ : ∃ g, g = w.heap.size := ⟨_, rfl⟩
  obtain ⟨g2, hg2⟩ : ∃ g, g = w.heap.size + 1 := ⟨_, rfl⟩
  obtain ⟨g3, hg3⟩ : ∃ g, g = w.heap.size + 1 + 1 := ⟨_, rfl⟩
  rw [← hg1] at F1
  rw [← hg2] at R1
  rw [← hg3] at O1
  have T1 : FTwo (w.heap.size) w w1 (g3 + 1) (.slice none 0 0) (.slice none 0 0) 0 n L d := FTwo.nil B1 B1.size (by have := O1.lt; omega) L d
  rw [← hg3, ← hg2, ← hg1]
  have HG1 := Hid.mkV hg1
  have HG2 := Hid.mkV hg2
  have HG3 := Hid.mkV hg3
  have d12 : g1 < g2 := by omega
  have d23 : g2 < g3 := by omega
  have dw : w.heap.size ≤ g1 := by omega
  clear hg1 hg2 hg3 hWs hVs z1
  go_wp2
  go_loopw [4] (fun ix wr => ∃ i : Nat, i ≤ n ∧ ix = .int .i64 (i : Int) ∧ FRow wr g1 n z d ∧ GRow wr g2 (.slice none 0 0) (.slice none 0 0) ∧ ∃ vL vD, GRow wr g3 vL vD ∧ FTwo w.heap.size w wr (g3 + 1) vL vD i n L d) (fun ix _ => n - (intOf ix).toNat)
  case atStart => exact ⟨0, by omega, rfl, F1, R1, _, _, O1, T1⟩
  case round =>
    rename World => wo
    obtain ⟨i, hi, rfl, fr, rr, vL, vD, gr, tr⟩ := hrel
    have cN := FRow.n fr
    by_cases h : i < n
    · have hpn : i * n + n ≤ 36 := by have := place_le (c := n) h; omega
      obtain ⟨p, hp⟩ : ∃ p, p = i * n := ⟨_, rfl⟩
      have e1 : IntKind.i64.wrap ((i : Int) * (n : Int)) = (p : Int) := by
        have : ((i * n : Nat) : Int) = (i : Int) * (n : Int) := by push_cast; rfl
        rw [← this, ← hp, IntKind.wrap_i64]; omega
      rw [← hp] at hpn
      have HP := Hid.mkV hp
      clear hp
      go_wp2
      go_loopw [5, 6] (fun ps jx ws => ∃ j : Nat, j ≤ n ∧ jx = .int .i64 (j : Int) ∧ Own wo.heap.size wo ws ps j (L i)) (fun _ jx _ => n - (intOf jx).toNat)
      case atStart => exact ⟨0, by omega, rfl, Own.nil (Below.refl _ _) (Nat.le_refl _) _⟩
      case round =>
        obtain ⟨j, hj, rfl, hown⟩ := hrel
        have fr2 := CRow.keep fr hown.below
        have cN2 := FRow.n fr2
        by_cases h2 : j < n
        · have c2 := FRow.z fr2 (k := p + j) (o := 1 + (p + j)) (by omega) (by omega)
          have ez := HZ.out i j h h2
          rw [← HP.out] at ez
          rw [ez] at c2
          have e2 : IntKind.i64.wrap ((p : Int) + (j : Int)) = ((p + j : Nat) : Int) := by rw [IntKind.wrap_i64]; omega
          obtain ⟨q, hq⟩ : ∃ q, q = p + j := ⟨_, rfl⟩
          rw [← hq] at c2 e2
          have i0 : (0 : Int) ≤ (q : Int) := by omega
          have i1 : (q : Int) < 36 := by omega
          obtain ⟨X, hX⟩ : ∃ X, X = L i j := ⟨_, rfl⟩
          rw [← hX] at c2
          have HX := Hid.mkV hX
          clear hX hq ez
          go_wp2_with (at_builtin; refine wpList_push (by rfl) (.tmp 24) (.tmp 34) (by rfl) wo.heap.size wo _ j (L i) (by rfl) hown (by omega) X (by exact HX.out) (by rfl) ?_)
          intro v' w' hown'
          go_wp2
          go_roundw
          case rel => exact ⟨j + 1, by omega, by go_num, hown'⟩
          case measure => simp [intOf]; omega
        · obtain rfl : j = n := by omega
          obtain ⟨po, pc, rfl, hps, hpf⟩ := own_fresh hown
          have hap := tr.apart hpf
          have rq := CRow.keep rr hown.below
          have gq := CRow.keep gr hown.below
          have tq := tr.keep hown.below
          rename World => wq
          have cD := FRow.d fr2 (k := i) (o := 37 + i) (by omega) (by omega)
          obtain ⟨S, hT, hrows⟩ := tq.two
          have gl := tq.gl
          have gd := tq.gd
          have gle := tq.le
          obtain ⟨X, hX⟩ : ∃ X, X = d i := ⟨_, rfl⟩
          rw [← hX] at cD
          have HX := Hid.mkV hX
          have a0 := GRow.l gq
          have a1 := GRow.d gq
          have a2 := cD
          have Ea0 : ¬ (vL.ownBlock = some g3 ∨ vD.ownBlock = some g3) := fun e => by
            rcases e with e | e
            · have := gl _ e; omega
            · have := gd _ e; omega
          have Ea1 := Ea0
          have Ea2 : ¬ (vL.ownBlock = some g1 ∨ vD.ownBlock = some g1) := fun e => by
            rcases e with e | e
            · have := gl _ e; omega
            · have := gd _ e; omega
          have Ea3 : ¬ (vL.ownBlock = some g2 ∨ vD.ownBlock = some g2) := fun e => by
            rcases e with e | e
            · have := gl _ e; omega
            · have := gd _ e; omega
          have HRo := Hid.mkV hrows
          have HAp := Hid.mkV hap
          have HPs := Hid.mkV hps
          have i0 : (0 : Int) ≤ (i : Int) := by omega
          have i1 : (i : Int) < 6 := by omega
          clear hX hrows hap hps hown tq tr gr rr fr HZ hpf cD
          go_wp2
          have hTd := hT.drew
          have hBd := (But.refl (fun q => vL.ownBlock = some q ∨ vD.ownBlock = some q) wq).drew
          refine Ru.wp_region_U [14, 16] (fun w' => w'.cell? ⟨g3, 0, none⟩ = some (vL) ∧ w'.cell? ⟨g3, 1, none⟩ = some (vD) ∧ w'.cell? ⟨g1, 37 + i, none⟩ = some (.int .i64 X)) (by kernel_rfl) ⟨a0, a1, a2⟩ (fun hHeld => ?_)
          refine Ru.wpAnyU_take (i := 0) (v := .pointer (some ⟨g3, 0, none⟩)) rfl (by kernel_rfl) (by kernel_rfl) (by kernel_rfl) (by kernel_rfl) (by kernel_rfl) (by kernel_rfl) (fun _ _ _ h => h) (Or.inl ⟨by rfl, fun w hS => by obtain ⟨sc0, sc1, sc2⟩ := hS; go_simp⟩) hHeld ?_
          simp only [Act.put, List.getElem_toArray, List.getElem_cons_zero, List.getElem_cons_succ, List.setIfInBounds_toArray, List.set_cons_zero, List.set_cons_succ]
          refine Ru.wpAnyU_take (i := 1) (v := vL) rfl (by kernel_rfl) (by kernel_rfl) (by kernel_rfl) (by kernel_rfl) (by kernel_rfl) (by kernel_rfl) (fun _ _ _ h => h) (Or.inl ⟨by rfl, fun w hS => by obtain ⟨sc0, sc1, sc2⟩ := hS; go_simp⟩) hHeld ?_
          simp only [Act.put, List.getElem_toArray, List.getElem_cons_zero, List.getElem_cons_succ, List.setIfInBounds_toArray, List.set_cons_zero, List.set_cons_succ]
          refine Ru.wpAnyU_take (i := 2) (v := .slice po j pc) rfl (by kernel_rfl) (by kernel_rfl) (by kernel_rfl) (by kernel_rfl) (by kernel_rfl) (by kernel_rfl) (fun _ _ _ h => h) (Or.inl ⟨by rfl, fun w hS => by obtain ⟨sc0, sc1, sc2⟩ := hS; go_simp⟩) hHeld ?_
          simp only [Act.put, List.getElem_toArray, List.getElem_cons_zero, List.getElem_cons_succ, List.setIfInBounds_toArray, List.set_cons_zero, List.set_cons_succ]
          refine Ru.wpAnyU_take (i := 5) (v := .pointer (some ⟨g3, 1, none⟩)) rfl (by kernel_rfl) (by kernel_rfl) (by kernel_rfl) (by kernel_rfl) (by kernel_rfl) (by kernel_rfl) (fun _ _ _ h => h) (Or.inl ⟨by rfl, fun w hS => by obtain ⟨sc0, sc1, sc2⟩ := hS; go_simp⟩) hHeld ?_
          simp only [Act.put, List.getElem_toArray, List.getElem_cons_zero, List.getElem_cons_succ, List.setIfInBounds_toArray, List.set_cons_zero, List.set_cons_succ]
          refine Ru.wpAnyU_take (i := 6) (v := vD) rfl (by kernel_rfl) (by kernel_rfl) (by kernel_rfl) (by kernel_rfl) (by kernel_rfl) (by kernel_rfl) (fun _ _ _ h => h) (Or.inl ⟨by rfl, fun w hS => by obtain ⟨sc0, sc1, sc2⟩ := hS; go_simp⟩) hHeld ?_
          simp only [Act.put, List.getElem_toArray, List.getElem_cons_zero, List.getElem_cons_succ, List.setIfInBounds_toArray, List.set_cons_zero, List.set_cons_succ]
          refine Ru.wpAnyU_take (i := 7) (v := .int .i64 (i : Int)) rfl (by kernel_rfl) (by kernel_rfl) (by kernel_rfl) (by kernel_rfl) (by kernel_rfl) (by kernel_rfl) (fun _ _ _ h => h) (Or.inl ⟨by rfl, fun w hS => by obtain ⟨sc0, sc1, sc2⟩ := hS; go_simp⟩) hHeld ?_
          simp only [Act.put, List.getElem_toArray, List.getElem_cons_zero, List.getElem_cons_succ, List.setIfInBounds_toArray, List.set_cons_zero, List.set_cons_succ]
          refine Ru.wpAnyU_take (i := 8) (v := .pointer (some ⟨g1, 37, none⟩)) rfl (by kernel_rfl) (by kernel_rfl) (by kernel_rfl) (by kernel_rfl) (by kernel_rfl) (by kernel_rfl) (fun _ _ _ h => h) (Or.inl ⟨by rfl, fun w hS => by obtain ⟨sc0, sc1, sc2⟩ := hS; go_simp⟩) hHeld ?_
          simp only [Act.put, List.getElem_toArray, List.getElem_cons_zero, List.getElem_cons_succ, List.setIfInBounds_toArray, List.set_cons_zero, List.set_cons_succ]
          refine Ru.wpAnyU_take (i := 9) (v := .pointer (some ⟨g1, 37 + i, none⟩)) rfl (by kernel_rfl) (by kernel_rfl) (by kernel_rfl) (by kernel_rfl) (by kernel_rfl) (by kernel_rfl) (fun _ _ _ h => h) (Or.inl ⟨by rfl, fun w hS => by obtain ⟨sc0, sc1, sc2⟩ := hS; go_simp⟩) hHeld ?_
          simp only [Act.put, List.getElem_toArray, List.getElem_cons_zero, List.getElem_cons_succ, List.setIfInBounds_toArray, List.set_cons_zero, List.set_cons_succ]
          refine Ru.wpAnyU_take (i := 10) (v := .int .i64 X) rfl (by kernel_rfl) (by kernel_rfl) (by kernel_rfl) (by kernel_rfl) (by kernel_rfl) (by kernel_rfl) (fun _ _ _ h => h) (Or.inl ⟨by rfl, fun w hS => by obtain ⟨sc0, sc1, sc2⟩ := hS; go_simp⟩) hHeld ?_
          simp only [Act.put, List.getElem_toArray, List.getElem_cons_zero, List.getElem_cons_succ, List.setIfInBounds_toArray, List.set_cons_zero, List.set_cons_succ]
          refine Ru.wpAnyU_ready (rs := [3, 11]) (by kernel_rfl) (by simp) ?_
          refine Ru.AllReadyU.cons rfl (by kernel_rfl) (fun K hK => ?_) ?_
          · go_simp
            have tw1 := Vg.Two.alloc hTd (.cells #[.slice po j pc] 36)
            have bu1 := But.al hBd (.cells #[.slice po j pc] 36)
            have pe1 := Vg.pend_at (b := wq.heap.size) hTd (.slice po j pc) 36 (by simp)
            refine hK.out _ _ ⟨bu1.cell a0 Ea0, bu1.cell a1 Ea1, bu1.cell a2 Ea2⟩ (fun hHeld => ?_)
            clear hK K
            try simp only [Act.put, List.getElem_toArray, List.getElem_cons_zero, List.getElem_cons_succ, List.setIfInBounds_toArray, List.set_cons_zero, List.set_cons_succ]
            refine Ru.wpAnyU_ready (rs := [4, 11]) (by kernel_rfl) (by simp) ?_
            refine Ru.AllReadyU.cons rfl (by kernel_rfl) (fun K hK => ?_) ?_
            · refine Vg.step_x elS (by rfl) (.tmp 37) (.tmp 39) (by rfl) tw1 (by rfl) (by omega) (by unfold maxLen; omega) (by rfl) pe1 (by rfl) ?_
              intro v1 w2 t2 p2 q2 n2
              obtain ⟨l1, c1, rfl⟩ := own_form t2.x
              have bu2 : But (fun q => vL.ownBlock = some q ∨ vD.ownBlock = some q) wq w2 := bu1.trans (but_grown q2 (fun b e => Or.inl e))
              have n1' : ∀ q, q < wq.heap.size → vL.ownBlock ≠ some q → (Value.slice l1 (i + 1) c1).ownBlock ≠ some q := fun q hq => n2 q (Nat.lt_of_lt_of_le hq bu1.size)
              refine hK.out _ _ ⟨bu2.cell a0 Ea0, bu2.cell a1 Ea1, bu2.cell a2 Ea2⟩ (fun hHeld => ?_)
              clear hK K n2 q2 p2
              try simp only [Act.put, List.getElem_toArray, List.getElem_cons_zero, List.getElem_cons_succ, List.setIfInBounds_toArray, List.set_cons_zero, List.set_cons_succ]
              refine Ru.wpAnyU_take (i := 13) (v := .pointer (some ⟨g3, 0, none⟩)) rfl (by kernel_rfl) (by kernel_rfl) (by kernel_rfl) (by kernel_rfl) (by kernel_rfl) (by kernel_rfl) (fun _ _ _ h => h) (Or.inl ⟨by rfl, fun w hS => by obtain ⟨sc0, sc1, sc2⟩ := hS; go_simp⟩) hHeld ?_
              simp only [Act.put, List.getElem_toArray, List.getElem_cons_zero, List.getElem_cons_succ, List.setIfInBounds_toArray, List.set_cons_zero, List.set_cons_succ]
              refine Ru.wpAnyU_ready (rs := [11]) (by kernel_rfl) (by simp) ?_
              refine Ru.AllReadyU.cons rfl (by kernel_rfl) (fun K hK => ?_) Ru.AllReadyU.nil
              go_simp
              have tw3 := Vg.Two.alloc t2 (.cells #[.int .i64 X] 2)
              have bu3 := But.al bu2 (.cells #[.int .i64 X] 2)
              have pe3 := Vg.pend_at (b := w2.heap.size) t2 (.int .i64 X) 2 (by simp)
              refine hK.out _ _ ⟨bu3.cell a0 Ea0, bu3.cell a1 Ea1, bu3.cell a2 Ea2⟩ (fun hHeld => ?_)
              clear hK K
              try simp only [Act.put, List.getElem_toArray, List.getElem_cons_zero, List.getElem_cons_succ, List.setIfInBounds_toArray, List.set_cons_zero, List.set_cons_succ]
              refine Ru.wpAnyU_ready (rs := [12]) (by kernel_rfl) (by simp) ?_
              refine Ru.AllReadyU.cons rfl (by kernel_rfl) (fun K hK => ?_) Ru.AllReadyU.nil
              refine Vg.step_y elI (by rfl) (.tmp 42) (.tmp 47) (by rfl) tw3 (by rfl) (by omega) (by unfold maxLen; omega) (by rfl) pe3 (by rfl) ?_
              intro v2 w2 t2 p2 q2 n2
              obtain ⟨l2, c2, rfl⟩ := own_form t2.y
              have b2 : But (fun q => vL.ownBlock = some q ∨ vD.ownBlock = some q) wq w2 := bu3.trans (but_grown q2 (fun b e => Or.inr e))
              have n2' : ∀ q, q < wq.heap.size → vD.ownBlock ≠ some q → (Value.slice l2 (i + 1) c2).ownBlock ≠ some q := fun q hq => n2 q (Nat.lt_of_lt_of_le hq bu3.size)
              have g2' := crowBut gq b2 Ea0
              have a0y := GRow.l g2'
              have a1y := GRow.d g2'
              have f0y := CRow.free g2' 0
              have f1y := CRow.free g2' 1
              refine hK.out _ _ ⟨b2.cell a0 Ea0, b2.cell a1 Ea1, b2.cell a2 Ea2⟩ (fun hHeld => ?_)
              clear hK K n2 q2 p2
              try simp only [Act.put, List.getElem_toArray, List.getElem_cons_zero, List.getElem_cons_succ, List.setIfInBounds_toArray, List.set_cons_zero, List.set_cons_succ]
              refine Ru.wpAnyU_ready (rs := [14]) (by kernel_rfl) (by simp) ?_
              refine Ru.AllReadyU.cons2 rfl (by kernel_rfl) (fun K hK => ?_) Ru.AllReadyU.nil
              go_simp
              refine hK.out _ _ ?_
              clear hK K
              try simp only [Act.put, List.getElem_toArray, List.getElem_cons_zero, List.getElem_cons_succ, List.setIfInBounds_toArray, List.set_cons_zero, List.set_cons_succ]
              refine wpAny_ready (rs := [15]) (by kernel_rfl) (by simp) ?_
              refine AllReady.cons rfl (fun K hK => ?_) AllReady.nil
              go_simp
              refine hK _ _ ?_
              clear hK K
              try simp only [Act.put, List.getElem_toArray, List.getElem_cons_zero, List.getElem_cons_succ, List.setIfInBounds_toArray, List.set_cons_zero, List.set_cons_succ]
              refine wpAny_ready (rs := [16]) (by kernel_rfl) (by simp) ?_
              refine AllReady.cons rfl (fun K hK => ?_) AllReady.nil
              go_simp
              refine hK _ _ ?_
              clear hK K
              try simp only [Act.put, List.getElem_toArray, List.getElem_cons_zero, List.getElem_cons_succ, List.setIfInBounds_toArray, List.set_cons_zero, List.set_cons_succ]
              refine wpAny_done (by kernel_rfl) ?_ _
              go_wp2
              go_roundw
              case rel =>
                refine ⟨i + 1, by omega, by go_num, CRow.other (CRow.other (crowBut fr2 b2 Ea2) _ (by show g1 ≠ g3; omega)) _ (by show g1 ≠ g3; omega), CRow.other (CRow.other (crowBut rq b2 Ea3) _ (by show g2 ≠ g3; omega)) _ (by show g2 ≠ g3; omega), _, _, CRow.set (CRow.set g2' 0 _) 1 _, ?_⟩
                exact (ftwo_push HRo.out b2 (by rw [← HX.out]; exact t2) n1' n2' (by omega) HPs.out HAp.out gle gl gd).put (g := g3) (by omega) (by omega) (((But.refl (fun x => x = g3) w2).set _ rfl).set _ rfl)
              case measure => simp [intOf]; omega
            refine Ru.AllReadyU.cons rfl (by kernel_rfl) (fun K hK => ?_) Ru.AllReadyU.nil
            go_simp
            have tw5 := Vg.Two.alloc tw1 (.cells #[.int .i64 X] 2)
            have bu5 := But.al bu1 (.cells #[.int .i64 X] 2)
            have pe5 := Vg.pend_at (b := wq.heap.size + 1) tw1 (.int .i64 X) 2 (by simp)
            have pk5_3 := Vg.Pend.alloc pe1 (.cells #[.int .i64 X] 2)
            refine hK.out _ _ ⟨bu5.cell a0 Ea0, bu5.cell a1 Ea1, bu5.cell a2 Ea2⟩ (fun hHeld => ?_)
            clear hK K
            try simp only [Act.put, List.getElem_toArray, List.getElem_cons_zero, List.getElem_cons_succ, List.setIfInBounds_toArray, List.set_cons_zero, List.set_cons_succ]
            refine Ru.wpAnyU_ready (rs := [4]) (by kernel_rfl) (by simp) ?_
            refine Ru.AllReadyU.cons rfl (by kernel_rfl) (fun K hK => ?_) Ru.AllReadyU.nil
            refine Vg.step_x elS (by rfl) (.tmp 37) (.tmp 39) (by rfl) tw5 (by rfl) (by omega) (by unfold maxLen; omega) (by rfl) pk5_3 (by rfl) ?_
            intro v1 w6 t6 p6 q6 n6
            obtain ⟨l1, c1, rfl⟩ := own_form t6.x
            have bu6 : But (fun q => vL.ownBlock = some q ∨ vD.ownBlock = some q) wq w6 := bu5.trans (but_grown q6 (fun b e => Or.inl e))
            have n1' : ∀ q, q < wq.heap.size → vL.ownBlock ≠ some q → (Value.slice l1 (i + 1) c1).ownBlock ≠ some q := fun q hq => n6 q (Nat.lt_of_lt_of_le hq bu5.size)
            have pk6_11 := p6 _ _ _ pe5
            refine hK.out _ _ ⟨bu6.cell a0 Ea0, bu6.cell a1 Ea1, bu6.cell a2 Ea2⟩ (fun hHeld => ?_)
            clear hK K n6 q6 p6
            try simp only [Act.put, List.getElem_toArray, List.getElem_cons_zero, List.getElem_cons_succ, List.setIfInBounds_toArray, List.set_cons_zero, List.set_cons_succ]
            refine Ru.wpAnyU_take (i := 13) (v := .pointer (some ⟨g3, 0, none⟩)) rfl (by kernel_rfl) (by kernel_rfl) (by kernel_rfl) (by kernel_rfl) (by kernel_rfl) (by kernel_rfl) (fun _ _ _ h => h) (Or.inl ⟨by rfl, fun w hS => by obtain ⟨sc0, sc1, sc2⟩ := hS; go_simp⟩) hHeld ?_
            simp only [Act.put, List.getElem_toArray, List.getElem_cons_zero, List.getElem_cons_succ, List.setIfInBounds_toArray, List.set_cons_zero, List.set_cons_succ]
            refine Ru.wpAnyU_ready (rs := [12]) (by kernel_rfl) (by simp) ?_
            refine Ru.AllReadyU.cons rfl (by kernel_rfl) (fun K hK => ?_) Ru.AllReadyU.nil
            refine Vg.step_y elI (by rfl) (.tmp 42) (.tmp 47) (by rfl) t6 (by rfl) (by omega) (by unfold maxLen; omega) (by rfl) pk6_11 (by rfl) ?_
            intro v2 w2 t2 p2 q2 n2
            obtain ⟨l2, c2, rfl⟩ := own_form t2.y
            have b2 : But (fun q => vL.ownBlock = some q ∨ vD.ownBlock = some q) wq w2 := bu6.trans (but_grown q2 (fun b e => Or.inr e))
            have n2' : ∀ q, q < wq.heap.size → vD.ownBlock ≠ some q → (Value.slice l2 (i + 1) c2).ownBlock ≠ some q := fun q hq => n2 q (Nat.lt_of_lt_of_le hq bu6.size)
            have g2' := crowBut gq b2 Ea0
            have a0y := GRow.l g2'
            have a1y := GRow.d g2'
            have f0y := CRow.free g2' 0
            have f1y := CRow.free g2' 1
            refine hK.out _ _ ⟨b2.cell a0 Ea0, b2.cell a1 Ea1, b2.cell a2 Ea2⟩ (fun hHeld => ?_)
            clear hK K n2 q2 p2
            try simp only [Act.put, List.getElem_toArray, List.getElem_cons_zero, List.getElem_cons_succ, List.setIfInBounds_toArray, List.set_cons_zero, List.set_cons_succ]
            refine Ru.wpAnyU_ready (rs := [14]) (by kernel_rfl) (by simp) ?_
            refine Ru.AllReadyU.cons2 rfl (by kernel_rfl) (fun K hK => ?_) Ru.AllReadyU.nil
            go_simp
            refine hK.out _ _ ?_
            clear hK K
            try simp only [Act.put, List.getElem_toArray, List.getElem_cons_zero, List.getElem_cons_succ, List.setIfInBounds_toArray, List.set_cons_zero, List.set_cons_succ]
            refine wpAny_ready (rs := [15]) (by kernel_rfl) (by simp) ?_
            refine AllReady.cons rfl (fun K hK => ?_) AllReady.nil
            go_simp
            refine hK _ _ ?_
            clear hK K
            try simp only [Act.put, List.getElem_toArray, List.getElem_cons_zero, List.getElem_cons_succ, List.setIfInBounds_toArray, List.set_cons_zero, List.set_cons_succ]
            refine wpAny_ready (rs := [16]) (by kernel_rfl) (by simp) ?_
            refine AllReady.cons rfl (fun K hK => ?_) AllReady.nil
            go_simp
            refine hK _ _ ?_
            clear hK K
            try simp only [Act.put, List.getElem_toArray, List.getElem_cons_zero, List.getElem_cons_succ, List.setIfInBounds_toArray, List.set_cons_zero, List.set_cons_succ]
            refine wpAny_done (by kernel_rfl) ?_ _
            go_wp2
            go_roundw
            case rel =>
              refine ⟨i + 1, by omega, by go_num, CRow.other (CRow.other (crowBut fr2 b2 Ea2) _ (by show g1 ≠ g3; omega)) _ (by show g1 ≠ g3; omega), CRow.other (CRow.other (crowBut rq b2 Ea3) _ (by show g2 ≠ g3; omega)) _ (by show g2 ≠ g3; omega), _, _, CRow.set (CRow.set g2' 0 _) 1 _, ?_⟩
              exact (ftwo_push HRo.out b2 (by rw [← HX.out]; exact t2) n1' n2' (by omega) HPs.out HAp.out gle gl gd).put (g := g3) (by omega) (by omega) (((But.refl (fun x => x = g3) w2).set _ rfl).set _ rfl)
            case measure => simp [intOf]; omega
          refine Ru.AllReadyU.cons rfl (by kernel_rfl) (fun K hK => ?_) Ru.AllReadyU.nil
          go_simp
          have tw8 := Vg.Two.alloc hTd (.cells #[.int .i64 X] 2)
          have bu8 := But.al hBd (.cells #[.int .i64 X] 2)
          have pe8 := Vg.pend_at (b := wq.heap.size) hTd (.int .i64 X) 2 (by simp)
          refine hK.out _ _ ⟨bu8.cell a0 Ea0, bu8.cell a1 Ea1, bu8.cell a2 Ea2⟩ (fun hHeld => ?_)
          clear hK K
          try simp only [Act.put, List.getElem_toArray, List.getElem_cons_zero, List.getElem_cons_succ, List.setIfInBounds_toArray, List.set_cons_zero, List.set_cons_succ]
          refine Ru.wpAnyU_ready (rs := [3]) (by kernel_rfl) (by simp) ?_
          refine Ru.AllReadyU.cons rfl (by kernel_rfl) (fun K hK => ?_) Ru.AllReadyU.nil
          go_simp
          have tw9 := Vg.Two.alloc tw8 (.cells #[.slice po j pc] 36)
          have bu9 := But.al bu8 (.cells #[.slice po j pc] 36)
          have pe9 := Vg.pend_at (b := wq.heap.size + 1) tw8 (.slice po j pc) 36 (by simp)
          have pk9_11 := Vg.Pend.alloc pe8 (.cells #[.slice po j pc] 36)
          refine hK.out _ _ ⟨bu9.cell a0 Ea0, bu9.cell a1 Ea1, bu9.cell a2 Ea2⟩ (fun hHeld => ?_)
          clear hK K
          try simp only [Act.put, List.getElem_toArray, List.getElem_cons_zero, List.getElem_cons_succ, List.setIfInBounds_toArray, List.set_cons_zero, List.set_cons_succ]
          refine Ru.wpAnyU_ready (rs := [4]) (by kernel_rfl) (by simp) ?_
          refine Ru.AllReadyU.cons rfl (by kernel_rfl) (fun K hK => ?_) Ru.AllReadyU.nil
          refine Vg.step_x elS (by rfl) (.tmp 37) (.tmp 39) (by rfl) tw9 (by rfl) (by omega) (by unfold maxLen; omega) (by rfl) pe9 (by rfl) ?_
          intro v1 w10 t10 p10 q10 n10
          obtain ⟨l1, c1, rfl⟩ := own_form t10.x
          have bu10 : But (fun q => vL.ownBlock = some q ∨ vD.ownBlock = some q) wq w10 := bu9.trans (but_grown q10 (fun b e => Or.inl e))
          have n1' : ∀ q, q < wq.heap.size → vL.ownBlock ≠ some q → (Value.slice l1 (i + 1) c1).ownBlock ≠ some q := fun q hq => n10 q (Nat.lt_of_lt_of_le hq bu9.size)
          have pk10_11 := p10 _ _ _ pk9_11
          refine hK.out _ _ ⟨bu10.cell a0 Ea0, bu10.cell a1 Ea1, bu10.cell a2 Ea2⟩ (fun hHeld => ?_)
          clear hK K n10 q10 p10
          try simp only [Act.put, List.getElem_toArray, List.getElem_cons_zero, List.getElem_cons_succ, List.setIfInBounds_toArray, List.set_cons_zero, List.set_cons_succ]
          refine Ru.wpAnyU_take (i := 13) (v := .pointer (some ⟨g3, 0, none⟩)) rfl (by kernel_rfl) (by kernel_rfl) (by kernel_rfl) (by kernel_rfl) (by kernel_rfl) (by kernel_rfl) (fun _ _ _ h => h) (Or.inl ⟨by rfl, fun w hS => by obtain ⟨sc0, sc1, sc2⟩ := hS; go_simp⟩) hHeld ?_
          simp only [Act.put, List.getElem_toArray, List.getElem_cons_zero, List.getElem_cons_succ, List.setIfInBounds_toArray, List.set_cons_zero, List.set_cons_succ]
          refine Ru.wpAnyU_ready (rs := [12]) (by kernel_rfl) (by simp) ?_
          refine Ru.AllReadyU.cons rfl (by kernel_rfl) (fun K hK => ?_) Ru.AllReadyU.nil
          refine Vg.step_y elI (by rfl) (.tmp 42) (.tmp 47) (by rfl) t10 (by rfl) (by omega) (by unfold maxLen; omega) (by rfl) pk10_11 (by rfl) ?_
          intro v2 w2 t2 p2 q2 n2
          obtain ⟨l2, c2, rfl⟩ := own_form t2.y
          have b2 : But (fun q => vL.ownBlock = some q ∨ vD.ownBlock = some q) wq w2 := bu10.trans (but_grown q2 (fun b e => Or.inr e))
          have n2' : ∀ q, q < wq.heap.size → vD.ownBlock ≠ some q → (Value.slice l2 (i + 1) c2).ownBlock ≠ some q := fun q hq => n2 q (Nat.lt_of_lt_of_le hq bu10.size)
          have g2' := crowBut gq b2 Ea0
          have a0y := GRow.l g2'
          have a1y := GRow.d g2'
          have f0y := CRow.free g2' 0
          have f1y := CRow.free g2' 1
          refine hK.out _ _ ⟨b2.cell a0 Ea0, b2.cell a1 Ea1, b2.cell a2 Ea2⟩ (fun hHeld => ?_)
          clear hK K n2 q2 p2
          try simp only [Act.put, List.getElem_toArray, List.getElem_cons_zero, List.getElem_cons_succ, List.setIfInBounds_toArray, List.set_cons_zero, List.set_cons_succ]
          refine Ru.wpAnyU_ready (rs := [14]) (by kernel_rfl) (by simp) ?_
          refine Ru.AllReadyU.cons2 rfl (by kernel_rfl) (fun K hK => ?_) Ru.AllReadyU.nil
          go_simp
          refine hK.out _ _ ?_
          clear hK K
          try simp only [Act.put, List.getElem_toArray, List.getElem_cons_zero, List.getElem_cons_succ, List.setIfInBounds_toArray, List.set_cons_zero, List.set_cons_succ]
          refine wpAny_ready (rs := [15]) (by kernel_rfl) (by simp) ?_
          refine AllReady.cons rfl (fun K hK => ?_) AllReady.nil
          go_simp
          refine hK _ _ ?_
          clear hK K
          try simp only [Act.put, List.getElem_toArray, List.getElem_cons_zero, List.getElem_cons_succ, List.setIfInBounds_toArray, List.set_cons_zero, List.set_cons_succ]
          refine wpAny_ready (rs := [16]) (by kernel_rfl) (by simp) ?_
          refine AllReady.cons rfl (fun K hK => ?_) AllReady.nil
          go_simp
          refine hK _ _ ?_
          clear hK K
          try simp only [Act.put, List.getElem_toArray, List.getElem_cons_zero, List.getElem_cons_succ, List.setIfInBounds_toArray, List.set_cons_zero, List.set_cons_succ]
          refine wpAny_done (by kernel_rfl) ?_ _
          go_wp2
          go_roundw
          case rel =>
            refine ⟨i + 1, by omega, by go_num, CRow.other (CRow.other (crowBut fr2 b2 Ea2) _ (by show g1 ≠ g3; omega)) _ (by show g1 ≠ g3; omega), CRow.other (CRow.other (crowBut rq b2 Ea3) _ (by show g2 ≠ g3; omega)) _ (by show g2 ≠ g3; omega), _, _, CRow.set (CRow.set g2' 0 _) 1 _, ?_⟩
            exact (ftwo_push HRo.out b2 (by rw [← HX.out]; exact t2) n1' n2' (by omega) HPs.out HAp.out gle gl gd).put (g := g3) (by omega) (by omega) (((But.refl (fun x => x = g3) w2).set _ rfl).set _ rfl)
          case measure => simp [intOf]; omega
    · obtain rfl : i = n := by omega
      obtain ⟨lo, cl, do', cd, rfl, rfl, hg, hs⟩ := tr.grid
      go_wp2_with (first
        | (refine St.wpList_load isG (by rfl) _ (by rfl) _ _ (by rfl) (by with_reducible exact gr) rfl ?_)
        | (refine St.wpList_store isG rfl _ _ (by rfl) _ _ _ (by rfl) (by rfl) (by with_reducible exact rr) rfl rfl (by intro v hv; simp at hv; rcases hv with rfl | rfl <;> rfl) ?_)
        | fail)
      have tr' := FTwo.put tr (g := g2) (by omega) (by omega) (but_row wo g2 ([.slice lo i cl, .slice do' i cd] : List Value).toArray)
      obtain ⟨lo2, cl2, do2, cd2, e1, e2, hg2, hs2⟩ := tr'.grid
      cases e1
      cases e2
      exact bodyPost_ret (St.results_1 isG Tryz.results11 _ _ g2 _ rfl (CRow.row rr _) rfl) rfl ⟨_, _, _, _, rfl, hg2, hs2, tr'.below⟩

end Go.Proofs.YtfgjigkgfflofaaGreatDoor
