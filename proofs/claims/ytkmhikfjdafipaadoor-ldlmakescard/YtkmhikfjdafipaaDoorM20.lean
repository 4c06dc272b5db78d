/-
  factorsOf of the laws of layer 9.
-/
import Derived.Test.YtkmhikfjdafipaaDoorM18
import Derived.Test.YtkmhikfjdafipaaDoorRegU
import Derived.Deep.CutRange
import Derived.Deep.DeepCutAuto
import Derived.Test.YtkmhikfjdafipaaDoorM13
import Derived.Test.YtkmhikfjdafipaaDoorM6
import Derived.Test.YtkmhikfjdafipaaDoorM7
import Derived.Deep.RegionHeld3
set_option linter.unusedSimpArgs false
set_option linter.unusedVariables false
namespace Go.Proofs.YtkmhikfjdafipaaDoor
open Go.RowKit Vc Mt St Qn Dt Ld

set_option maxRecDepth 10000 in
set_option maxHeartbeats 2000000 in
theorem factorsOf_any (n : Nat) (L : Nat → Nat → Int) (d : Nat → Int) (w : World) (hm : FMay n (mz n n L) d) :
    Calls Tryd.prog 10 #[.agg (fvals n (mz n n L) d).toArray] w fun e w' => ∃ lo cl do' cd, e = .returned (.agg #[.slice lo n cl, .slice do' n cd]) ∧ Grid w' lo n cl n L ∧ Sl w' do' n cd d ∧ Below w.heap.size w w' := by
  obtain ⟨h1, hn⟩ := FMay.n hm
  have h36 := size_le hn hn
  have rF : FRow (w.alloc (.cells (fvals n (mz n n L) d).toArray 28)) w.heap.size n (mz n n L) d := crow_new w _ _
  have hB := below_al (Below.refl _ w) (.cells (fvals n (mz n n L) d).toArray 28)
  have hWs : (w.alloc (.cells (fvals n (mz n n L) d).toArray 28)).heap.size = w.heap.size + 1 := by simp
  have HZ : Hid (∀ i j, i < n → j < n → mz n n L (i * n + j) = L i j) := fun i j hi hj => mz_at hi hj
  obtain ⟨W, hW⟩ : ∃ W, W = w.alloc (.cells (fvals n (mz n n L) d).toArray 28) := ⟨_, rfl⟩
  rw [← hW] at rF hB hWs
  have rF2 := CRow.alloc (CRow.alloc rF (.cells #[.slice none 0 0, .slice none 0 0] 40)) (.cells #[.slice none 0 0, .slice none 0 0] 40)
  have rR : GRow ((W.alloc (.cells #[.slice none 0 0, .slice none 0 0] 40)).alloc (.cells #[.slice none 0 0, .slice none 0 0] 40)) W.heap.size (.slice none 0 0) (.slice none 0 0) := CRow.alloc (crow_new W _ [.slice none 0 0, .slice none 0 0]) _
  have rO : GRow ((W.alloc (.cells #[.slice none 0 0, .slice none 0 0] 40)).alloc (.cells #[.slice none 0 0, .slice none 0 0] 40)) (W.heap.size + 1) (.slice none 0 0) (.slice none 0 0) := crow_new1 W _ _ [.slice none 0 0, .slice none 0 0]
  have hB2 := below_al (below_al hB (.cells #[.slice none 0 0, .slice none 0 0] 40)) (.cells #[.slice none 0 0, .slice none 0 0] 40)
  obtain ⟨V, hV⟩ : ∃ V, V = (W.alloc (.cells #[.slice none 0 0, .slice none 0 0] 40)).alloc (.cells #[.slice none 0 0, .slice none 0 0] 40) := ⟨_, rfl⟩
  have hVs : V.heap.size = W.heap.size + 2 := by rw [hV]; simp
  rw [← hV] at rF2 rR rO hB2
  rw [hWs] at rR rO hVs
  have HC := fcheck_any n (mz n n L) d V
  rw [resC_yes hm] at HC
  have HCk := Hid.mkV HC
  obtain ⟨z, hz⟩ : ∃ z, z = mz n n L := ⟨_, rfl⟩
  rw [← hz] at HZ HCk rF2 hW ⊢
  have HW := Hid.mkV hW
  have HV := Hid.mkV hV
  clear hm HC hW hV hz rF hB
  go_enter Tryd.func10, Tryd.ntmps10
  go_wp2_with (first
    | (rw [← HW.out, ← HV.out]; refine St.wpList_load isF (by rfl) _ (by rfl) _ _ (by rfl) (by with_reducible exact rF2) (fvals_len _ _ _) ?_)
    | fail)
  refine HCk.out.mono ?_
  rintro e w1 ⟨rfl, k1⟩
  have F1 := CRow.keep rF2 k1
  have R1 := CRow.keep rR k1
  have O1 := CRow.keep rO k1
  have B1 := below_tr hB2 k1
  have z1 := k1.size
  clear rF2 rR rO hB2 HCk HW HV k1
  obtain ⟨g1, hg1⟩ : ∃ g, g = w.heap.size := ⟨_, rfl⟩
  obtain ⟨g2, hg2⟩ : ∃ g, g = w.heap.size + 1 := ⟨_, rfl⟩
  obtain ⟨g3, hg3⟩ : ∃ g, g = w.heap.size + 1 + 1 := ⟨_, rfl⟩
  rw [← hg1] at F1
  rw [← hg2] at R1
  rw [← hg3] at O1
  have T1 : FTwo (w.heap.size) w w1 (g3 + 1) (.slice none 0 0) (.slice none 0 0) 0 n L d := FTwo.nil B1 B1.size (by have := O1.lt; omega) L d
  rw [← hg3, ← hg2, ← hg1]
  have HG1 := Hid.mkV hg1
  have HG2 := Hid.mkV hg2
  have HG3 := Hid.mkV hg3
  have d12 : g1 < g2 := by omega
  have d23 : g2 < g3 := by omega
  have dw : w.heap.size ≤ g1 := by omega
  clear hg1 hg2 hg3 hWs hVs z1
  go_wp2
  go_loopw [4] (fun ix wr => ∃ i : Nat, i ≤ n ∧ ix = .int .i64 (i : Int) ∧ FRow wr g1 n z d ∧ GRow wr g2 (.slice none 0 0) (.slice none 0 0) ∧ ∃ vL vD, GRow wr g3 vL vD ∧ FTwo w.heap.size w wr (g3 + 1) vL vD i n L d) (fun ix _ => n - (intOf ix).toNat)
  case atStart => exact ⟨0, by omega, rfl, F1, R1, _, _, O1, T1⟩
  case round =>
    rename World => wo
    obtain ⟨i, hi, rfl, fr, rr, vL, vD, gr, tr⟩ := hrel
    have cN := FRow.n fr
    by_cases h : i < n
    · have hpn : i * n + n ≤ 36 := by have := place_le (c := n) h; omega
      obtain ⟨p, hp⟩ : ∃ p, p = i * n := ⟨_, rfl⟩
      have e1 : IntKind.i64.wrap ((i : Int) * (n : Int)) = (p : Int) := by
        have : ((i * n : Nat) : Int) = (i : Int) * (n : Int) := by push_cast; rfl
        rw [← this, ← hp, IntKind.wrap_i64]; omega
      rw [← hp] at hpn
      have HP := Hid.mkV hp
      clear hp
      go_wp2
      go_loopw [5, 6] (fun ps jx ws => ∃ j : Nat, j ≤ n ∧ jx = .int .i64 (j : Int) ∧ Own wo.heap.size wo ws ps j (L i)) (fun _ jx _ => n - (intOf jx).toNat)
      case atStart => exact ⟨0, by omega, rfl, Own.nil (Below.refl _ _) (Nat.le_refl _) _⟩
      case round =>
        obtain ⟨j, hj, rfl, hown⟩ := hrel
        have fr2 := CRow.keep fr hown.below
        have cN2 := FRow.n fr2
        by_cases h2 : j < n
        · have c2 := FRow.z fr2 (k := p + j) (o := 1 + (p + j)) (by omega) (by omega)
          have ez := HZ.out i j h h2
          rw [← HP.out] at ez
          rw [ez] at c2
          have e2 : IntKind.i64.wrap ((p : Int) + (j : Int)) = ((p + j : Nat) : Int) := by rw [IntKind.wrap_i64]; omega
          obtain ⟨q, hq⟩ : ∃ q, q = p + j := ⟨_, rfl⟩
          rw [← hq] at c2 e2
          have i0 : (0 : Int) ≤ (q : Int) := by omega
          have i1 : (q : Int) < 36 := by omega
          obtain ⟨X, hX⟩ : ∃ X, X = L i j := ⟨_, rfl⟩
          rw [← hX] at c2
          have HX := Hid.mkV hX
          clear hX hq ez
          go_wp2_with (at_builtin; refine wpList_push (by rfl) (.tmp 24) (.tmp 34) (by rfl) wo.heap.size wo _ j (L i) (by rfl) hown (by omega) X (by exact HX.out) (by rfl) ?_)
          intro v' w' hown'
          go_wp2
          go_roundw
          case rel => exact ⟨j + 1, by omega, by go_num, hown'⟩
          case measure => simp [intOf]; omega
        · obtain rfl : j = n := by omega
          obtain ⟨po, pc, rfl, hps, hpf⟩ := own_fresh hown
          have hap := tr.apart hpf
          have rq := CRow.keep rr hown.below
          have gq := CRow.keep gr hown.below
          have tq := tr.keep hown.below
          rename World => wq
          have cD := FRow.d fr2 (k := i) (o := 37 + i) (by omega) (by omega)
          obtain ⟨S, hT, hrows⟩ := tq.two
          have gl := tq.gl
          have gd := tq.gd
          have gle := tq.le
          obtain ⟨X, hX⟩ : ∃ X, X = d i := ⟨_, rfl⟩
          rw [← hX] at cD
          have HX := Hid.mkV hX
          have a0 := GRow.l gq
          have a1 := GRow.d gq
          have a2 := cD
          have Ea0 : ¬ (vL.ownBlock = some g3 ∨ vD.ownBlock = some g3) := fun e => by
            rcases e with e | e
            · have := gl _ e; omega
            · have := gd _ e; omega
          have Ea1 := Ea0
          have Ea2 : ¬ (vL.ownBlock = some g1 ∨ vD.ownBlock = some g1) := fun e => by
            rcases e with e | e
            · have := gl _ e; omega
            · have := gd _ e; omega
          have Ea3 : ¬ (vL.ownBlock = some g2 ∨ vD.ownBlock = some g2) := fun e => by
            rcases e with e | e
            · have := gl _ e; omega
            · have := gd _ e; omega
          have HRo := Hid.mkV hrows
          have HAp := Hid.mkV hap
          have HPs := Hid.mkV hps
          have i0 : (0 : Int) ≤ (i : Int) := by omega
          have i1 : (i : Int) < 6 := by omega
          clear hX hrows hap hps hown tq tr gr rr fr HZ hpf cD
          go_wp2
          have hTd := hT.drew
          have hBd := (But.refl (fun q => vL.ownBlock = some q ∨ vD.ownBlock = some q) wq).drew
          refine Ru.wp_region_U [14, 16] (fun w' => w'.cell? ⟨g3, 0, none⟩ = some (vL) ∧ w'.cell? ⟨g3, 1, none⟩ = some (vD) ∧ w'.cell? ⟨g1, 37 + i, none⟩ = some (.int .i64 X)) (by kernel_rfl) ⟨a0, a1, a2⟩ (fun hHeld => ?_)
          refine Ru.wpAnyU_take (i := 0) (v := .pointer (some ⟨g3, 0, none⟩)) rfl (by kernel_rfl) (by kernel_rfl) (by kernel_rfl) (by kernel_rfl) (by kernel_rfl) (by kernel_rfl) (fun _ _ _ h => h) (Or.inl ⟨by rfl, fun w hS => by obtain ⟨sc0, sc1, sc2⟩ := hS; go_simp⟩) hHeld ?_
          simp only [Act.put, List.getElem_toArray, List.getElem_cons_zero, List.getElem_cons_succ, List.setIfInBounds_toArray, List.set_cons_zero, List.set_cons_succ]
          refine Ru.wpAnyU_take (i := 1) (v := vL) rfl (by kernel_rfl) (by kernel_rfl) (by kernel_rfl) (by kernel_rfl) (by kernel_rfl) (by kernel_rfl) (fun _ _ _ h => h) (Or.inl ⟨by rfl, fun w hS => by obtain ⟨sc0, sc1, sc2⟩ := hS; go_simp⟩) hHeld ?_
          simp only [Act.put, List.getElem_toArray, List.getElem_cons_zero, List.getElem_cons_succ, List.setIfInBounds_toArray, List.set_cons_zero, List.set_cons_succ]
          refine Ru.wpAnyU_take (i := 2) (v := .slice po j pc) rfl (by kernel_rfl) (by kernel_rfl) (by kernel_rfl) (by kernel_rfl) (by kernel_rfl) (by kernel_rfl) (fun _ _ _ h => h) (Or.inl ⟨by rfl, fun w hS => by obtain ⟨sc0, sc1, sc2⟩ := hS; go_simp⟩) hHeld ?_
          simp only [Act.put, List.getElem_toArray, List.getElem_cons_zero, List.getElem_cons_succ, List.setIfInBounds_toArray, List.set_cons_zero, List.set_cons_succ]
          refine Ru.wpAnyU_take (i := 5) (v := .pointer (some ⟨g3, 1, none⟩)) rfl (by kernel_rfl) (by kernel_rfl) (by kernel_rfl) (by kernel_rfl) (by kernel_rfl) (by kernel_rfl) (fun _ _ _ h => h) (Or.inl ⟨by rfl, fun w hS => by obtain ⟨sc0, sc1, sc2⟩ := hS; go_simp⟩) hHeld ?_
          simp only [Act.put, List.getElem_toArray, List.getElem_cons_zero, List.getElem_cons_succ, List.setIfInBounds_toArray, List.set_cons_zero, List.set_cons_succ]
          refine Ru.wpAnyU_take (i := 6) (v := vD) rfl (by kernel_rfl) (by kernel_rfl) (by kernel_rfl) (by kernel_rfl) (by kernel_rfl) (by kernel_rfl) (fun _ _ _ h => h) (Or.inl ⟨by rfl, fun w hS => by obtain ⟨sc0, sc1, sc2⟩ := hS; go_simp⟩) hHeld ?_
          simp only [Act.put, List.getElem_toArray, List.getElem_cons_zero, List.getElem_cons_succ, List.setIfInBounds_toArray, List.set_cons_zero, List.set_cons_succ]
          refine Ru.wpAnyU_take (i := 7) (v := .int .i64 (i : Int)) rfl (by kernel_rfl) (by kernel_rfl) (by kernel_rfl) (by kernel_rfl) (by kernel_rfl) (by kernel_rfl) (fun _ _ _ h => h) (Or.inl ⟨by rfl, fun w hS => by obtain ⟨sc0, sc1, sc2⟩ := hS; go_simp⟩) hHeld ?_
          simp only [Act.put, List.getElem_toArray, List.getElem_cons_zero, List.getElem_cons_succ, List.setIfInBounds_toArray, List.set_cons_zero, List.set_cons_succ]
          refine Ru.wpAnyU_take (i := 8) (v := .pointer (some ⟨g1, 37, none⟩)) rfl (by kernel_rfl) (by kernel_rfl) (by kernel_rfl) (by kernel_rfl) (by kernel_rfl) (by kernel_rfl) (fun _ _ _ h => h) (Or.inl ⟨by rfl, fun w hS => by obtain ⟨sc0, sc1, sc2⟩ := hS; go_simp⟩) hHeld ?_
          simp only [Act.put, List.getElem_toArray, List.getElem_cons_zero, List.getElem_cons_succ, List.setIfInBounds_toArray, List.set_cons_zero, List.set_cons_succ]
          refine Ru.wpAnyU_take (i := 9) (v := .pointer (some ⟨g1, 37 + i, none⟩)) rfl (by kernel_rfl) (by kernel_rfl) (by kernel_rfl) (by kernel_rfl) (by kernel_rfl) (by kernel_rfl) (fun _ _ _ h => h) (Or.inl ⟨by rfl, fun w hS => by obtain ⟨sc0, sc1, sc2⟩ := hS; go_simp⟩) hHeld ?_
          simp only [Act.put, List.getElem_toArray, List.getElem_cons_zero, List.getElem_cons_succ, List.setIfInBounds_toArray, List.set_cons_zero, List.set_cons_succ]
          refine Ru.wpAnyU_take (i := 10) (v := .int .i64 X) rfl (by kernel_rfl) (by kernel_rfl) (by kernel_rfl) (by kernel_rfl) (by kernel_rfl) (by kernel_rfl) (fun _ _ _ h => h) (Or.inl ⟨by rfl, fun w hS => by obtain ⟨sc0, sc1, sc2⟩ := hS; go_simp⟩) hHeld ?_
          simp only [Act.put, List.getElem_toArray, List.getElem_cons_zero, List.getElem_cons_succ, List.setIfInBounds_toArray, List.set_cons_zero, List.set_cons_succ]
          refine Ru.wpAnyU_ready (rs := [3, 11]) (by kernel_rfl) (by simp) ?_
          refine Ru.AllReadyU.cons rfl (by kernel_rfl) (fun K hK => ?_) ?_
          · go_simp
            have tw1 := Vg.Two.alloc hTd (.cells #[.slice po j pc] 23)
            have bu1 := But.al hBd (.cells #[.slice po j pc] 23)
            have pe1 := Vg.pend_at (b := wq.heap.size) hTd (.slice po j pc) 23 (by simp)
            refine hK.out _ _ ⟨bu1.cell a0 Ea0, bu1.cell a1 Ea1, bu1.cell a2 Ea2⟩ (fun hHeld => ?_)
            clear hK K
            try simp only [Act.put, List.getElem_toArray, List.getElem_cons_zero, List.getElem_cons_succ, List.setIfInBounds_toArray, List.set_cons_zero, List.set_cons_succ]
            refine Ru.wpAnyU_ready (rs := [4, 11]) (by kernel_rfl) (by simp) ?_
            refine Ru.AllReadyU.cons rfl (by kernel_rfl) (fun K hK => ?_) ?_
            · refine Vg.step_x elS (by rfl) (.tmp 37) (.tmp 39) (by rfl) tw1 (by rfl) (by omega) (by unfold maxLen; omega) (by rfl) pe1 (by rfl) ?_
              intro v1 w2 t2 p2 q2 n2
              obtain ⟨l1, c1, rfl⟩ := own_form t2.x
              have bu2 : But (fun q => vL.ownBlock = some q ∨ vD.ownBlock = some q) wq w2 := bu1.trans (but_grown q2 (fun b e => Or.inl e))
              have n1' : ∀ q, q < wq.heap.size → vL.ownBlock ≠ some q → (Value.slice l1 (i + 1) c1).ownBlock ≠ some q := fun q hq => n2 q (Nat.lt_of_lt_of_le hq bu1.size)
              refine hK.out _ _ ⟨bu2.cell a0 Ea0, bu2.cell a1 Ea1, bu2.cell a2 Ea2⟩ (fun hHeld => ?_)
              clear hK K n2 q2 p2
              try simp only [Act.put, List.getElem_toArray, List.getElem_cons_zero, List.getElem_cons_succ, List.setIfInBounds_toArray, List.set_cons_zero, List.set_cons_succ]
              refine Ru.wpAnyU_take (i := 13) (v := .pointer (some ⟨g3, 0, none⟩)) rfl (by kernel_rfl) (by kernel_rfl) (by kernel_rfl) (by kernel_rfl) (by kernel_rfl) (by kernel_rfl) (fun _ _ _ h => h) (Or.inl ⟨by rfl, fun w hS => by obtain ⟨sc0, sc1, sc2⟩ := hS; go_simp⟩) hHeld ?_
              simp only [Act.put, List.getElem_toArray, List.getElem_cons_zero, List.getElem_cons_succ, List.setIfInBounds_toArray, List.set_cons_zero, List.set_cons_succ]
              refine Ru.wpAnyU_ready (rs := [11]) (by kernel_rfl) (by simp) ?_
              refine Ru.AllReadyU.cons rfl (by kernel_rfl) (fun K hK => ?_) Ru.AllReadyU.nil
              go_simp
              have tw3 := Vg.Two.alloc t2 (.cells #[.int .i64 X] 2)
              have bu3 := But.al bu2 (.cells #[.int .i64 X] 2)
              have pe3 := Vg.pend_at (b := w2.heap.size) t2 (.int .i64 X) 2 (by simp)
              refine hK.out _ _ ⟨bu3.cell a0 Ea0, bu3.cell a1 Ea1, bu3.cell a2 Ea2⟩ (fun hHeld => ?_)
              clear hK K
              try simp only [Act.put, List.getElem_toArray, List.getElem_cons_zero, List.getElem_cons_succ, List.setIfInBounds_toArray, List.set_cons_zero, List.set_cons_succ]
              refine Ru.wpAnyU_ready (rs := [12]) (by kernel_rfl) (by simp) ?_
              refine Ru.AllReadyU.cons rfl (by kernel_rfl) (fun K hK => ?_) Ru.AllReadyU.nil
              refine Vg.step_y elI (by rfl) (.tmp 42) (.tmp 47) (by rfl) tw3 (by rfl) (by omega) (by unfold maxLen; omega) (by rfl) pe3 (by rfl) ?_
              intro v2 w2 t2 p2 q2 n2
              obtain ⟨l2, c2, rfl⟩ := own_form t2.y
              have b2 : But (fun q => vL.ownBlock = some q ∨ vD.ownBlock = some q) wq w2 := bu3.trans (but_grown q2 (fun b e => Or.inr e))
              have n2' : ∀ q, q < wq.heap.size → vD.ownBlock ≠ some q → (Value.slice l2 (i + 1) c2).ownBlock ≠ some q := fun q hq => n2 q (Nat.lt_of_lt_of_le hq bu3.size)
              have g2' := crowBut gq b2 Ea0
              have a0y := GRow.l g2'
              have a1y := GRow.d g2'
              have f0y := CRow.free g2' 0
              have f1y := CRow.free g2' 1
              refine hK.out _ _ ⟨b2.cell a0 Ea0, b2.cell a1 Ea1, b2.cell a2 Ea2⟩ (fun hHeld => ?_)
              clear hK K n2 q2 p2
              try simp only [Act.put, List.getElem_toArray, List.getElem_cons_zero, List.getElem_cons_succ, List.setIfInBounds_toArray, List.set_cons_zero, List.set_cons_succ]
              refine Ru.wpAnyU_ready (rs := [14]) (by kernel_rfl) (by simp) ?_
              refine Ru.AllReadyU.cons2 rfl (by kernel_rfl) (fun K hK => ?_) Ru.AllReadyU.nil
              go_simp
              refine hK.out _ _ ?_
              clear hK K
              try simp only [Act.put, List.getElem_toArray, List.getElem_cons_zero, List.getElem_cons_succ, List.setIfInBounds_toArray, List.set_cons_zero, List.set_cons_succ]
              refine wpAny_ready (rs := [15]) (by kernel_rfl) (by simp) ?_
              refine AllReady.cons rfl (fun K hK => ?_) AllReady.nil
              go_simp
              refine hK _ _ ?_
              clear hK K
              try simp only [Act.put, List.getElem_toArray, List.getElem_cons_zero, List.getElem_cons_succ, List.setIfInBounds_toArray, List.set_cons_zero, List.set_cons_succ]
              refine wpAny_ready (rs := [16]) (by kernel_rfl) (by simp) ?_
              refine AllReady.cons rfl (fun K hK => ?_) AllReady.nil
              go_simp
              refine hK _ _ ?_
              clear hK K
              try simp only [Act.put, List.getElem_toArray, List.getElem_cons_zero, List.getElem_cons_succ, List.setIfInBounds_toArray, List.set_cons_zero, List.set_cons_succ]
              refine wpAny_done (by kernel_rfl) ?_ _
              go_wp2
              go_roundw
              case rel =>
                refine ⟨i + 1, by omega, by go_num, CRow.other (CRow.other (crowBut fr2 b2 Ea2) _ (by show g1 ≠ g3; omega)) _ (by show g1 ≠ g3; omega), CRow.other (CRow.other (crowBut rq b2 Ea3) _ (by show g2 ≠ g3; omega)) _ (by show g2 ≠ g3; omega), _, _, CRow.set (CRow.set g2' 0 _) 1 _, ?_⟩
                exact (ftwo_push HRo.out b2 (by rw [← HX.out]; exact t2) n1' n2' (by omega) HPs.out HAp.out gle gl gd).put (g := g3) (by omega) (by omega) (((But.refl (fun x => x = g3) w2).set _ rfl).set _ rfl)
              case measure => simp [intOf]; omega
            refine Ru.AllReadyU.cons rfl (by kernel_rfl) (fun K hK => ?_) Ru.AllReadyU.nil
            go_simp
            have tw5 := Vg.Two.alloc tw1 (.cells #[.int .i64 X] 2)
            have bu5 := But.al bu1 (.cells #[.int .i64 X] 2)
            have pe5 := Vg.pend_at (b := wq.heap.size + 1) tw1 (.int .i64 X) 2 (by simp)
            have pk5_3 := Vg.Pend.alloc pe1 (.cells #[.int .i64 X] 2)
            refine hK.out _ _ ⟨bu5.cell a0 Ea0, bu5.cell a1 Ea1, bu5.cell a2 Ea2⟩ (fun hHeld => ?_)
            clear hK K
            try simp only [Act.put, List.getElem_toArray, List.getElem_cons_zero, List.getElem_cons_succ, List.setIfInBounds_toArray, List.set_cons_zero, List.set_cons_succ]
            refine Ru.wpAnyU_ready (rs := [4]) (by kernel_rfl) (by simp) ?_
            refine Ru.AllReadyU.cons rfl (by kernel_rfl) (fun K hK => ?_) Ru.AllReadyU.nil
            refine Vg.step_x elS (by rfl) (.tmp 37) (.tmp 39) (by rfl) tw5 (by rfl) (by omega) (by unfold maxLen; omega) (by rfl) pk5_3 (by rfl) ?_
            intro v1 w6 t6 p6 q6 n6
            obtain ⟨l1, c1, rfl⟩ := own_form t6.x
            have bu6 : But (fun q => vL.ownBlock = some q ∨ vD.ownBlock = some q) wq w6 := bu5.trans (but_grown q6 (fun b e => Or.inl e))
            have n1' : ∀ q, q < wq.heap.size → vL.ownBlock ≠ some q → (Value.slice l1 (i + 1) c1).ownBlock ≠ some q := fun q hq => n6 q (Nat.lt_of_lt_of_le hq bu5.size)
            have pk6_11 := p6 _ _ _ pe5
            refine hK.out _ _ ⟨bu6.cell a0 Ea0, bu6.cell a1 Ea1, bu6.cell a2 Ea2⟩ (fun hHeld => ?_)
            clear hK K n6 q6 p6
            try simp only [Act.put, List.getElem_toArray, List.getElem_cons_zero, List.getElem_cons_succ, List.setIfInBounds_toArray, List.set_cons_zero, List.set_cons_succ]
            refine Ru.wpAnyU_take (i := 13) (v := .pointer (some ⟨g3, 0, none⟩)) rfl (by kernel_rfl) (by kernel_rfl) (by kernel_rfl) (by kernel_rfl) (by kernel_rfl) (by kernel_rfl) (fun _ _ _ h => h) (Or.inl ⟨by rfl, fun w hS => by obtain ⟨sc0, sc1, sc2⟩ := hS; go_simp⟩) hHeld ?_
            simp only [Act.put, List.getElem_toArray, List.getElem_cons_zero, List.getElem_cons_succ, List.setIfInBounds_toArray, List.set_cons_zero, List.set_cons_succ]
            refine Ru.wpAnyU_ready (rs := [12]) (by kernel_rfl) (by simp) ?_
            refine Ru.AllReadyU.cons rfl (by kernel_rfl) (fun K hK => ?_) Ru.AllReadyU.nil
            refine Vg.step_y elI (by rfl) (.tmp 42) (.tmp 47) (by rfl) t6 (by rfl) (by omega) (by unfold maxLen; omega) (by rfl) pk6_11 (by rfl) ?_
            intro v2 w2 t2 p2 q2 n2
            obtain ⟨l2, c2, rfl⟩ := own_form t2.y
            have b2 : But (fun q => vL.ownBlock = some q ∨ vD.ownBlock = some q) wq w2 := bu6.trans (but_grown q2 (fun b e => Or.inr e))
            have n2' : ∀ q, q < wq.heap.size → vD.ownBlock ≠ some q → (Value.slice l2 (i + 1) c2).ownBlock ≠ some q := fun q hq => n2 q (Nat.lt_of_lt_of_le hq bu6.size)
            have g2' := crowBut gq b2 Ea0
            have a0y := GRow.l g2'
            have a1y := GRow.d g2'
            have f0y := CRow.free g2' 0
            have f1y := CRow.free g2' 1
            refine hK.out _ _ ⟨b2.cell a0 Ea0, b2.cell a1 Ea1, b2.cell a2 Ea2⟩ (fun hHeld => ?_)
            clear hK K n2 q2 p2
            try simp only [Act.put, List.getElem_toArray, List.getElem_cons_zero, List.getElem_cons_succ, List.setIfInBounds_toArray, List.set_cons_zero, List.set_cons_succ]
            refine Ru.wpAnyU_ready (rs := [14]) (by kernel_rfl) (by simp) ?_
            refine Ru.AllReadyU.cons2 rfl (by kernel_rfl) (fun K hK => ?_) Ru.AllReadyU.nil
            go_simp
            refine hK.out _ _ ?_
            clear hK K
            try simp only [Act.put, List.getElem_toArray, List.getElem_cons_zero, List.getElem_cons_succ, List.setIfInBounds_toArray, List.set_cons_zero, List.set_cons_succ]
            refine wpAny_ready (rs := [15]) (by kernel_rfl) (by simp) ?_
            refine AllReady.cons rfl (fun K hK => ?_) AllReady.nil
            go_simp
            refine hK _ _ ?_
            clear hK K
            try simp only [Act.put, List.getElem_toArray, List.getElem_cons_zero, List.getElem_cons_succ, List.setIfInBounds_toArray, List.set_cons_zero, List.set_cons_succ]
            refine wpAny_ready (rs := [16]) (by kernel_rfl) (by simp) ?_
            refine AllReady.cons rfl (fun K hK => ?_) AllReady.nil
            go_simp
            refine hK _ _ ?_
            clear hK K
            try simp only [Act.put, List.getElem_toArray, List.getElem_cons_zero, List.getElem_cons_succ, List.setIfInBounds_toArray, List.set_cons_zero, List.set_cons_succ]
            refine wpAny_done (by kernel_rfl) ?_ _
            go_wp2
            go_roundw
            case rel =>
              refine ⟨i + 1, by omega, by go_num, CRow.other (CRow.other (crowBut fr2 b2 Ea2) _ (by show g1 ≠ g3; omega)) _ (by show g1 ≠ g3; omega), CRow.other (CRow.other (crowBut rq b2 Ea3) _ (by show g2 ≠ g3; omega)) _ (by show g2 ≠ g3; omega), _, _, CRow.set (CRow.set g2' 0 _) 1 _, ?_⟩
              exact (ftwo_push HRo.out b2 (by rw [← HX.out]; exact t2) n1' n2' (by omega) HPs.out HAp.out gle gl gd).put (g := g3) (by omega) (by omega) (((But.refl (fun x => x = g3) w2).set _ rfl).set _ rfl)
            case measure => simp [intOf]; omega
          refine Ru.AllReadyU.cons rfl (by kernel_rfl) (fun K hK => ?_) Ru.AllReadyU.nil
          go_simp
          have tw8 := Vg.Two.alloc hTd (.cells #[.int .i64 X] 2)
          have bu8 := But.al hBd (.cells #[.int .i64 X] 2)
          have pe8 := Vg.pend_at (b := wq.heap.size) hTd (.int .i64 X) 2 (by simp)
          refine hK.out _ _ ⟨bu8.cell a0 Ea0, bu8.cell a1 Ea1, bu8.cell a2 Ea2⟩ (fun hHeld => ?_)
          clear hK K
          try simp only [Act.put, List.getElem_toArray, List.getElem_cons_zero, List.getElem_cons_succ, List.setIfInBounds_toArray, List.set_cons_zero, List.set_cons_succ]
          refine Ru.wpAnyU_ready (rs := [3]) (by kernel_rfl) (by simp) ?_
          refine Ru.AllReadyU.cons rfl (by kernel_rfl) (fun K hK => ?_) Ru.AllReadyU.nil
          go_simp
          have tw9 := Vg.Two.alloc tw8 (.cells #[.slice po j pc] 23)
          have bu9 := But.al bu8 (.cells #[.slice po j pc] 23)
          have pe9 := Vg.pend_at (b := wq.heap.size + 1) tw8 (.slice po j pc) 23 (by simp)
          have pk9_11 := Vg.Pend.alloc pe8 (.cells #[.slice po j pc] 23)
          refine hK.out _ _ ⟨bu9.cell a0 Ea0, bu9.cell a1 Ea1, bu9.cell a2 Ea2⟩ (fun hHeld => ?_)
          clear hK K
          try simp only [Act.put, List.getElem_toArray, List.getElem_cons_zero, List.getElem_cons_succ, List.setIfInBounds_toArray, List.set_cons_zero, List.set_cons_succ]
          refine Ru.wpAnyU_ready (rs := [4]) (by kernel_rfl) (by simp) ?_
          refine Ru.AllReadyU.cons rfl (by kernel_rfl) (fun K hK => ?_) Ru.AllReadyU.nil
          refine Vg.step_x elS (by rfl) (.tmp 37) (.tmp 39) (by rfl) tw9 (by rfl) (by omega) (by unfold maxLen; omega) (by rfl) pe9 (by rfl) ?_
          intro v1 w10 t10 p10 q10 n10
          obtain ⟨l1, c1, rfl⟩ := own_form t10.x
          have bu10 : But (fun q => vL.ownBlock = some q ∨ vD.ownBlock = some q) wq w10 := bu9.trans (but_grown q10 (fun b e => Or.inl e))
          have n1' : ∀ q, q < wq.heap.size → vL.ownBlock ≠ some q → (Value.slice l1 (i + 1) c1).ownBlock ≠ some q := fun q hq => n10 q (Nat.lt_of_lt_of_le hq bu9.size)
          have pk10_11 := p10 _ _ _ pk9_11
          refine hK.out _ _ ⟨bu10.cell a0 Ea0, bu10.cell a1 Ea1, bu10.cell a2 Ea2⟩ (fun hHeld => ?_)
          clear hK K n10 q10 p10
          try simp only [Act.put, List.getElem_toArray, List.getElem_cons_zero, List.getElem_cons_succ, List.setIfInBounds_toArray, List.set_cons_zero, List.set_cons_succ]
          refine Ru.wpAnyU_take (i := 13) (v := .pointer (some ⟨g3, 0, none⟩)) rfl (by kernel_rfl) (by kernel_rfl) (by kernel_rfl) (by kernel_rfl) (by kernel_rfl) (by kernel_rfl) (fun _ _ _ h => h) (Or.inl ⟨by rfl, fun w hS => by obtain ⟨sc0, sc1, sc2⟩ := hS; go_simp⟩) hHeld ?_
          simp only [Act.put, List.getElem_toArray, List.getElem_cons_zero, List.getElem_cons_succ, List.setIfInBounds_toArray, List.set_cons_zero, List.set_cons_succ]
          refine Ru.wpAnyU_ready (rs := [12]) (by kernel_rfl) (by simp) ?_
          refine Ru.AllReadyU.cons rfl (by kernel_rfl) (fun K hK => ?_) Ru.AllReadyU.nil
          refine Vg.step_y elI (by rfl) (.tmp 42) (.tmp 47) (by rfl) t10 (by rfl) (by omega) (by unfold maxLen; omega) (by rfl) pk10_11 (by rfl) ?_
          intro v2 w2 t2 p2 q2 n2
          obtain ⟨l2, c2, rfl⟩ := own_form t2.y
          have b2 : But (fun q => vL.ownBlock = some q ∨ vD.ownBlock = some q) wq w2 := bu10.trans (but_grown q2 (fun b e => Or.inr e))
          have n2' : ∀ q, q < wq.heap.size → vD.ownBlock ≠ some q → (Value.slice l2 (i + 1) c2).ownBlock ≠ some q := fun q hq => n2 q (Nat.lt_of_lt_of_le hq bu10.size)
          have g2' := crowBut gq b2 Ea0
          have a0y := GRow.l g2'
          have a1y := GRow.d g2'
          have f0y := CRow.free g2' 0
          have f1y := CRow.free g2' 1
          refine hK.out _ _ ⟨b2.cell a0 Ea0, b2.cell a1 Ea1, b2.cell a2 Ea2⟩ (fun hHeld => ?_)
          clear hK K n2 q2 p2
          try simp only [Act.put, List.getElem_toArray, List.getElem_cons_zero, List.getElem_cons_succ, List.setIfInBounds_toArray, List.set_cons_zero, List.set_cons_succ]
          refine Ru.wpAnyU_ready (rs := [14]) (by kernel_rfl) (by simp) ?_
          refine Ru.AllReadyU.cons2 rfl (by kernel_rfl) (fun K hK => ?_) Ru.AllReadyU.nil
          go_simp
          refine hK.out _ _ ?_
          clear hK K
          try simp only [Act.put, List.getElem_toArray, List.getElem_cons_zero, List.getElem_cons_succ, List.setIfInBounds_toArray, List.set_cons_zero, List.set_cons_succ]
          refine wpAny_ready (rs := [15]) (by kernel_rfl) (by simp) ?_
          refine AllReady.cons rfl (fun K hK => ?_) AllReady.nil
          go_simp
          refine hK _ _ ?_
          clear hK K
          try simp only [Act.put, List.getElem_toArray, List.getElem_cons_zero, List.getElem_cons_succ, List.setIfInBounds_toArray, List.set_cons_zero, List.set_cons_succ]
          refine wpAny_ready (rs := [16]) (by kernel_rfl) (by simp) ?_
          refine AllReady.cons rfl (fun K hK => ?_) AllReady.nil
          go_simp
          refine hK _ _ ?_
          clear hK K
          try simp only [Act.put, List.getElem_toArray, List.getElem_cons_zero, List.getElem_cons_succ, List.setIfInBounds_toArray, List.set_cons_zero, List.set_cons_succ]
          refine wpAny_done (by kernel_rfl) ?_ _
          go_wp2
          go_roundw
          case rel =>
            refine ⟨i + 1, by omega, by go_num, CRow.other (CRow.other (crowBut fr2 b2 Ea2) _ (by show g1 ≠ g3; omega)) _ (by show g1 ≠ g3; omega), CRow.other (CRow.other (crowBut rq b2 Ea3) _ (by show g2 ≠ g3; omega)) _ (by show g2 ≠ g3; omega), _, _, CRow.set (CRow.set g2' 0 _) 1 _, ?_⟩
            exact (ftwo_push HRo.out b2 (by rw [← HX.out]; exact t2) n1' n2' (by omega) HPs.out HAp.out gle gl gd).put (g := g3) (by omega) (by omega) (((But.refl (fun x => x = g3) w2).set _ rfl).set _ rfl)
          case measure => simp [intOf]; omega
    · obtain rfl : i = n := by omega
      obtain ⟨lo, cl, do', cd, rfl, rfl, hg, hs⟩ := tr.grid
      go_wp2_with (first
        | (refine St.wpList_load isG (by rfl) _ (by rfl) _ _ (by rfl) (by with_reducible exact gr) rfl ?_)
        | (refine St.wpList_store isG rfl _ _ (by rfl) _ _ _ (by rfl) (by rfl) (by with_reducible exact rr) rfl rfl (by intro v hv; simp at hv; rcases hv with rfl | rfl <;> rfl) ?_)
        | fail)
      have tr' := FTwo.put tr (g := g2) (by omega) (by omega) (but_row wo g2 ([.slice lo i cl, .slice do' i cd] : List Value).toArray)
      obtain ⟨lo2, cl2, do2, cd2, e1, e2, hg2, hs2⟩ := tr'.grid
      cases e1
      cases e2
      exact bodyPost_ret (St.results_1 isG Tryd.results10 _ _ g2 _ rfl (CRow.row rr _) rfl) rfl ⟨_, _, _, _, rfl, hg2, hs2, tr'.below⟩

end Go.Proofs.YtkmhikfjdafipaaDoor

/-
  The document's answer of layer 9 (radomeref09): Makes, of factors that make the rows.
-/
set_option linter.unusedSimpArgs false
set_option linter.unusedVariables false
namespace Go.Proofs.YtkmhikfjdafipaaDoor
open Go.RowKit Vc Mt St Dt Ld Dec Nv

namespace Ld
theorem abs3 {a b c : Int} (ha : -4611686018427387903 ≤ a ∧ a ≤ 4611686018427387903) (hb : -4611686018427387903 ≤ b ∧ b ≤ 4611686018427387903) (hc : -4611686018427387903 ≤ c ∧ c ≤ 4611686018427387903) :
    (a * b).natAbs ≤ 10 ^ 38 ∧ (a * b * c).natAbs ≤ 10 ^ 57 := by
  have h1 : a.natAbs ≤ 4611686018427387903 := by omega
  have h2 : b.natAbs ≤ 4611686018427387903 := by omega
  have h3 : c.natAbs ≤ 4611686018427387903 := by omega
  have e1 : (a * b).natAbs ≤ 4611686018427387903 * 4611686018427387903 := by rw [Int.natAbs_mul]; exact Nat.mul_le_mul h1 h2
  have e2 : (a * b * c).natAbs ≤ 4611686018427387903 * 4611686018427387903 * 4611686018427387903 := by rw [Int.natAbs_mul]; exact Nat.mul_le_mul e1 h3
  constructor <;> omega
theorem tri_len {a b c : Nat → Int} (ha : ∀ k, -4611686018427387903 ≤ a k ∧ a k ≤ 4611686018427387903) (hb : ∀ k, -4611686018427387903 ≤ b k ∧ b k ≤ 4611686018427387903) (hc : ∀ k, -4611686018427387903 ≤ c k ∧ c k ≤ 4611686018427387903) : ∀ k, (tri a b c k).natAbs ≤ k * 10 ^ 57
  | 0 => by show (0 : Int).natAbs ≤ _; simp
  | k + 1 => by
    have h1 := tri_len ha hb hc k
    have h2 := (abs3 (ha k) (hb k) (hc k)).2
    have h3 := Int.natAbs_add_le (tri a b c k) (a k * b k * c k)
    show (tri a b c k + a k * b k * c k).natAbs ≤ (k + 1) * 10 ^ 57
    rw [Nat.add_mul, Nat.one_mul]
    omega
theorem allow_len {a : Nat → Int} (ha : ∀ k, -4611686018427387903 ≤ a k ∧ a k ≤ 4611686018427387903) (j : Nat) : ∀ k, (allow a j k).natAbs ≤ (2 * j + 4) * 10 ^ 20 + k * 10 ^ 29
  | 0 => by
    show (((2 * j + 4 : Nat) : Int) * 2 ^ 60).natAbs ≤ _
    rw [show (2 : Int) ^ 60 = 1152921504606846976 by decide]
    omega
  | k + 1 => by
    have h1 := allow_len ha j k
    have h2 := ha k
    show (allow a j k + ((a k).natAbs : Int) * 2 ^ 31).natAbs ≤ _
    rw [show (2 : Int) ^ 31 = 2147483648 by decide, Nat.add_mul k 1]
    omega
theorem run_fieldD (b : Bool) (a : Option Addr) (L c : Nat) (w : World) : (Instr.field 65 (.agg #[.bool b, .slice a L c]) 1).run Tryd.prog w = .ok (.slice a L c) w := by kernel_rfl
theorem two31 : ((2 ^ 31 : Nat) : Int) = 2 ^ 31 := by decide
theorem two60 : ((2 ^ 60 : Nat) : Int) = 2 ^ 60 := by decide
end Ld

set_option maxRecDepth 20000 in
set_option maxHeartbeats 8000000 in
theorem makes_yes (n cl cd cm : Nat) (lo do' mo : Option Addr) (L F : Nat → Nat → Int) (d : Nat → Int) (w : World) (h1 : 1 ≤ n) (hn : n ≤ 6) (hL : Grid w lo n cl n L) (hD : Sl w do' n cd d) (hM : Grid w mo n cm n F)
    (bL : ∀ a b, -4611686018427387903 ≤ L a b ∧ L a b ≤ 4611686018427387903) (bD : ∀ k, -4611686018427387903 ≤ d k ∧ d k ≤ 4611686018427387903) (bF : ∀ a b, -4611686018427387903 ≤ F a b ∧ F a b ≤ 4611686018427387903)
    (ok : ∀ i j, i < n → j ≤ i → (tri (L i) (L j) d (j + 1) - F i j * 2 ^ 60).natAbs ≤ (allow (L i) j (j + 1) + d j * 2 ^ 31).natAbs) :
    Calls Tryd.prog 9 #[.agg #[.slice lo n cl, .slice do' n cd], .slice mo n cm] w fun e w' => e = .returned (.bool true) ∧ Below w.heap.size w w' := by
  have hB := below_al (Below.refl _ w) (.cells #[.slice lo n cl, .slice do' n cd] 40)
  obtain ⟨AL, CL, gl1, gl2⟩ := hL.keep hB
  obtain ⟨AM, CM, gm1, gm2⟩ := hM.keep hB
  have gd := hD.keep hB
  have rg : GRow (w.alloc (.cells #[.slice lo n cl, .slice do' n cd] 40)) w.heap.size (.slice lo n cl) (.slice do' n cd) := crow_new w _ [.slice lo n cl, .slice do' n cd]
  have G0 := GRow.l rg
  have G1 := GRow.d rg
  obtain ⟨xl, ol, cl1⟩ := gl1.get
  obtain ⟨xm, om, cm1⟩ := gm1.get
  obtain ⟨xd, od, cd1⟩ := gd.get
  have eL := ol (by omega)
  have eM := om (by omega)
  have eD := od (by omega)
  subst eL eM eD
  have le1 := gl1.le
  have le2 := gl1.cap
  have le3 := gm1.le
  have le4 := gm1.cap
  have le5 := gd.le
  have le6 := gd.cap
  -- each cell, as a function of the place
  have HRl : Hid (∀ i, i < n → ∃ x, AL i = some x) := fun i hi => by
    obtain ⟨x, hx, _⟩ := (gl2 i hi).at' 0 (by omega)
    exact ⟨x, hx⟩
  have HRm : Hid (∀ i, i < n → ∃ x, AM i = some x) := fun i hi => by
    obtain ⟨x, hx, _⟩ := (gm2 i hi).at' 0 (by omega)
    exact ⟨x, hx⟩
  have HCl : Hid (∀ k, k < n → (w.alloc (.cells #[.slice (some xl) n cl, .slice (some xd) n cd] 40)).cell? (xl.add k) = some (.slice (AL k) n (CL k))) := cl1
  have HCm : Hid (∀ k, k < n → (w.alloc (.cells #[.slice (some xl) n cl, .slice (some xd) n cd] 40)).cell? (xm.add k) = some (.slice (AM k) n (CM k))) := cm1
  have HCd := Hid.mkV cd1
  have HVl : Hid (∀ i x k, i < n → k < n → AL i = some x → (w.alloc (.cells #[.slice (some xl) n cl, .slice (some xd) n cd] 40)).cell? (x.add k) = some (.int .i64 (L i k))) := fun i x k hi hk e => by
    obtain ⟨y, hy, hc⟩ := (gl2 i hi).at' k hk
    rw [e] at hy; cases hy; exact hc
  have HVm : Hid (∀ i x k, i < n → k < n → AM i = some x → (w.alloc (.cells #[.slice (some xl) n cl, .slice (some xd) n cd] 40)).cell? (x.add k) = some (.int .i64 (F i k))) := fun i x k hi hk e => by
    obtain ⟨y, hy, hc⟩ := (gm2 i hi).at' k hk
    rw [e] at hy; cases hy; exact hc
  have HLl : Hid (∀ i, i < n → n ≤ CL i ∧ CL i ≤ 9223372036854775807) := fun i hi => ⟨(gl2 i hi).le, (gl2 i hi).cap⟩
  have HLm : Hid (∀ i, i < n → n ≤ CM i ∧ CM i ≤ 9223372036854775807) := fun i hi => ⟨(gm2 i hi).le, (gm2 i hi).cap⟩
  have HOK := Hid.mkV ok
  have HbL := Hid.mkV bL
  have HbD := Hid.mkV bD
  have HbF := Hid.mkV bF
  have hBs : (w.alloc (.cells #[.slice (some xl) n cl, .slice (some xd) n cd] 40)).heap.size = w.heap.size + 1 := by simp
  obtain ⟨W0, HW⟩ : ∃ W0, Hid (W0 = w.alloc (.cells #[.slice (some xl) n cl, .slice (some xd) n cd] 40)) := ⟨_, rfl⟩
  rw [← HW.out] at G0 G1 HVl HVm HCl HCm HCd hB hBs
  have HB := Hid.mkV hB
  clear hL hD hM bL bD bF ok hB gl1 gl2 gm1 gm2 gd rg ol om od cl1 cm1 cd1
  go_enter Tryd.func9, Tryd.ntmps9
  go_wp2
  go_loopw [5] (fun i wr => ∃ k : Nat, k ≤ n ∧ i = .int .i64 (k : Int) ∧ Below W0.heap.size W0 wr) (fun i _ => n - (intOf i).toNat)
  case atStart => exact ⟨0, by omega, rfl, by rw [HW.out]; exact Below.refl _ _⟩
  case round =>
    rename World => wa
    obtain ⟨i, hi, rfl, ba⟩ := hrel
    by_cases h : i < n
    · obtain ⟨xi, hxi⟩ := HRl.out i h
      obtain ⟨yi, hyi⟩ := HRm.out i h
      have C4 := HCl.out i h
      have M4 := HCm.out i h
      have l4 := HLl.out i h
      have l5 := HLm.out i h
      rw [hxi] at C4
      rw [hyi] at M4
      go_wp2
      go_loopw [6] (fun j wr => ∃ k : Nat, k ≤ i + 1 ∧ j = .int .i64 (k : Int) ∧ Below W0.heap.size W0 wr) (fun j _ => i + 1 - (intOf j).toNat)
      case atStart => exact ⟨0, by omega, rfl, ba⟩
      case round =>
        rename World => wb
        obtain ⟨j, hj, rfl, bb⟩ := hrel
        by_cases h2 : j ≤ i
        · obtain ⟨xj, hxj⟩ := HRl.out j (by omega)
          have C5 := HCl.out j (by omega)
          have l6 := HLl.out j (by omega)
          rw [hxj] at C5
          have j1 : (j : Int) ≤ (i : Int) := by omega
          have sj : IntKind.i64.wrap (2 * (j : Int)) = 2 * (j : Int) := by rw [IntKind.wrap_i64]; omega
          have sj2 : IntKind.i64.wrap (2 * (j : Int) + 4) = ((2 * j + 4 : Nat) : Int) := by rw [IntKind.wrap_i64]; omega
          have z0 := bb.size
          have OF1 := Hid.mkV (fun W => of_any ((2 * j + 4 : Nat) : Int) W (by omega) (by omega))
          have TW1 := Hid.mkV (fun W => two_any 60 W (by omega))
          have MU1 := Hid.mkV (fun va vb W => mul_any va vb ((2 * j + 4 : Nat) : Int) ((2 ^ 60 : Nat) : Int) W (len100 (by omega)) (len100 (by omega)))
          have e60 : ((2 * j + 4 : Nat) : Int) * ((2 ^ 60 : Nat) : Int) = allow (L i) j 0 := by rw [two60]; rfl
          rw [e60] at MU1
          obtain ⟨J, hJ⟩ : ∃ q, q = ((2 * j + 4 : Nat) : Int) := ⟨_, rfl⟩
          obtain ⟨Q60, hQ⟩ : ∃ q, q = ((2 ^ 60 : Nat) : Int) := ⟨_, rfl⟩
          rw [← hJ] at OF1 MU1 sj2
          rw [← hQ] at TW1 MU1
          clear hJ hQ e60
          go_wp2_with fail
          refine (OF1.out _).mono ?_
          rintro e w1 ⟨v1, rfl, i1, k1⟩
          go_wp2_with fail
          refine (TW1.out _).mono ?_
          rintro e w2 ⟨v2, rfl, i2, k2⟩
          go_wp2_with fail
          refine (MU1.out _ _ _ (i1.below k2) i2).mono ?_
          rintro e w3 ⟨v3, rfl, i3, k3⟩
          obtain ⟨a3, L3, c3, e3, n3⟩ := numAt_new i3
          subst e3
          have nS0 : Nv.NumAt (wb.alloc (.cells #[.bool false, .slice none 0 0] 65)) wb.heap.size 0 := ⟨none, 0, 0, row2_new wb _ _, num_zero _⟩
          have nS1 := ((nS0.keep k1).keep k2).keep k3
          have gsm := nS1.lt
          have nS2 := nS1.keep (below_al (Below.refl _ w3) (.cells #[.bool (decide (allow (L i) j 0 < 0)), .slice a3 L3 c3] 65))
          have b3 : Below W0.heap.size W0 (w3.alloc (.cells #[.bool (decide (allow (L i) j 0 < 0)), .slice a3 L3 c3] 65)) := below_al (below_tr (below_tr (below_tr (below_al bb _) k1) k2) k3) _
          obtain ⟨M0, hM0⟩ : ∃ q, q = allow (L i) j 0 := ⟨_, rfl⟩
          obtain ⟨W3, HW3⟩ : ∃ W3, Hid (W3 = w3.alloc (.cells #[.bool (decide (allow (L i) j 0 < 0)), .slice a3 L3 c3] 65)) := ⟨_, rfl⟩
          rw [← HW3.out] at n3 nS2 b3
          have hs0 : W0.heap.size ≤ wb.heap.size := by omega
          have hm0 : W0.heap.size ≤ w3.heap.size := by omega
          have hne : w3.heap.size ≠ wb.heap.size := by omega
          clear nS0 nS1 i1 i2 i3 k1 k2 k3 OF1 TW1 MU1 hM0 z0
          go_wp2
          go_loopw [9] (fun k wr => ∃ t : Nat, t ≤ j + 1 ∧ k = .int .i64 (t : Int) ∧ Nv.NumAt wr wb.heap.size (tri (L i) (L j) d t) ∧ Nv.NumAt wr w3.heap.size (allow (L i) j t) ∧ Below W0.heap.size W0 wr) (fun k _ => j + 1 - (intOf k).toNat)
          case atStart =>
            refine ⟨0, by omega, rfl, ?_, ?_, ?_⟩
            · rw [← HW3.out]; exact nS2
            · rw [← HW3.out]; exact n3
            · rw [← HW3.out]; exact b3
          case round =>
            rename World => wc
            obtain ⟨t, ht, rfl, nS, nM, bc⟩ := hrel
            by_cases h3 : t ≤ j
            · have t1 : (t : Int) ≤ (j : Int) := by omega
              have t0 : (0 : Int) ≤ (t : Int) := by omega
              have t2 : (t : Int) < (n : Int) := by omega
              have i2 : (i : Int) < (n : Int) := by omega
              have j2 : (j : Int) < (n : Int) := by omega
              have bA := HbL.out i t
              have bB := HbL.out j t
              have bC := HbD.out t
              have e2 := keep_cell bc G0
              have e3 := keep_cell bc G1
              have e4 := keep_cell bc C4
              have e5 := keep_cell bc C5
              have e6 := keep_cell bc (HVl.out i xi t h (by omega) hxi)
              have e7 := keep_cell bc (HVl.out j xj t (by omega) (by omega) hxj)
              have e8 := keep_cell bc (HCd.out t (by omega))
              have bT := tri_len (HbL.out i) (HbL.out j) HbD.out t
              have bM := allow_len (HbL.out i) j t
              have b3' := abs3 bA bB bC
              have OFA := Hid.mkV (fun W => of_any (L i t) W (by omega) (by omega))
              have OFB := Hid.mkV (fun W => of_any (L j t) W (by omega) (by omega))
              have OFC := Hid.mkV (fun W => of_any (d t) W (by omega) (by omega))
              have TW := Hid.mkV (fun W => two_any 31 W (by omega))
              have MU := Hid.mkV (fun va vb W => mul_any va vb (L i t) (L j t) W (len100 (by omega)) (len100 (by omega)))
              have MV := Hid.mkV (fun va vb W => mul_any va vb (L i t * L j t) (d t) W (len100 (by omega)) (len100 (by omega)))
              have AD := Hid.mkV (fun va vb W => add_any va vb (tri (L i) (L j) d t) (L i t * L j t * d t) W (len100 (by omega)) (len100 (by omega)))
              have MX := Hid.mkV (fun va vb W => mul_any va vb (((L i t).natAbs : Nat) : Int) ((2 ^ 31 : Nat) : Int) W (len100 (by omega)) (len100 (by omega)))
              have bX : ((((L i t).natAbs : Nat) : Int) * ((2 ^ 31 : Nat) : Int)).natAbs < 10 ^ 100 := by omega
              have AE := Hid.mkV (fun va vb W => add_any va vb (allow (L i) j t) ((((L i t).natAbs : Nat) : Int) * ((2 ^ 31 : Nat) : Int)) W (len100 (by omega)) (len100 bX))
              have s1 : tri (L i) (L j) d t + L i t * L j t * d t = tri (L i) (L j) d (t + 1) := rfl
              have s2 : allow (L i) j t + (((L i t).natAbs : Nat) : Int) * ((2 ^ 31 : Nat) : Int) = allow (L i) j (t + 1) := by rw [two31]; rfl
              rw [s1] at AD
              rw [s2] at AE
              obtain ⟨S2, hS2⟩ : ∃ q, q = tri (L i) (L j) d (t + 1) := ⟨_, rfl⟩
              obtain ⟨M2, hM2⟩ : ∃ q, q = allow (L i) j (t + 1) := ⟨_, rfl⟩
              obtain ⟨S, hS⟩ : ∃ q, q = tri (L i) (L j) d t := ⟨_, rfl⟩
              obtain ⟨M, hM⟩ : ∃ q, q = allow (L i) j t := ⟨_, rfl⟩
              obtain ⟨P1, hP1⟩ : ∃ q, q = L i t * L j t := ⟨_, rfl⟩
              rw [← hP1] at MU MV AD
              obtain ⟨P2, hP2⟩ : ∃ q, q = P1 * d t := ⟨_, rfl⟩
              rw [← hP2] at MV AD
              obtain ⟨Q, hQ⟩ : ∃ q, q = ((2 ^ 31 : Nat) : Int) := ⟨_, rfl⟩
              rw [← hQ] at TW MX AE
              obtain ⟨N, hN⟩ : ∃ q, q = (L i t).natAbs := ⟨_, rfl⟩
              rw [← hN] at MX AE
              obtain ⟨P3, hP3⟩ : ∃ q, q = ((N : Nat) : Int) * Q := ⟨_, rfl⟩
              rw [← hP3] at MX AE
              have HN := Hid.mkV hN
              obtain ⟨A, hA⟩ : ∃ q, q = L i t := ⟨_, rfl⟩
              rw [← hA] at OFA MU e6 HN
              obtain ⟨B, hB'⟩ : ∃ q, q = L j t := ⟨_, rfl⟩
              rw [← hB'] at OFB MU e7
              obtain ⟨C, hC⟩ : ∃ q, q = d t := ⟨_, rfl⟩
              rw [← hC] at OFC MV e8
              rw [← hS2, ← hS] at AD
              rw [← hM2, ← hM] at AE
              rw [← hS] at nS
              rw [← hM] at nM
              have HS2 := Hid.mkV hS2
              have HM2 := Hid.mkV hM2
              have HA := Hid.mkV hA
              clear hS2 hM2 hS hM hP1 hP2 hP3 hQ hN hA hB' hC s1 s2 bT bM b3' bX bA bB bC
              obtain ⟨a0, L0, c0, x0, x1, f0, f1, iS, rS⟩ := nS.row
              have Z1 := bc.size
              go_upto_region 12 with fail
              go_cut [34] (fun p wx => Nv.NumAt wx wb.heap.size S2 ∧ Nv.NumAt wx w3.heap.size M ∧ Below W0.heap.size W0 wx)
              case first =>
                refine Ru.wp_region_U [28] (fun w' => w'.cell? ⟨wb.heap.size, 0, none⟩ = some (.bool (decide (S < 0))) ∧ w'.cell? ⟨wb.heap.size, 1, none⟩ = some (.slice a0 L0 c0) ∧ w'.cell? ⟨w.heap.size, 0, none⟩ = some (.slice (some xl) n cl) ∧ w'.cell? ⟨w.heap.size, 1, none⟩ = some (.slice (some xd) n cd) ∧ w'.cell? (xl.add i) = some (.slice (some xi) n (CL i)) ∧ w'.cell? (xl.add j) = some (.slice (some xj) n (CL j)) ∧ w'.cell? (xi.add t) = some (.int .i64 A) ∧ w'.cell? (xj.add t) = some (.int .i64 B) ∧ w'.cell? (xd.add t) = some (.int .i64 C)) (by kernel_rfl) ⟨x0, x1, e2, e3, e4, e5, e6, e7, e8⟩ (fun hHeld => ?_)
                refine Ru.wpAnyU_take (i := 0) (v := .agg #[.bool (decide (S < 0)), .slice a0 L0 c0]) rfl (by kernel_rfl) (by kernel_rfl) (by kernel_rfl) (by kernel_rfl) (by kernel_rfl) (by kernel_rfl) (fun _ _ _ h => h) (Or.inl ⟨by rfl, fun w hS => by obtain ⟨sc0, sc1, sc2, sc3, sc4, sc5, sc6, sc7, sc8⟩ := hS; go_simp⟩) hHeld ?_
                simp only [Act.put, List.getElem_toArray, List.getElem_cons_zero, List.getElem_cons_succ, List.setIfInBounds_toArray, List.set_cons_zero, List.set_cons_succ]
                refine Ru.wpAnyU_take (i := 1) (v := .pointer (some ⟨w.heap.size, 0, none⟩)) rfl (by kernel_rfl) (by kernel_rfl) (by kernel_rfl) (by kernel_rfl) (by kernel_rfl) (by kernel_rfl) (fun _ _ _ h => h) (Or.inl ⟨by rfl, fun w hS => by obtain ⟨sc0, sc1, sc2, sc3, sc4, sc5, sc6, sc7, sc8⟩ := hS; go_simp⟩) hHeld ?_
                simp only [Act.put, List.getElem_toArray, List.getElem_cons_zero, List.getElem_cons_succ, List.setIfInBounds_toArray, List.set_cons_zero, List.set_cons_succ]
                refine Ru.wpAnyU_take (i := 2) (v := .slice (some xl) n cl) rfl (by kernel_rfl) (by kernel_rfl) (by kernel_rfl) (by kernel_rfl) (by kernel_rfl) (by kernel_rfl) (fun _ _ _ h => h) (Or.inl ⟨by rfl, fun w hS => by obtain ⟨sc0, sc1, sc2, sc3, sc4, sc5, sc6, sc7, sc8⟩ := hS; go_simp⟩) hHeld ?_
                simp only [Act.put, List.getElem_toArray, List.getElem_cons_zero, List.getElem_cons_succ, List.setIfInBounds_toArray, List.set_cons_zero, List.set_cons_succ]
                refine Ru.wpAnyU_take (i := 3) (v := .int .i64 (i : Int)) rfl (by kernel_rfl) (by kernel_rfl) (by kernel_rfl) (by kernel_rfl) (by kernel_rfl) (by kernel_rfl) (fun _ _ _ h => h) (Or.inl ⟨by rfl, fun w hS => by obtain ⟨sc0, sc1, sc2, sc3, sc4, sc5, sc6, sc7, sc8⟩ := hS; go_simp⟩) hHeld ?_
                simp only [Act.put, List.getElem_toArray, List.getElem_cons_zero, List.getElem_cons_succ, List.setIfInBounds_toArray, List.set_cons_zero, List.set_cons_succ]
                refine Ru.wpAnyU_take (i := 4) (v := .pointer (some (xl.add i))) rfl (by kernel_rfl) (by kernel_rfl) (by kernel_rfl) (by kernel_rfl) (by kernel_rfl) (by kernel_rfl) (fun _ _ _ h => h) (Or.inl ⟨by rfl, fun w hS => by obtain ⟨sc0, sc1, sc2, sc3, sc4, sc5, sc6, sc7, sc8⟩ := hS; go_simp⟩) hHeld ?_
                simp only [Act.put, List.getElem_toArray, List.getElem_cons_zero, List.getElem_cons_succ, List.setIfInBounds_toArray, List.set_cons_zero, List.set_cons_succ]
                refine Ru.wpAnyU_take (i := 5) (v := .slice (some xi) n (CL i)) rfl (by kernel_rfl) (by kernel_rfl) (by kernel_rfl) (by kernel_rfl) (by kernel_rfl) (by kernel_rfl) (fun _ _ _ h => h) (Or.inl ⟨by rfl, fun w hS => by obtain ⟨sc0, sc1, sc2, sc3, sc4, sc5, sc6, sc7, sc8⟩ := hS; go_simp⟩) hHeld ?_
                simp only [Act.put, List.getElem_toArray, List.getElem_cons_zero, List.getElem_cons_succ, List.setIfInBounds_toArray, List.set_cons_zero, List.set_cons_succ]
                refine Ru.wpAnyU_take (i := 6) (v := .int .i64 (t : Int)) rfl (by kernel_rfl) (by kernel_rfl) (by kernel_rfl) (by kernel_rfl) (by kernel_rfl) (by kernel_rfl) (fun _ _ _ h => h) (Or.inl ⟨by rfl, fun w hS => by obtain ⟨sc0, sc1, sc2, sc3, sc4, sc5, sc6, sc7, sc8⟩ := hS; go_simp⟩) hHeld ?_
                simp only [Act.put, List.getElem_toArray, List.getElem_cons_zero, List.getElem_cons_succ, List.setIfInBounds_toArray, List.set_cons_zero, List.set_cons_succ]
                refine Ru.wpAnyU_take (i := 7) (v := .pointer (some (xi.add t))) rfl (by kernel_rfl) (by kernel_rfl) (by kernel_rfl) (by kernel_rfl) (by kernel_rfl) (by kernel_rfl) (fun _ _ _ h => h) (Or.inl ⟨by rfl, fun w hS => by obtain ⟨sc0, sc1, sc2, sc3, sc4, sc5, sc6, sc7, sc8⟩ := hS; go_simp⟩) hHeld ?_
                simp only [Act.put, List.getElem_toArray, List.getElem_cons_zero, List.getElem_cons_succ, List.setIfInBounds_toArray, List.set_cons_zero, List.set_cons_succ]
                refine Ru.wpAnyU_take (i := 8) (v := .int .i64 A) rfl (by kernel_rfl) (by kernel_rfl) (by kernel_rfl) (by kernel_rfl) (by kernel_rfl) (by kernel_rfl) (fun _ _ _ h => h) (Or.inl ⟨by rfl, fun w hS => by obtain ⟨sc0, sc1, sc2, sc3, sc4, sc5, sc6, sc7, sc8⟩ := hS; go_simp⟩) hHeld ?_
                simp only [Act.put, List.getElem_toArray, List.getElem_cons_zero, List.getElem_cons_succ, List.setIfInBounds_toArray, List.set_cons_zero, List.set_cons_succ]
                refine Ru.wpAnyU_take (i := 10) (v := .pointer (some ⟨w.heap.size, 0, none⟩)) rfl (by kernel_rfl) (by kernel_rfl) (by kernel_rfl) (by kernel_rfl) (by kernel_rfl) (by kernel_rfl) (fun _ _ _ h => h) (Or.inl ⟨by rfl, fun w hS => by obtain ⟨sc0, sc1, sc2, sc3, sc4, sc5, sc6, sc7, sc8⟩ := hS; go_simp⟩) hHeld ?_
                simp only [Act.put, List.getElem_toArray, List.getElem_cons_zero, List.getElem_cons_succ, List.setIfInBounds_toArray, List.set_cons_zero, List.set_cons_succ]
                refine Ru.wpAnyU_take (i := 11) (v := .slice (some xl) n cl) rfl (by kernel_rfl) (by kernel_rfl) (by kernel_rfl) (by kernel_rfl) (by kernel_rfl) (by kernel_rfl) (fun _ _ _ h => h) (Or.inl ⟨by rfl, fun w hS => by obtain ⟨sc0, sc1, sc2, sc3, sc4, sc5, sc6, sc7, sc8⟩ := hS; go_simp⟩) hHeld ?_
                simp only [Act.put, List.getElem_toArray, List.getElem_cons_zero, List.getElem_cons_succ, List.setIfInBounds_toArray, List.set_cons_zero, List.set_cons_succ]
                refine Ru.wpAnyU_take (i := 12) (v := .int .i64 (j : Int)) rfl (by kernel_rfl) (by kernel_rfl) (by kernel_rfl) (by kernel_rfl) (by kernel_rfl) (by kernel_rfl) (fun _ _ _ h => h) (Or.inl ⟨by rfl, fun w hS => by obtain ⟨sc0, sc1, sc2, sc3, sc4, sc5, sc6, sc7, sc8⟩ := hS; go_simp⟩) hHeld ?_
                simp only [Act.put, List.getElem_toArray, List.getElem_cons_zero, List.getElem_cons_succ, List.setIfInBounds_toArray, List.set_cons_zero, List.set_cons_succ]
                refine Ru.wpAnyU_take (i := 13) (v := .pointer (some (xl.add j))) rfl (by kernel_rfl) (by kernel_rfl) (by kernel_rfl) (by kernel_rfl) (by kernel_rfl) (by kernel_rfl) (fun _ _ _ h => h) (Or.inl ⟨by rfl, fun w hS => by obtain ⟨sc0, sc1, sc2, sc3, sc4, sc5, sc6, sc7, sc8⟩ := hS; go_simp⟩) hHeld ?_
                simp only [Act.put, List.getElem_toArray, List.getElem_cons_zero, List.getElem_cons_succ, List.setIfInBounds_toArray, List.set_cons_zero, List.set_cons_succ]
                refine Ru.wpAnyU_take (i := 14) (v := .slice (some xj) n (CL j)) rfl (by kernel_rfl) (by kernel_rfl) (by kernel_rfl) (by kernel_rfl) (by kernel_rfl) (by kernel_rfl) (fun _ _ _ h => h) (Or.inl ⟨by rfl, fun w hS => by obtain ⟨sc0, sc1, sc2, sc3, sc4, sc5, sc6, sc7, sc8⟩ := hS; go_simp⟩) hHeld ?_
                simp only [Act.put, List.getElem_toArray, List.getElem_cons_zero, List.getElem_cons_succ, List.setIfInBounds_toArray, List.set_cons_zero, List.set_cons_succ]
                refine Ru.wpAnyU_take (i := 15) (v := .int .i64 (t : Int)) rfl (by kernel_rfl) (by kernel_rfl) (by kernel_rfl) (by kernel_rfl) (by kernel_rfl) (by kernel_rfl) (fun _ _ _ h => h) (Or.inl ⟨by rfl, fun w hS => by obtain ⟨sc0, sc1, sc2, sc3, sc4, sc5, sc6, sc7, sc8⟩ := hS; go_simp⟩) hHeld ?_
                simp only [Act.put, List.getElem_toArray, List.getElem_cons_zero, List.getElem_cons_succ, List.setIfInBounds_toArray, List.set_cons_zero, List.set_cons_succ]
                refine Ru.wpAnyU_take (i := 16) (v := .pointer (some (xj.add t))) rfl (by kernel_rfl) (by kernel_rfl) (by kernel_rfl) (by kernel_rfl) (by kernel_rfl) (by kernel_rfl) (fun _ _ _ h => h) (Or.inl ⟨by rfl, fun w hS => by obtain ⟨sc0, sc1, sc2, sc3, sc4, sc5, sc6, sc7, sc8⟩ := hS; go_simp⟩) hHeld ?_
                simp only [Act.put, List.getElem_toArray, List.getElem_cons_zero, List.getElem_cons_succ, List.setIfInBounds_toArray, List.set_cons_zero, List.set_cons_succ]
                refine Ru.wpAnyU_take (i := 17) (v := .int .i64 B) rfl (by kernel_rfl) (by kernel_rfl) (by kernel_rfl) (by kernel_rfl) (by kernel_rfl) (by kernel_rfl) (fun _ _ _ h => h) (Or.inl ⟨by rfl, fun w hS => by obtain ⟨sc0, sc1, sc2, sc3, sc4, sc5, sc6, sc7, sc8⟩ := hS; go_simp⟩) hHeld ?_
                simp only [Act.put, List.getElem_toArray, List.getElem_cons_zero, List.getElem_cons_succ, List.setIfInBounds_toArray, List.set_cons_zero, List.set_cons_succ]
                refine Ru.wpAnyU_take (i := 20) (v := .pointer (some ⟨w.heap.size, 1, none⟩)) rfl (by kernel_rfl) (by kernel_rfl) (by kernel_rfl) (by kernel_rfl) (by kernel_rfl) (by kernel_rfl) (fun _ _ _ h => h) (Or.inl ⟨by rfl, fun w hS => by obtain ⟨sc0, sc1, sc2, sc3, sc4, sc5, sc6, sc7, sc8⟩ := hS; go_simp⟩) hHeld ?_
                simp only [Act.put, List.getElem_toArray, List.getElem_cons_zero, List.getElem_cons_succ, List.setIfInBounds_toArray, List.set_cons_zero, List.set_cons_succ]
                refine Ru.wpAnyU_take (i := 21) (v := .slice (some xd) n cd) rfl (by kernel_rfl) (by kernel_rfl) (by kernel_rfl) (by kernel_rfl) (by kernel_rfl) (by kernel_rfl) (fun _ _ _ h => h) (Or.inl ⟨by rfl, fun w hS => by obtain ⟨sc0, sc1, sc2, sc3, sc4, sc5, sc6, sc7, sc8⟩ := hS; go_simp⟩) hHeld ?_
                simp only [Act.put, List.getElem_toArray, List.getElem_cons_zero, List.getElem_cons_succ, List.setIfInBounds_toArray, List.set_cons_zero, List.set_cons_succ]
                refine Ru.wpAnyU_take (i := 22) (v := .int .i64 (t : Int)) rfl (by kernel_rfl) (by kernel_rfl) (by kernel_rfl) (by kernel_rfl) (by kernel_rfl) (by kernel_rfl) (fun _ _ _ h => h) (Or.inl ⟨by rfl, fun w hS => by obtain ⟨sc0, sc1, sc2, sc3, sc4, sc5, sc6, sc7, sc8⟩ := hS; go_simp⟩) hHeld ?_
                simp only [Act.put, List.getElem_toArray, List.getElem_cons_zero, List.getElem_cons_succ, List.setIfInBounds_toArray, List.set_cons_zero, List.set_cons_succ]
                refine Ru.wpAnyU_take (i := 23) (v := .pointer (some (xd.add t))) rfl (by kernel_rfl) (by kernel_rfl) (by kernel_rfl) (by kernel_rfl) (by kernel_rfl) (by kernel_rfl) (fun _ _ _ h => h) (Or.inl ⟨by rfl, fun w hS => by obtain ⟨sc0, sc1, sc2, sc3, sc4, sc5, sc6, sc7, sc8⟩ := hS; go_simp⟩) hHeld ?_
                simp only [Act.put, List.getElem_toArray, List.getElem_cons_zero, List.getElem_cons_succ, List.setIfInBounds_toArray, List.set_cons_zero, List.set_cons_succ]
                refine Ru.wpAnyU_take (i := 24) (v := .int .i64 C) rfl (by kernel_rfl) (by kernel_rfl) (by kernel_rfl) (by kernel_rfl) (by kernel_rfl) (by kernel_rfl) (fun _ _ _ h => h) (Or.inl ⟨by rfl, fun w hS => by obtain ⟨sc0, sc1, sc2, sc3, sc4, sc5, sc6, sc7, sc8⟩ := hS; go_simp⟩) hHeld ?_
                simp only [Act.put, List.getElem_toArray, List.getElem_cons_zero, List.getElem_cons_succ, List.setIfInBounds_toArray, List.set_cons_zero, List.set_cons_succ]
                refine Ru.wpAnyU_ready (rs := [9]) (by kernel_rfl) (by simp) ?_
                refine Ru.AllReadyU.cons rfl (by kernel_rfl) (fun K hK => ?_) Ru.AllReadyU.nil
                go_simp
                refine (OFA.out _).mono ?_
                rintro e w4 ⟨v4, rfl, i4, k4⟩
                have K4 : Below wc.heap.size wc w4 := below_tr (Vc.below_drew' _) k4
                go_wp2_with fail
                refine hK.out _ _ ⟨keep_cell K4 x0, keep_cell K4 x1, keep_cell K4 e2, keep_cell K4 e3, keep_cell K4 e4, keep_cell K4 e5, keep_cell K4 e6, keep_cell K4 e7, keep_cell K4 e8⟩ (fun hHeld => ?_)
                clear hK K
                try simp only [Act.put, List.getElem_toArray, List.getElem_cons_zero, List.getElem_cons_succ, List.setIfInBounds_toArray, List.set_cons_zero, List.set_cons_succ]
                refine Ru.wpAnyU_ready (rs := [18]) (by kernel_rfl) (by simp) ?_
                refine Ru.AllReadyU.cons rfl (by kernel_rfl) (fun K hK => ?_) Ru.AllReadyU.nil
                go_simp
                refine (OFB.out _).mono ?_
                rintro e w5 ⟨v5, rfl, i5, k5⟩
                have K5 : Below wc.heap.size wc w5 := below_tr K4 k5
                have i4b := i4.below k5
                go_wp2_with fail
                refine hK.out _ _ ⟨keep_cell K5 x0, keep_cell K5 x1, keep_cell K5 e2, keep_cell K5 e3, keep_cell K5 e4, keep_cell K5 e5, keep_cell K5 e6, keep_cell K5 e7, keep_cell K5 e8⟩ (fun hHeld => ?_)
                clear hK K
                try simp only [Act.put, List.getElem_toArray, List.getElem_cons_zero, List.getElem_cons_succ, List.setIfInBounds_toArray, List.set_cons_zero, List.set_cons_succ]
                refine Ru.wpAnyU_ready (rs := [19]) (by kernel_rfl) (by simp) ?_
                refine Ru.AllReadyU.cons rfl (by kernel_rfl) (fun K hK => ?_) Ru.AllReadyU.nil
                go_simp
                refine (MU.out _ _ _ i4b i5).mono ?_
                rintro e w6 ⟨v6, rfl, i6, k6⟩
                have K6 : Below wc.heap.size wc w6 := below_tr K5 k6
                go_wp2_with fail
                refine hK.out _ _ ⟨keep_cell K6 x0, keep_cell K6 x1, keep_cell K6 e2, keep_cell K6 e3, keep_cell K6 e4, keep_cell K6 e5, keep_cell K6 e6, keep_cell K6 e7, keep_cell K6 e8⟩ (fun hHeld => ?_)
                clear hK K
                try simp only [Act.put, List.getElem_toArray, List.getElem_cons_zero, List.getElem_cons_succ, List.setIfInBounds_toArray, List.set_cons_zero, List.set_cons_succ]
                refine Ru.wpAnyU_ready (rs := [25]) (by kernel_rfl) (by simp) ?_
                refine Ru.AllReadyU.cons rfl (by kernel_rfl) (fun K hK => ?_) Ru.AllReadyU.nil
                go_simp
                refine (OFC.out _).mono ?_
                rintro e w7 ⟨v7, rfl, i7, k7⟩
                have K7 : Below wc.heap.size wc w7 := below_tr K6 k7
                have i6b := i6.below k7
                go_wp2_with fail
                refine hK.out _ _ ⟨keep_cell K7 x0, keep_cell K7 x1, keep_cell K7 e2, keep_cell K7 e3, keep_cell K7 e4, keep_cell K7 e5, keep_cell K7 e6, keep_cell K7 e7, keep_cell K7 e8⟩ (fun hHeld => ?_)
                clear hK K
                try simp only [Act.put, List.getElem_toArray, List.getElem_cons_zero, List.getElem_cons_succ, List.setIfInBounds_toArray, List.set_cons_zero, List.set_cons_succ]
                refine Ru.wpAnyU_ready (rs := [26]) (by kernel_rfl) (by simp) ?_
                refine Ru.AllReadyU.cons rfl (by kernel_rfl) (fun K hK => ?_) Ru.AllReadyU.nil
                go_simp
                refine (MV.out _ _ _ i6b i7).mono ?_
                rintro e w8 ⟨v8, rfl, i8, k8⟩
                have K8 : Below wc.heap.size wc w8 := below_tr K7 k8
                have iS8 := iS.below K8
                go_wp2_with fail
                refine hK.out _ _ ⟨keep_cell K8 x0, keep_cell K8 x1, keep_cell K8 e2, keep_cell K8 e3, keep_cell K8 e4, keep_cell K8 e5, keep_cell K8 e6, keep_cell K8 e7, keep_cell K8 e8⟩ (fun hHeld => ?_)
                clear hK K
                try simp only [Act.put, List.getElem_toArray, List.getElem_cons_zero, List.getElem_cons_succ, List.setIfInBounds_toArray, List.set_cons_zero, List.set_cons_succ]
                refine Ru.wpAnyU_ready (rs := [27]) (by kernel_rfl) (by simp) ?_
                refine Ru.AllReadyU.cons rfl (by kernel_rfl) (fun K hK => ?_) Ru.AllReadyU.nil
                go_simp
                refine (AD.out _ _ _ iS8 i8).mono ?_
                rintro e w9 ⟨v9, rfl, i9, k9⟩
                have K9 : Below wc.heap.size wc w9 := below_tr K8 k9
                obtain ⟨a9, L9, c9, E9⟩ := i9.form; subst E9
                have r9 := rS.keep K9; have q0 := r9.c0; have q1 := r9.c1; have q2 := r9.free 0; have q3 := r9.free 1
                go_wp2_with fail
                refine hK.out _ _ ⟨keep_cell K9 x0, keep_cell K9 x1, keep_cell K9 e2, keep_cell K9 e3, keep_cell K9 e4, keep_cell K9 e5, keep_cell K9 e6, keep_cell K9 e7, keep_cell K9 e8⟩ (fun hHeld => ?_)
                clear hK K
                try simp only [Act.put, List.getElem_toArray, List.getElem_cons_zero, List.getElem_cons_succ, List.setIfInBounds_toArray, List.set_cons_zero, List.set_cons_succ]
                refine Ru.wpAnyU_ready (rs := [28]) (by kernel_rfl) (by simp) ?_
                refine Ru.AllReadyU.cons2 rfl (by kernel_rfl) (fun K hK => ?_) Ru.AllReadyU.nil
                go_simp
                refine hK.out _ _ ?_
                clear hK K
                try simp only [Act.put, List.getElem_toArray, List.getElem_cons_zero, List.getElem_cons_succ, List.setIfInBounds_toArray, List.set_cons_zero, List.set_cons_succ]
                refine wpAny_done (by kernel_rfl) ?_ _
                all_goals go_wp2_with fail
                all_goals go_meet
                all_goals exact ⟨Nv.NumAt.set i9 r9, (nM.keep K9).other hne r9 _ _, below_set2 (below_tr bc K9) hs0 _ _⟩
              rename World => we
              obtain ⟨nS', nM', bd⟩ := hcut
              clear nS nM e2 e3 e4 e5 e6 e7 e8 x0 x1 f0 f1 iS rS
              have e2 := keep_cell bd G0
              have e4 := keep_cell bd C4
              have e6 := keep_cell bd (HVl.out i xi t h (by omega) hxi)
              rw [← HA.out] at e6
              obtain ⟨a1, L1, c1, y0, y1, g0, g1, iM, rM⟩ := nM'.row
              go_upto_region 13 with fail
              refine Ru.wp_region_U [15] (fun w' => w'.cell? ⟨w3.heap.size, 0, none⟩ = some (.bool (decide (M < 0))) ∧ w'.cell? ⟨w3.heap.size, 1, none⟩ = some (.slice a1 L1 c1) ∧ w'.cell? ⟨w.heap.size, 0, none⟩ = some (.slice (some xl) n cl) ∧ w'.cell? (xl.add i) = some (.slice (some xi) n (CL i)) ∧ w'.cell? (xi.add t) = some (.int .i64 A)) (by kernel_rfl) ⟨y0, y1, e2, e4, e6⟩ (fun hHeld => ?_)
              refine Ru.wpAnyU_take (i := 0) (v := .agg #[.bool (decide (M < 0)), .slice a1 L1 c1]) rfl (by kernel_rfl) (by kernel_rfl) (by kernel_rfl) (by kernel_rfl) (by kernel_rfl) (by kernel_rfl) (fun _ _ _ h => h) (Or.inl ⟨by rfl, fun w hS => by obtain ⟨sc0, sc1, sc2, sc3, sc4⟩ := hS; go_simp⟩) hHeld ?_
              simp only [Act.put, List.getElem_toArray, List.getElem_cons_zero, List.getElem_cons_succ, List.setIfInBounds_toArray, List.set_cons_zero, List.set_cons_succ]
              refine Ru.wpAnyU_take (i := 1) (v := .pointer (some ⟨w.heap.size, 0, none⟩)) rfl (by kernel_rfl) (by kernel_rfl) (by kernel_rfl) (by kernel_rfl) (by kernel_rfl) (by kernel_rfl) (fun _ _ _ h => h) (Or.inl ⟨by rfl, fun w hS => by obtain ⟨sc0, sc1, sc2, sc3, sc4⟩ := hS; go_simp⟩) hHeld ?_
              simp only [Act.put, List.getElem_toArray, List.getElem_cons_zero, List.getElem_cons_succ, List.setIfInBounds_toArray, List.set_cons_zero, List.set_cons_succ]
              refine Ru.wpAnyU_take (i := 2) (v := .slice (some xl) n cl) rfl (by kernel_rfl) (by kernel_rfl) (by kernel_rfl) (by kernel_rfl) (by kernel_rfl) (by kernel_rfl) (fun _ _ _ h => h) (Or.inl ⟨by rfl, fun w hS => by obtain ⟨sc0, sc1, sc2, sc3, sc4⟩ := hS; go_simp⟩) hHeld ?_
              simp only [Act.put, List.getElem_toArray, List.getElem_cons_zero, List.getElem_cons_succ, List.setIfInBounds_toArray, List.set_cons_zero, List.set_cons_succ]
              refine Ru.wpAnyU_take (i := 3) (v := .int .i64 (i : Int)) rfl (by kernel_rfl) (by kernel_rfl) (by kernel_rfl) (by kernel_rfl) (by kernel_rfl) (by kernel_rfl) (fun _ _ _ h => h) (Or.inl ⟨by rfl, fun w hS => by obtain ⟨sc0, sc1, sc2, sc3, sc4⟩ := hS; go_simp⟩) hHeld ?_
              simp only [Act.put, List.getElem_toArray, List.getElem_cons_zero, List.getElem_cons_succ, List.setIfInBounds_toArray, List.set_cons_zero, List.set_cons_succ]
              refine Ru.wpAnyU_take (i := 4) (v := .pointer (some (xl.add i))) rfl (by kernel_rfl) (by kernel_rfl) (by kernel_rfl) (by kernel_rfl) (by kernel_rfl) (by kernel_rfl) (fun _ _ _ h => h) (Or.inl ⟨by rfl, fun w hS => by obtain ⟨sc0, sc1, sc2, sc3, sc4⟩ := hS; go_simp⟩) hHeld ?_
              simp only [Act.put, List.getElem_toArray, List.getElem_cons_zero, List.getElem_cons_succ, List.setIfInBounds_toArray, List.set_cons_zero, List.set_cons_succ]
              refine Ru.wpAnyU_take (i := 5) (v := .slice (some xi) n (CL i)) rfl (by kernel_rfl) (by kernel_rfl) (by kernel_rfl) (by kernel_rfl) (by kernel_rfl) (by kernel_rfl) (fun _ _ _ h => h) (Or.inl ⟨by rfl, fun w hS => by obtain ⟨sc0, sc1, sc2, sc3, sc4⟩ := hS; go_simp⟩) hHeld ?_
              simp only [Act.put, List.getElem_toArray, List.getElem_cons_zero, List.getElem_cons_succ, List.setIfInBounds_toArray, List.set_cons_zero, List.set_cons_succ]
              refine Ru.wpAnyU_take (i := 6) (v := .int .i64 (t : Int)) rfl (by kernel_rfl) (by kernel_rfl) (by kernel_rfl) (by kernel_rfl) (by kernel_rfl) (by kernel_rfl) (fun _ _ _ h => h) (Or.inl ⟨by rfl, fun w hS => by obtain ⟨sc0, sc1, sc2, sc3, sc4⟩ := hS; go_simp⟩) hHeld ?_
              simp only [Act.put, List.getElem_toArray, List.getElem_cons_zero, List.getElem_cons_succ, List.setIfInBounds_toArray, List.set_cons_zero, List.set_cons_succ]
              refine Ru.wpAnyU_take (i := 7) (v := .pointer (some (xi.add t))) rfl (by kernel_rfl) (by kernel_rfl) (by kernel_rfl) (by kernel_rfl) (by kernel_rfl) (by kernel_rfl) (fun _ _ _ h => h) (Or.inl ⟨by rfl, fun w hS => by obtain ⟨sc0, sc1, sc2, sc3, sc4⟩ := hS; go_simp⟩) hHeld ?_
              simp only [Act.put, List.getElem_toArray, List.getElem_cons_zero, List.getElem_cons_succ, List.setIfInBounds_toArray, List.set_cons_zero, List.set_cons_succ]
              refine Ru.wpAnyU_take (i := 8) (v := .int .i64 A) rfl (by kernel_rfl) (by kernel_rfl) (by kernel_rfl) (by kernel_rfl) (by kernel_rfl) (by kernel_rfl) (fun _ _ _ h => h) (Or.inl ⟨by rfl, fun w hS => by obtain ⟨sc0, sc1, sc2, sc3, sc4⟩ := hS; go_simp⟩) hHeld ?_
              simp only [Act.put, List.getElem_toArray, List.getElem_cons_zero, List.getElem_cons_succ, List.setIfInBounds_toArray, List.set_cons_zero, List.set_cons_succ]
              refine Ru.wpAnyU_ready (rs := [9]) (by kernel_rfl) (by simp) ?_
              refine Ru.AllReadyU.cons rfl (by kernel_rfl) (fun K hK => ?_) Ru.AllReadyU.nil
              go_simp
              refine (OFA.out _).mono ?_
              rintro e w4 ⟨v4, rfl, i4, k4⟩
              have K4 : Below we.heap.size we w4 := below_tr (Vc.below_drew' _) k4
              obtain ⟨a4, L4, c4, E4⟩ := i4.form; subst E4
              have R4 : Rd w4 (.slice a4 L4 c4) (digs N) := by rw [HN.out]; obtain ⟨d5, E5, R5⟩ := i4; cases E5; exact R5
              have hfd := fun W => run_fieldD (decide (A < 0)) a4 L4 c4 W
              go_wp2_with fail
              refine hK.out _ _ ⟨keep_cell K4 y0, keep_cell K4 y1, keep_cell K4 e2, keep_cell K4 e4, keep_cell K4 e6⟩ (fun hHeld => ?_)
              clear hK K
              try simp only [Act.put, List.getElem_toArray, List.getElem_cons_zero, List.getElem_cons_succ, List.setIfInBounds_toArray, List.set_cons_zero, List.set_cons_succ]
              refine Ru.wpAnyU_take (i := 10) (v := .slice a4 L4 c4) rfl (by kernel_rfl) (by kernel_rfl) (by kernel_rfl) (by kernel_rfl) (by kernel_rfl) (by kernel_rfl) (fun _ _ _ h => h) (Or.inl ⟨by rfl, fun w hS => by obtain ⟨sc0, sc1, sc2, sc3, sc4⟩ := hS; go_simp⟩) hHeld ?_
              simp only [Act.put, List.getElem_toArray, List.getElem_cons_zero, List.getElem_cons_succ, List.setIfInBounds_toArray, List.set_cons_zero, List.set_cons_succ]
              refine Ru.wpAnyU_take (i := 11) (v := .agg #[.bool false, .slice a4 L4 c4]) rfl (by kernel_rfl) (by kernel_rfl) (by kernel_rfl) (by kernel_rfl) (by kernel_rfl) (by kernel_rfl) (fun _ _ _ h => h) (Or.inl ⟨by rfl, fun w hS => by obtain ⟨sc0, sc1, sc2, sc3, sc4⟩ := hS; go_simp⟩) hHeld ?_
              simp only [Act.put, List.getElem_toArray, List.getElem_cons_zero, List.getElem_cons_succ, List.setIfInBounds_toArray, List.set_cons_zero, List.set_cons_succ]
              refine Ru.wpAnyU_ready (rs := [12]) (by kernel_rfl) (by simp) ?_
              refine Ru.AllReadyU.cons rfl (by kernel_rfl) (fun K hK => ?_) Ru.AllReadyU.nil
              go_simp
              refine (TW.out _).mono ?_
              rintro e w5 ⟨v5, rfl, i5, k5⟩
              have K5 : Below we.heap.size we w5 := below_tr K4 k5
              have R5 := R4.below k5 (Nat.le_refl _)
              go_wp2_with fail
              refine hK.out _ _ ⟨keep_cell K5 y0, keep_cell K5 y1, keep_cell K5 e2, keep_cell K5 e4, keep_cell K5 e6⟩ (fun hHeld => ?_)
              clear hK K
              try simp only [Act.put, List.getElem_toArray, List.getElem_cons_zero, List.getElem_cons_succ, List.setIfInBounds_toArray, List.set_cons_zero, List.set_cons_succ]
              refine Ru.wpAnyU_ready (rs := [13]) (by kernel_rfl) (by simp) ?_
              refine Ru.AllReadyU.cons rfl (by kernel_rfl) (fun K hK => ?_) Ru.AllReadyU.nil
              go_simp
              refine (MX.out _ _ _ (isNum_nat R5) i5).mono ?_
              rintro e w6 ⟨v6, rfl, i6, k6⟩
              have K6 : Below we.heap.size we w6 := below_tr K5 k6
              have iM6 := iM.below K6
              go_wp2_with fail
              refine hK.out _ _ ⟨keep_cell K6 y0, keep_cell K6 y1, keep_cell K6 e2, keep_cell K6 e4, keep_cell K6 e6⟩ (fun hHeld => ?_)
              clear hK K
              try simp only [Act.put, List.getElem_toArray, List.getElem_cons_zero, List.getElem_cons_succ, List.setIfInBounds_toArray, List.set_cons_zero, List.set_cons_succ]
              refine Ru.wpAnyU_ready (rs := [14]) (by kernel_rfl) (by simp) ?_
              refine Ru.AllReadyU.cons rfl (by kernel_rfl) (fun K hK => ?_) Ru.AllReadyU.nil
              go_simp
              refine (AE.out _ _ _ iM6 i6).mono ?_
              rintro e w7 ⟨v7, rfl, i7, k7⟩
              have K7 : Below we.heap.size we w7 := below_tr K6 k7
              obtain ⟨a9, L9, c9, E9⟩ := i7.form; subst E9
              have r7 := rM.keep K7; have q0 := r7.c0; have q1 := r7.c1; have q2 := r7.free 0; have q3 := r7.free 1
              go_wp2_with fail
              refine hK.out _ _ ⟨keep_cell K7 y0, keep_cell K7 y1, keep_cell K7 e2, keep_cell K7 e4, keep_cell K7 e6⟩ (fun hHeld => ?_)
              clear hK K
              try simp only [Act.put, List.getElem_toArray, List.getElem_cons_zero, List.getElem_cons_succ, List.setIfInBounds_toArray, List.set_cons_zero, List.set_cons_succ]
              refine Ru.wpAnyU_ready (rs := [15]) (by kernel_rfl) (by simp) ?_
              refine Ru.AllReadyU.cons2 rfl (by kernel_rfl) (fun K hK => ?_) Ru.AllReadyU.nil
              go_simp
              refine hK.out _ _ ?_
              clear hK K
              try simp only [Act.put, List.getElem_toArray, List.getElem_cons_zero, List.getElem_cons_succ, List.setIfInBounds_toArray, List.set_cons_zero, List.set_cons_succ]
              refine wpAny_done (by kernel_rfl) ?_ _
              all_goals go_wp2
              all_goals go_roundw
              case rel =>
                refine ⟨t + 1, by omega, by go_num, ?_, ?_, below_set2 (below_tr bd K7) hm0 _ _⟩
                · rw [← HS2.out]; exact (nS'.keep K7).other hne.symm r7 _ _
                · rw [← HM2.out]; exact Nv.NumAt.set i7 r7
              case measure => simp [intOf]; omega
            · obtain rfl : t = j + 1 := by omega
              have j2 : (j : Int) < (n : Int) := by omega
              have i2 : (i : Int) < (n : Int) := by omega
              have jt : ¬ ((j + 1 : Nat) : Int) ≤ (j : Int) := by omega
              have bD := HbD.out j
              have bF := HbF.out i j
              have e3 := keep_cell bc G1
              have e8 := keep_cell bc (HCd.out j (by omega))
              have bT := tri_len (HbL.out i) (HbL.out j) HbD.out (j + 1)
              have bM := allow_len (HbL.out i) j (j + 1)
              have OFA := Hid.mkV (fun W => of_any (d j) W (by omega) (by omega))
              have OFB := Hid.mkV (fun W => of_any (F i j) W (by omega) (by omega))
              have TW := Hid.mkV (fun W => two_any 31 W (by omega))
              have TX := Hid.mkV (fun W => two_any 60 W (by omega))
              have MU := Hid.mkV (fun va vb W => mul_any va vb (d j) ((2 ^ 31 : Nat) : Int) W (len100 (by omega)) (len100 (by omega)))
              have MV := Hid.mkV (fun va vb W => mul_any va vb (F i j) ((2 ^ 60 : Nat) : Int) W (len100 (by omega)) (len100 (by omega)))
              have bX : (d j * ((2 ^ 31 : Nat) : Int)).natAbs < 10 ^ 60 := by omega
              have bY : (F i j * ((2 ^ 60 : Nat) : Int)).natAbs < 10 ^ 60 := by omega
              have AD := Hid.mkV (fun va vb W => add_any va vb (allow (L i) j (j + 1)) (d j * ((2 ^ 31 : Nat) : Int)) W (len100 (by omega)) (len100 (by omega)))
              have SB := Hid.mkV (fun va vb W => sub_any va vb (tri (L i) (L j) d (j + 1)) (F i j * ((2 ^ 60 : Nat) : Int)) W (len100 (by omega)) (len100 (by omega)))
              have l1 : (allow (L i) j (j + 1) + d j * ((2 ^ 31 : Nat) : Int)).natAbs < 10 ^ 100 := by omega
              have l2 : (tri (L i) (L j) d (j + 1) - F i j * ((2 ^ 60 : Nat) : Int)).natAbs < 10 ^ 100 := by omega
              have hok := HOK.out i j h h2
              rw [← two31, ← two60] at hok
              obtain ⟨M3, hM3⟩ : ∃ q, q = allow (L i) j (j + 1) + d j * ((2 ^ 31 : Nat) : Int) := ⟨_, rfl⟩
              obtain ⟨D3, hD3⟩ : ∃ q, q = tri (L i) (L j) d (j + 1) - F i j * ((2 ^ 60 : Nat) : Int) := ⟨_, rfl⟩
              rw [← hM3] at AD hok l1
              rw [← hD3] at SB hok l2
              obtain ⟨P1, hP1⟩ : ∃ q, q = d j * ((2 ^ 31 : Nat) : Int) := ⟨_, rfl⟩
              rw [← hP1] at MU AD
              obtain ⟨P2, hP2⟩ : ∃ q, q = F i j * ((2 ^ 60 : Nat) : Int) := ⟨_, rfl⟩
              rw [← hP2] at MV SB
              obtain ⟨Q, hQ⟩ : ∃ q, q = ((2 ^ 31 : Nat) : Int) := ⟨_, rfl⟩
              rw [← hQ] at TW MU
              obtain ⟨Q', hQ'⟩ : ∃ q, q = ((2 ^ 60 : Nat) : Int) := ⟨_, rfl⟩
              rw [← hQ'] at TX MV
              obtain ⟨S, hS⟩ : ∃ q, q = tri (L i) (L j) d (j + 1) := ⟨_, rfl⟩
              rw [← hS] at SB nS
              obtain ⟨M, hM⟩ : ∃ q, q = allow (L i) j (j + 1) := ⟨_, rfl⟩
              rw [← hM] at AD nM
              obtain ⟨A, hA⟩ : ∃ q, q = d j := ⟨_, rfl⟩
              rw [← hA] at OFA MU e8
              obtain ⟨B, hB'⟩ : ∃ q, q = F i j := ⟨_, rfl⟩
              rw [← hB'] at OFB MV
              have HB' := Hid.mkV hB'
              clear hM3 hD3 hP1 hP2 hQ hQ' hS hM hA hB' bT bM bX bY bD bF
              obtain ⟨a1, L1, c1, y0, y1, g0, g1, iM, rM⟩ := nM.row
              go_upto_region 14 with fail
              go_cut [77] (fun p wx => Nv.NumAt wx wb.heap.size S ∧ Nv.NumAt wx w3.heap.size M3 ∧ Below W0.heap.size W0 wx)
              case first =>
                refine Ru.wp_region_U [10] (fun w' => w'.cell? ⟨w3.heap.size, 0, none⟩ = some (.bool (decide (M < 0))) ∧ w'.cell? ⟨w3.heap.size, 1, none⟩ = some (.slice a1 L1 c1) ∧ w'.cell? ⟨w.heap.size, 1, none⟩ = some (.slice (some xd) n cd) ∧ w'.cell? (xd.add j) = some (.int .i64 A)) (by kernel_rfl) ⟨y0, y1, e3, e8⟩ (fun hHeld => ?_)
                refine Ru.wpAnyU_take (i := 0) (v := .agg #[.bool (decide (M < 0)), .slice a1 L1 c1]) rfl (by kernel_rfl) (by kernel_rfl) (by kernel_rfl) (by kernel_rfl) (by kernel_rfl) (by kernel_rfl) (fun _ _ _ h => h) (Or.inl ⟨by rfl, fun w hS => by obtain ⟨sc0, sc1, sc2, sc3⟩ := hS; go_simp⟩) hHeld ?_
                simp only [Act.put, List.getElem_toArray, List.getElem_cons_zero, List.getElem_cons_succ, List.setIfInBounds_toArray, List.set_cons_zero, List.set_cons_succ]
                refine Ru.wpAnyU_take (i := 1) (v := .pointer (some ⟨w.heap.size, 1, none⟩)) rfl (by kernel_rfl) (by kernel_rfl) (by kernel_rfl) (by kernel_rfl) (by kernel_rfl) (by kernel_rfl) (fun _ _ _ h => h) (Or.inl ⟨by rfl, fun w hS => by obtain ⟨sc0, sc1, sc2, sc3⟩ := hS; go_simp⟩) hHeld ?_
                simp only [Act.put, List.getElem_toArray, List.getElem_cons_zero, List.getElem_cons_succ, List.setIfInBounds_toArray, List.set_cons_zero, List.set_cons_succ]
                refine Ru.wpAnyU_take (i := 2) (v := .slice (some xd) n cd) rfl (by kernel_rfl) (by kernel_rfl) (by kernel_rfl) (by kernel_rfl) (by kernel_rfl) (by kernel_rfl) (fun _ _ _ h => h) (Or.inl ⟨by rfl, fun w hS => by obtain ⟨sc0, sc1, sc2, sc3⟩ := hS; go_simp⟩) hHeld ?_
                simp only [Act.put, List.getElem_toArray, List.getElem_cons_zero, List.getElem_cons_succ, List.setIfInBounds_toArray, List.set_cons_zero, List.set_cons_succ]
                refine Ru.wpAnyU_take (i := 3) (v := .int .i64 (j : Int)) rfl (by kernel_rfl) (by kernel_rfl) (by kernel_rfl) (by kernel_rfl) (by kernel_rfl) (by kernel_rfl) (fun _ _ _ h => h) (Or.inl ⟨by rfl, fun w hS => by obtain ⟨sc0, sc1, sc2, sc3⟩ := hS; go_simp⟩) hHeld ?_
                simp only [Act.put, List.getElem_toArray, List.getElem_cons_zero, List.getElem_cons_succ, List.setIfInBounds_toArray, List.set_cons_zero, List.set_cons_succ]
                refine Ru.wpAnyU_take (i := 4) (v := .pointer (some (xd.add j))) rfl (by kernel_rfl) (by kernel_rfl) (by kernel_rfl) (by kernel_rfl) (by kernel_rfl) (by kernel_rfl) (fun _ _ _ h => h) (Or.inl ⟨by rfl, fun w hS => by obtain ⟨sc0, sc1, sc2, sc3⟩ := hS; go_simp⟩) hHeld ?_
                simp only [Act.put, List.getElem_toArray, List.getElem_cons_zero, List.getElem_cons_succ, List.setIfInBounds_toArray, List.set_cons_zero, List.set_cons_succ]
                refine Ru.wpAnyU_take (i := 5) (v := .int .i64 A) rfl (by kernel_rfl) (by kernel_rfl) (by kernel_rfl) (by kernel_rfl) (by kernel_rfl) (by kernel_rfl) (fun _ _ _ h => h) (Or.inl ⟨by rfl, fun w hS => by obtain ⟨sc0, sc1, sc2, sc3⟩ := hS; go_simp⟩) hHeld ?_
                simp only [Act.put, List.getElem_toArray, List.getElem_cons_zero, List.getElem_cons_succ, List.setIfInBounds_toArray, List.set_cons_zero, List.set_cons_succ]
                refine Ru.wpAnyU_ready (rs := [6]) (by kernel_rfl) (by simp) ?_
                refine Ru.AllReadyU.cons rfl (by kernel_rfl) (fun K hK => ?_) Ru.AllReadyU.nil
                go_simp
                refine (OFA.out _).mono ?_
                rintro e w4 ⟨v4, rfl, i4, k4⟩
                have K4 : Below wc.heap.size wc w4 := below_tr (Vc.below_drew' _) k4
                go_wp2_with fail
                refine hK.out _ _ ⟨keep_cell K4 y0, keep_cell K4 y1, keep_cell K4 e3, keep_cell K4 e8⟩ (fun hHeld => ?_)
                clear hK K
                try simp only [Act.put, List.getElem_toArray, List.getElem_cons_zero, List.getElem_cons_succ, List.setIfInBounds_toArray, List.set_cons_zero, List.set_cons_succ]
                refine Ru.wpAnyU_ready (rs := [7]) (by kernel_rfl) (by simp) ?_
                refine Ru.AllReadyU.cons rfl (by kernel_rfl) (fun K hK => ?_) Ru.AllReadyU.nil
                go_simp
                refine (TW.out _).mono ?_
                rintro e w5 ⟨v5, rfl, i5, k5⟩
                have K5 : Below wc.heap.size wc w5 := below_tr K4 k5
                have i4b := i4.below k5
                go_wp2_with fail
                refine hK.out _ _ ⟨keep_cell K5 y0, keep_cell K5 y1, keep_cell K5 e3, keep_cell K5 e8⟩ (fun hHeld => ?_)
                clear hK K
                try simp only [Act.put, List.getElem_toArray, List.getElem_cons_zero, List.getElem_cons_succ, List.setIfInBounds_toArray, List.set_cons_zero, List.set_cons_succ]
                refine Ru.wpAnyU_ready (rs := [8]) (by kernel_rfl) (by simp) ?_
                refine Ru.AllReadyU.cons rfl (by kernel_rfl) (fun K hK => ?_) Ru.AllReadyU.nil
                go_simp
                refine (MU.out _ _ _ i4b i5).mono ?_
                rintro e w6 ⟨v6, rfl, i6, k6⟩
                have K6 : Below wc.heap.size wc w6 := below_tr K5 k6
                have iM6 := iM.below K6
                go_wp2_with fail
                refine hK.out _ _ ⟨keep_cell K6 y0, keep_cell K6 y1, keep_cell K6 e3, keep_cell K6 e8⟩ (fun hHeld => ?_)
                clear hK K
                try simp only [Act.put, List.getElem_toArray, List.getElem_cons_zero, List.getElem_cons_succ, List.setIfInBounds_toArray, List.set_cons_zero, List.set_cons_succ]
                refine Ru.wpAnyU_ready (rs := [9]) (by kernel_rfl) (by simp) ?_
                refine Ru.AllReadyU.cons rfl (by kernel_rfl) (fun K hK => ?_) Ru.AllReadyU.nil
                go_simp
                refine (AD.out _ _ _ iM6 i6).mono ?_
                rintro e w7 ⟨v7, rfl, i7, k7⟩
                have K7 : Below wc.heap.size wc w7 := below_tr K6 k7
                obtain ⟨a9, L9, c9, E9⟩ := i7.form; subst E9
                have r7 := rM.keep K7; have q0 := r7.c0; have q1 := r7.c1; have q2 := r7.free 0; have q3 := r7.free 1
                go_wp2_with fail
                refine hK.out _ _ ⟨keep_cell K7 y0, keep_cell K7 y1, keep_cell K7 e3, keep_cell K7 e8⟩ (fun hHeld => ?_)
                clear hK K
                try simp only [Act.put, List.getElem_toArray, List.getElem_cons_zero, List.getElem_cons_succ, List.setIfInBounds_toArray, List.set_cons_zero, List.set_cons_succ]
                refine Ru.wpAnyU_ready (rs := [10]) (by kernel_rfl) (by simp) ?_
                refine Ru.AllReadyU.cons2 rfl (by kernel_rfl) (fun K hK => ?_) Ru.AllReadyU.nil
                go_simp
                refine hK.out _ _ ?_
                clear hK K
                try simp only [Act.put, List.getElem_toArray, List.getElem_cons_zero, List.getElem_cons_succ, List.setIfInBounds_toArray, List.set_cons_zero, List.set_cons_succ]
                refine wpAny_done (by kernel_rfl) ?_ _
                all_goals go_wp2_with fail
                all_goals go_meet
                all_goals exact ⟨(nS.keep K7).other hne.symm r7 _ _, Nv.NumAt.set i7 r7, below_set2 (below_tr bc K7) hm0 _ _⟩
              rename World => we
              obtain ⟨nS', nM', bd⟩ := hcut
              clear nS nM e3 e8 y0 y1 g0 g1 iM rM
              have m4 := keep_cell bd M4
              have m6 := keep_cell bd (HVm.out i yi j h (by omega) hyi)
              rw [← HB'.out] at m6
              obtain ⟨a0, L0, c0, x0, x1, f0, f1, iS, rS⟩ := nS'.row
              go_upto_region 15 with fail
              go_cut [10] (fun p wx => ∃ gn : Nat, p = .pointer (some ⟨gn, 0, none⟩) ∧ Nv.NumAt wx gn D3 ∧ Nv.NumAt wx w3.heap.size M3 ∧ Below W0.heap.size W0 wx)
              case first =>
                refine Ru.wp_region_U [13] (fun w' => w'.cell? ⟨wb.heap.size, 0, none⟩ = some (.bool (decide (S < 0))) ∧ w'.cell? ⟨wb.heap.size, 1, none⟩ = some (.slice a0 L0 c0) ∧ w'.cell? (xm.add i) = some (.slice (some yi) n (CM i)) ∧ w'.cell? (yi.add j) = some (.int .i64 B)) (by kernel_rfl) ⟨x0, x1, m4, m6⟩ (fun hHeld => ?_)
                refine Ru.wpAnyU_take (i := 0) (v := .agg #[.bool (decide (S < 0)), .slice a0 L0 c0]) rfl (by kernel_rfl) (by kernel_rfl) (by kernel_rfl) (by kernel_rfl) (by kernel_rfl) (by kernel_rfl) (fun _ _ _ h => h) (Or.inl ⟨by rfl, fun w hS => by obtain ⟨sc0, sc1, sc2, sc3⟩ := hS; go_simp⟩) hHeld ?_
                simp only [Act.put, List.getElem_toArray, List.getElem_cons_zero, List.getElem_cons_succ, List.setIfInBounds_toArray, List.set_cons_zero, List.set_cons_succ]
                refine Ru.wpAnyU_take (i := 1) (v := .slice (some xm) n cm) rfl (by kernel_rfl) (by kernel_rfl) (by kernel_rfl) (by kernel_rfl) (by kernel_rfl) (by kernel_rfl) (fun _ _ _ h => h) (Or.inl ⟨by rfl, fun w hS => by obtain ⟨sc0, sc1, sc2, sc3⟩ := hS; go_simp⟩) hHeld ?_
                simp only [Act.put, List.getElem_toArray, List.getElem_cons_zero, List.getElem_cons_succ, List.setIfInBounds_toArray, List.set_cons_zero, List.set_cons_succ]
                refine Ru.wpAnyU_take (i := 2) (v := .int .i64 (i : Int)) rfl (by kernel_rfl) (by kernel_rfl) (by kernel_rfl) (by kernel_rfl) (by kernel_rfl) (by kernel_rfl) (fun _ _ _ h => h) (Or.inl ⟨by rfl, fun w hS => by obtain ⟨sc0, sc1, sc2, sc3⟩ := hS; go_simp⟩) hHeld ?_
                simp only [Act.put, List.getElem_toArray, List.getElem_cons_zero, List.getElem_cons_succ, List.setIfInBounds_toArray, List.set_cons_zero, List.set_cons_succ]
                refine Ru.wpAnyU_take (i := 3) (v := .pointer (some (xm.add i))) rfl (by kernel_rfl) (by kernel_rfl) (by kernel_rfl) (by kernel_rfl) (by kernel_rfl) (by kernel_rfl) (fun _ _ _ h => h) (Or.inl ⟨by rfl, fun w hS => by obtain ⟨sc0, sc1, sc2, sc3⟩ := hS; go_simp⟩) hHeld ?_
                simp only [Act.put, List.getElem_toArray, List.getElem_cons_zero, List.getElem_cons_succ, List.setIfInBounds_toArray, List.set_cons_zero, List.set_cons_succ]
                refine Ru.wpAnyU_take (i := 4) (v := .slice (some yi) n (CM i)) rfl (by kernel_rfl) (by kernel_rfl) (by kernel_rfl) (by kernel_rfl) (by kernel_rfl) (by kernel_rfl) (fun _ _ _ h => h) (Or.inl ⟨by rfl, fun w hS => by obtain ⟨sc0, sc1, sc2, sc3⟩ := hS; go_simp⟩) hHeld ?_
                simp only [Act.put, List.getElem_toArray, List.getElem_cons_zero, List.getElem_cons_succ, List.setIfInBounds_toArray, List.set_cons_zero, List.set_cons_succ]
                refine Ru.wpAnyU_take (i := 5) (v := .int .i64 (j : Int)) rfl (by kernel_rfl) (by kernel_rfl) (by kernel_rfl) (by kernel_rfl) (by kernel_rfl) (by kernel_rfl) (fun _ _ _ h => h) (Or.inl ⟨by rfl, fun w hS => by obtain ⟨sc0, sc1, sc2, sc3⟩ := hS; go_simp⟩) hHeld ?_
                simp only [Act.put, List.getElem_toArray, List.getElem_cons_zero, List.getElem_cons_succ, List.setIfInBounds_toArray, List.set_cons_zero, List.set_cons_succ]
                refine Ru.wpAnyU_take (i := 6) (v := .pointer (some (yi.add j))) rfl (by kernel_rfl) (by kernel_rfl) (by kernel_rfl) (by kernel_rfl) (by kernel_rfl) (by kernel_rfl) (fun _ _ _ h => h) (Or.inl ⟨by rfl, fun w hS => by obtain ⟨sc0, sc1, sc2, sc3⟩ := hS; go_simp⟩) hHeld ?_
                simp only [Act.put, List.getElem_toArray, List.getElem_cons_zero, List.getElem_cons_succ, List.setIfInBounds_toArray, List.set_cons_zero, List.set_cons_succ]
                refine Ru.wpAnyU_take (i := 7) (v := .int .i64 B) rfl (by kernel_rfl) (by kernel_rfl) (by kernel_rfl) (by kernel_rfl) (by kernel_rfl) (by kernel_rfl) (fun _ _ _ h => h) (Or.inl ⟨by rfl, fun w hS => by obtain ⟨sc0, sc1, sc2, sc3⟩ := hS; go_simp⟩) hHeld ?_
                simp only [Act.put, List.getElem_toArray, List.getElem_cons_zero, List.getElem_cons_succ, List.setIfInBounds_toArray, List.set_cons_zero, List.set_cons_succ]
                refine Ru.wpAnyU_ready (rs := [8, 12]) (by kernel_rfl) (by simp) ?_
                refine Ru.AllReadyU.cons rfl (by kernel_rfl) (fun K hK => ?_) ?_
                · go_simp
                  refine (OFB.out _).mono ?_
                  rintro e w_8_1 ⟨v_8_1, rfl, i_8_1, k_8_1⟩
                  have B_we_8_1 : Below we.heap.size we w_8_1 := below_tr (Vc.below_drew' _) k_8_1
                  go_wp2_with fail
                  refine hK.out _ _ ⟨keep_cell B_we_8_1 x0, keep_cell B_we_8_1 x1, keep_cell B_we_8_1 m4, keep_cell B_we_8_1 m6⟩ (fun hHeld => ?_)
                  clear hK K
                  try simp only [Act.put, List.getElem_toArray, List.getElem_cons_zero, List.getElem_cons_succ, List.setIfInBounds_toArray, List.set_cons_zero, List.set_cons_succ]
                  refine Ru.wpAnyU_ready (rs := [9, 12]) (by kernel_rfl) (by simp) ?_
                  refine Ru.AllReadyU.cons rfl (by kernel_rfl) (fun K hK => ?_) ?_
                  · go_simp
                    refine (TX.out _).mono ?_
                    rintro e w_9_2 ⟨v_9_2, rfl, i_9_2, k_9_2⟩
                    have B_we_9_2 : Below we.heap.size we w_9_2 := below_tr B_we_8_1 k_9_2
                    have B_w_8_1_9_2 : Below w_8_1.heap.size w_8_1 w_9_2 := k_9_2
                    go_wp2_with fail
                    refine hK.out _ _ ⟨keep_cell B_we_9_2 x0, keep_cell B_we_9_2 x1, keep_cell B_we_9_2 m4, keep_cell B_we_9_2 m6⟩ (fun hHeld => ?_)
                    clear hK K
                    try simp only [Act.put, List.getElem_toArray, List.getElem_cons_zero, List.getElem_cons_succ, List.setIfInBounds_toArray, List.set_cons_zero, List.set_cons_succ]
                    refine Ru.wpAnyU_ready (rs := [10, 12]) (by kernel_rfl) (by simp) ?_
                    refine Ru.AllReadyU.cons rfl (by kernel_rfl) (fun K hK => ?_) ?_
                    · go_simp
                      refine (MV.out _ _ _ (i_8_1.below B_w_8_1_9_2) i_9_2).mono ?_
                      rintro e w_10_3 ⟨v_10_3, rfl, i_10_3, k_10_3⟩
                      have B_we_10_3 : Below we.heap.size we w_10_3 := below_tr B_we_9_2 k_10_3
                      have B_w_8_1_10_3 : Below w_8_1.heap.size w_8_1 w_10_3 := below_tr B_w_8_1_9_2 k_10_3
                      have B_w_9_2_10_3 : Below w_9_2.heap.size w_9_2 w_10_3 := k_10_3
                      go_wp2_with fail
                      refine hK.out _ _ ⟨keep_cell B_we_10_3 x0, keep_cell B_we_10_3 x1, keep_cell B_we_10_3 m4, keep_cell B_we_10_3 m6⟩ (fun hHeld => ?_)
                      clear hK K
                      try simp only [Act.put, List.getElem_toArray, List.getElem_cons_zero, List.getElem_cons_succ, List.setIfInBounds_toArray, List.set_cons_zero, List.set_cons_succ]
                      refine Ru.wpAnyU_ready (rs := [11, 12]) (by kernel_rfl) (by simp) ?_
                      refine Ru.AllReadyU.cons rfl (by kernel_rfl) (fun K hK => ?_) ?_
                      · go_simp
                        refine (SB.out _ _ _ (iS.below B_we_10_3) i_10_3).mono ?_
                        rintro e w_11_4 ⟨v_11_4, rfl, i_11_4, k_11_4⟩
                        have B_we_11_4 : Below we.heap.size we w_11_4 := below_tr B_we_10_3 k_11_4
                        have B_w_8_1_11_4 : Below w_8_1.heap.size w_8_1 w_11_4 := below_tr B_w_8_1_10_3 k_11_4
                        have B_w_9_2_11_4 : Below w_9_2.heap.size w_9_2 w_11_4 := below_tr B_w_9_2_10_3 k_11_4
                        have B_w_10_3_11_4 : Below w_10_3.heap.size w_10_3 w_11_4 := k_11_4
                        obtain ⟨a9, L9, c9, E9⟩ := i_11_4.form; subst E9
                        go_wp2_with fail
                        refine hK.out _ _ ⟨keep_cell B_we_11_4 x0, keep_cell B_we_11_4 x1, keep_cell B_we_11_4 m4, keep_cell B_we_11_4 m6⟩ (fun hHeld => ?_)
                        clear hK K
                        try simp only [Act.put, List.getElem_toArray, List.getElem_cons_zero, List.getElem_cons_succ, List.setIfInBounds_toArray, List.set_cons_zero, List.set_cons_succ]
                        refine Ru.wpAnyU_ready (rs := [12]) (by kernel_rfl) (by simp) ?_
                        refine Ru.AllReadyU.cons rfl (by kernel_rfl) (fun K hK => ?_) Ru.AllReadyU.nil
                        go_simp
                        have B_we_al_5 := below_al B_we_11_4 (.cells #[.bool false, .slice none 0 0] 65)
                        have B_w_8_1_al_5 := below_al B_w_8_1_11_4 (.cells #[.bool false, .slice none 0 0] 65)
                        have B_w_9_2_al_5 := below_al B_w_9_2_11_4 (.cells #[.bool false, .slice none 0 0] 65)
                        have B_w_10_3_al_5 := below_al B_w_10_3_11_4 (.cells #[.bool false, .slice none 0 0] 65)
                        have B_w_11_4_al_5 := below_al (Below.refl _ w_11_4) (.cells #[.bool false, .slice none 0 0] 65)
                        have r_al_5 := row2_new w_11_4 (.bool false) (.slice none 0 0)
                        refine hK.out _ _ ⟨keep_cell B_we_al_5 x0, keep_cell B_we_al_5 x1, keep_cell B_we_al_5 m4, keep_cell B_we_al_5 m6⟩ (fun hHeld => ?_)
                        clear hK K
                        try simp only [Act.put, List.getElem_toArray, List.getElem_cons_zero, List.getElem_cons_succ, List.setIfInBounds_toArray, List.set_cons_zero, List.set_cons_succ]
                        refine Ru.wpAnyU_ready (rs := [13]) (by kernel_rfl) (by simp) ?_
                        refine Ru.AllReadyU.cons2 rfl (by kernel_rfl) (fun K hK => ?_) Ru.AllReadyU.nil
                        go_simp
                        refine hK.out _ _ ?_
                        clear hK K
                        try simp only [Act.put, List.getElem_toArray, List.getElem_cons_zero, List.getElem_cons_succ, List.setIfInBounds_toArray, List.set_cons_zero, List.set_cons_succ]
                        refine wpAny_done (by kernel_rfl) ?_ _
                        go_wp2_with fail
                        go_meet
                        refine ⟨_, rfl, ?_⟩
                        have h := into_new (below_tr bd B_we_11_4) i_11_4 (by have := B_we_11_4.size; have := bd.size; omega)
                        exact ⟨h.1, (nM'.keep B_we_11_4).keep (below_al (Below.refl _ _) _), h.2⟩
                      refine Ru.AllReadyU.cons rfl (by kernel_rfl) (fun K hK => ?_) Ru.AllReadyU.nil
                      go_simp
                      have B_we_al_6 := below_al B_we_10_3 (.cells #[.bool false, .slice none 0 0] 65)
                      have B_w_8_1_al_6 := below_al B_w_8_1_10_3 (.cells #[.bool false, .slice none 0 0] 65)
                      have B_w_9_2_al_6 := below_al B_w_9_2_10_3 (.cells #[.bool false, .slice none 0 0] 65)
                      have B_w_10_3_al_6 := below_al (Below.refl _ w_10_3) (.cells #[.bool false, .slice none 0 0] 65)
                      have r_al_6 := row2_new w_10_3 (.bool false) (.slice none 0 0)
                      refine hK.out _ _ ⟨keep_cell B_we_al_6 x0, keep_cell B_we_al_6 x1, keep_cell B_we_al_6 m4, keep_cell B_we_al_6 m6⟩ (fun hHeld => ?_)
                      clear hK K
                      try simp only [Act.put, List.getElem_toArray, List.getElem_cons_zero, List.getElem_cons_succ, List.setIfInBounds_toArray, List.set_cons_zero, List.set_cons_succ]
                      refine Ru.wpAnyU_ready (rs := [11]) (by kernel_rfl) (by simp) ?_
                      refine Ru.AllReadyU.cons rfl (by kernel_rfl) (fun K hK => ?_) Ru.AllReadyU.nil
                      go_simp
                      refine (SB.out _ _ _ (iS.below B_we_al_6) (i_10_3.below B_w_10_3_al_6)).mono ?_
                      rintro e w_11_7 ⟨v_11_7, rfl, i_11_7, k_11_7⟩
                      have B_we_11_7 : Below we.heap.size we w_11_7 := below_tr B_we_al_6 k_11_7
                      have B_w_8_1_11_7 : Below w_8_1.heap.size w_8_1 w_11_7 := below_tr B_w_8_1_al_6 k_11_7
                      have B_w_9_2_11_7 : Below w_9_2.heap.size w_9_2 w_11_7 := below_tr B_w_9_2_al_6 k_11_7
                      have B_w_10_3_11_7 : Below w_10_3.heap.size w_10_3 w_11_7 := below_tr B_w_10_3_al_6 k_11_7
                      have r_11_7 := r_al_6.keep k_11_7
                      obtain ⟨a9, L9, c9, E9⟩ := i_11_7.form; subst E9
                      go_wp2_with fail
                      refine hK.out _ _ ⟨keep_cell B_we_11_7 x0, keep_cell B_we_11_7 x1, keep_cell B_we_11_7 m4, keep_cell B_we_11_7 m6⟩ (fun hHeld => ?_)
                      clear hK K
                      try simp only [Act.put, List.getElem_toArray, List.getElem_cons_zero, List.getElem_cons_succ, List.setIfInBounds_toArray, List.set_cons_zero, List.set_cons_succ]
                      have q0 := r_11_7.c0
                      have q1 := r_11_7.c1
                      have q2 := r_11_7.free 0
                      have q3 := r_11_7.free 1
                      refine Ru.wpAnyU_ready (rs := [13]) (by kernel_rfl) (by simp) ?_
                      refine Ru.AllReadyU.cons2 rfl (by kernel_rfl) (fun K hK => ?_) Ru.AllReadyU.nil
                      go_simp
                      refine hK.out _ _ ?_
                      clear hK K
                      try simp only [Act.put, List.getElem_toArray, List.getElem_cons_zero, List.getElem_cons_succ, List.setIfInBounds_toArray, List.set_cons_zero, List.set_cons_succ]
                      refine wpAny_done (by kernel_rfl) ?_ _
                      go_wp2_with fail
                      go_meet
                      refine ⟨_, rfl, ?_⟩
                      have zm := nM'.lt
                      have zb := bd.size
                      have zq := B_we_10_3.size
                      have h := into_old (below_tr bd B_we_11_7) r_11_7 (by omega) i_11_7
                      exact ⟨h.1, (nM'.keep B_we_11_7).other (by omega) r_11_7 _ _, h.2⟩
                    refine Ru.AllReadyU.cons rfl (by kernel_rfl) (fun K hK => ?_) Ru.AllReadyU.nil
                    go_simp
                    have B_we_al_8 := below_al B_we_9_2 (.cells #[.bool false, .slice none 0 0] 65)
                    have B_w_8_1_al_8 := below_al B_w_8_1_9_2 (.cells #[.bool false, .slice none 0 0] 65)
                    have B_w_9_2_al_8 := below_al (Below.refl _ w_9_2) (.cells #[.bool false, .slice none 0 0] 65)
                    have r_al_8 := row2_new w_9_2 (.bool false) (.slice none 0 0)
                    refine hK.out _ _ ⟨keep_cell B_we_al_8 x0, keep_cell B_we_al_8 x1, keep_cell B_we_al_8 m4, keep_cell B_we_al_8 m6⟩ (fun hHeld => ?_)
                    clear hK K
                    try simp only [Act.put, List.getElem_toArray, List.getElem_cons_zero, List.getElem_cons_succ, List.setIfInBounds_toArray, List.set_cons_zero, List.set_cons_succ]
                    refine Ru.wpAnyU_ready (rs := [10]) (by kernel_rfl) (by simp) ?_
                    refine Ru.AllReadyU.cons rfl (by kernel_rfl) (fun K hK => ?_) Ru.AllReadyU.nil
                    go_simp
                    refine (MV.out _ _ _ (i_8_1.below B_w_8_1_al_8) (i_9_2.below B_w_9_2_al_8)).mono ?_
                    rintro e w_10_9 ⟨v_10_9, rfl, i_10_9, k_10_9⟩
                    have B_we_10_9 : Below we.heap.size we w_10_9 := below_tr B_we_al_8 k_10_9
                    have B_w_8_1_10_9 : Below w_8_1.heap.size w_8_1 w_10_9 := below_tr B_w_8_1_al_8 k_10_9
                    have B_w_9_2_10_9 : Below w_9_2.heap.size w_9_2 w_10_9 := below_tr B_w_9_2_al_8 k_10_9
                    have r_10_9 := r_al_8.keep k_10_9
                    go_wp2_with fail
                    refine hK.out _ _ ⟨keep_cell B_we_10_9 x0, keep_cell B_we_10_9 x1, keep_cell B_we_10_9 m4, keep_cell B_we_10_9 m6⟩ (fun hHeld => ?_)
                    clear hK K
                    try simp only [Act.put, List.getElem_toArray, List.getElem_cons_zero, List.getElem_cons_succ, List.setIfInBounds_toArray, List.set_cons_zero, List.set_cons_succ]
                    refine Ru.wpAnyU_ready (rs := [11]) (by kernel_rfl) (by simp) ?_
                    refine Ru.AllReadyU.cons rfl (by kernel_rfl) (fun K hK => ?_) Ru.AllReadyU.nil
                    go_simp
                    refine (SB.out _ _ _ (iS.below B_we_10_9) i_10_9).mono ?_
                    rintro e w_11_10 ⟨v_11_10, rfl, i_11_10, k_11_10⟩
                    have B_we_11_10 : Below we.heap.size we w_11_10 := below_tr B_we_10_9 k_11_10
                    have B_w_8_1_11_10 : Below w_8_1.heap.size w_8_1 w_11_10 := below_tr B_w_8_1_10_9 k_11_10
                    have B_w_9_2_11_10 : Below w_9_2.heap.size w_9_2 w_11_10 := below_tr B_w_9_2_10_9 k_11_10
                    have B_w_10_9_11_10 : Below w_10_9.heap.size w_10_9 w_11_10 := k_11_10
                    have r_11_10 := r_10_9.keep k_11_10
                    obtain ⟨a9, L9, c9, E9⟩ := i_11_10.form; subst E9
                    go_wp2_with fail
                    refine hK.out _ _ ⟨keep_cell B_we_11_10 x0, keep_cell B_we_11_10 x1, keep_cell B_we_11_10 m4, keep_cell B_we_11_10 m6⟩ (fun hHeld => ?_)
                    clear hK K
                    try simp only [Act.put, List.getElem_toArray, List.getElem_cons_zero, List.getElem_cons_succ, List.setIfInBounds_toArray, List.set_cons_zero, List.set_cons_succ]
                    have q0 := r_11_10.c0
                    have q1 := r_11_10.c1
                    have q2 := r_11_10.free 0
                    have q3 := r_11_10.free 1
                    refine Ru.wpAnyU_ready (rs := [13]) (by kernel_rfl) (by simp) ?_
                    refine Ru.AllReadyU.cons2 rfl (by kernel_rfl) (fun K hK => ?_) Ru.AllReadyU.nil
                    go_simp
                    refine hK.out _ _ ?_
                    clear hK K
                    try simp only [Act.put, List.getElem_toArray, List.getElem_cons_zero, List.getElem_cons_succ, List.setIfInBounds_toArray, List.set_cons_zero, List.set_cons_succ]
                    refine wpAny_done (by kernel_rfl) ?_ _
                    go_wp2_with fail
                    go_meet
                    refine ⟨_, rfl, ?_⟩
                    have zm := nM'.lt
                    have zb := bd.size
                    have zq := B_we_9_2.size
                    have h := into_old (below_tr bd B_we_11_10) r_11_10 (by omega) i_11_10
                    exact ⟨h.1, (nM'.keep B_we_11_10).other (by omega) r_11_10 _ _, h.2⟩
                  refine Ru.AllReadyU.cons rfl (by kernel_rfl) (fun K hK => ?_) Ru.AllReadyU.nil
                  go_simp
                  have B_we_al_11 := below_al B_we_8_1 (.cells #[.bool false, .slice none 0 0] 65)
                  have B_w_8_1_al_11 := below_al (Below.refl _ w_8_1) (.cells #[.bool false, .slice none 0 0] 65)
                  have r_al_11 := row2_new w_8_1 (.bool false) (.slice none 0 0)
                  refine hK.out _ _ ⟨keep_cell B_we_al_11 x0, keep_cell B_we_al_11 x1, keep_cell B_we_al_11 m4, keep_cell B_we_al_11 m6⟩ (fun hHeld => ?_)
                  clear hK K
                  try simp only [Act.put, List.getElem_toArray, List.getElem_cons_zero, List.getElem_cons_succ, List.setIfInBounds_toArray, List.set_cons_zero, List.set_cons_succ]
                  refine Ru.wpAnyU_ready (rs := [9]) (by kernel_rfl) (by simp) ?_
                  refine Ru.AllReadyU.cons rfl (by kernel_rfl) (fun K hK => ?_) Ru.AllReadyU.nil
                  go_simp
                  refine (TX.out _).mono ?_
                  rintro e w_9_12 ⟨v_9_12, rfl, i_9_12, k_9_12⟩
                  have B_we_9_12 : Below we.heap.size we w_9_12 := below_tr B_we_al_11 k_9_12
                  have B_w_8_1_9_12 : Below w_8_1.heap.size w_8_1 w_9_12 := below_tr B_w_8_1_al_11 k_9_12
                  have r_9_12 := r_al_11.keep k_9_12
                  go_wp2_with fail
                  refine hK.out _ _ ⟨keep_cell B_we_9_12 x0, keep_cell B_we_9_12 x1, keep_cell B_we_9_12 m4, keep_cell B_we_9_12 m6⟩ (fun hHeld => ?_)
                  clear hK K
                  try simp only [Act.put, List.getElem_toArray, List.getElem_cons_zero, List.getElem_cons_succ, List.setIfInBounds_toArray, List.set_cons_zero, List.set_cons_succ]
                  refine Ru.wpAnyU_ready (rs := [10]) (by kernel_rfl) (by simp) ?_
                  refine Ru.AllReadyU.cons rfl (by kernel_rfl) (fun K hK => ?_) Ru.AllReadyU.nil
                  go_simp
                  refine (MV.out _ _ _ (i_8_1.below B_w_8_1_9_12) i_9_12).mono ?_
                  rintro e w_10_13 ⟨v_10_13, rfl, i_10_13, k_10_13⟩
                  have B_we_10_13 : Below we.heap.size we w_10_13 := below_tr B_we_9_12 k_10_13
                  have B_w_8_1_10_13 : Below w_8_1.heap.size w_8_1 w_10_13 := below_tr B_w_8_1_9_12 k_10_13
                  have B_w_9_12_10_13 : Below w_9_12.heap.size w_9_12 w_10_13 := k_10_13
                  have r_10_13 := r_9_12.keep k_10_13
                  go_wp2_with fail
                  refine hK.out _ _ ⟨keep_cell B_we_10_13 x0, keep_cell B_we_10_13 x1, keep_cell B_we_10_13 m4, keep_cell B_we_10_13 m6⟩ (fun hHeld => ?_)
                  clear hK K
                  try simp only [Act.put, List.getElem_toArray, List.getElem_cons_zero, List.getElem_cons_succ, List.setIfInBounds_toArray, List.set_cons_zero, List.set_cons_succ]
                  refine Ru.wpAnyU_ready (rs := [11]) (by kernel_rfl) (by simp) ?_
                  refine Ru.AllReadyU.cons rfl (by kernel_rfl) (fun K hK => ?_) Ru.AllReadyU.nil
                  go_simp
                  refine (SB.out _ _ _ (iS.below B_we_10_13) i_10_13).mono ?_
                  rintro e w_11_14 ⟨v_11_14, rfl, i_11_14, k_11_14⟩
                  have B_we_11_14 : Below we.heap.size we w_11_14 := below_tr B_we_10_13 k_11_14
                  have B_w_8_1_11_14 : Below w_8_1.heap.size w_8_1 w_11_14 := below_tr B_w_8_1_10_13 k_11_14
                  have B_w_9_12_11_14 : Below w_9_12.heap.size w_9_12 w_11_14 := below_tr B_w_9_12_10_13 k_11_14
                  have B_w_10_13_11_14 : Below w_10_13.heap.size w_10_13 w_11_14 := k_11_14
                  have r_11_14 := r_10_13.keep k_11_14
                  obtain ⟨a9, L9, c9, E9⟩ := i_11_14.form; subst E9
                  go_wp2_with fail
                  refine hK.out _ _ ⟨keep_cell B_we_11_14 x0, keep_cell B_we_11_14 x1, keep_cell B_we_11_14 m4, keep_cell B_we_11_14 m6⟩ (fun hHeld => ?_)
                  clear hK K
                  try simp only [Act.put, List.getElem_toArray, List.getElem_cons_zero, List.getElem_cons_succ, List.setIfInBounds_toArray, List.set_cons_zero, List.set_cons_succ]
                  have q0 := r_11_14.c0
                  have q1 := r_11_14.c1
                  have q2 := r_11_14.free 0
                  have q3 := r_11_14.free 1
                  refine Ru.wpAnyU_ready (rs := [13]) (by kernel_rfl) (by simp) ?_
                  refine Ru.AllReadyU.cons2 rfl (by kernel_rfl) (fun K hK => ?_) Ru.AllReadyU.nil
                  go_simp
                  refine hK.out _ _ ?_
                  clear hK K
                  try simp only [Act.put, List.getElem_toArray, List.getElem_cons_zero, List.getElem_cons_succ, List.setIfInBounds_toArray, List.set_cons_zero, List.set_cons_succ]
                  refine wpAny_done (by kernel_rfl) ?_ _
                  go_wp2_with fail
                  go_meet
                  refine ⟨_, rfl, ?_⟩
                  have zm := nM'.lt
                  have zb := bd.size
                  have zq := B_we_8_1.size
                  have h := into_old (below_tr bd B_we_11_14) r_11_14 (by omega) i_11_14
                  exact ⟨h.1, (nM'.keep B_we_11_14).other (by omega) r_11_14 _ _, h.2⟩
                refine Ru.AllReadyU.cons rfl (by kernel_rfl) (fun K hK => ?_) Ru.AllReadyU.nil
                go_simp
                have B_we_al_15 := (below_al (Below.refl _ we) (.cells #[.bool false, .slice none 0 0] 65)).drew
                have r_al_15 := (row2_new we (.bool false) (.slice none 0 0)).drew
                refine hK.out _ _ ⟨keep_cell B_we_al_15 x0, keep_cell B_we_al_15 x1, keep_cell B_we_al_15 m4, keep_cell B_we_al_15 m6⟩ (fun hHeld => ?_)
                clear hK K
                try simp only [Act.put, List.getElem_toArray, List.getElem_cons_zero, List.getElem_cons_succ, List.setIfInBounds_toArray, List.set_cons_zero, List.set_cons_succ]
                refine Ru.wpAnyU_ready (rs := [8]) (by kernel_rfl) (by simp) ?_
                refine Ru.AllReadyU.cons rfl (by kernel_rfl) (fun K hK => ?_) Ru.AllReadyU.nil
                go_simp
                refine (OFB.out _).mono ?_
                rintro e w_8_16 ⟨v_8_16, rfl, i_8_16, k_8_16⟩
                have B_we_8_16 : Below we.heap.size we w_8_16 := below_tr B_we_al_15 k_8_16
                have r_8_16 := r_al_15.keep k_8_16
                go_wp2_with fail
                refine hK.out _ _ ⟨keep_cell B_we_8_16 x0, keep_cell B_we_8_16 x1, keep_cell B_we_8_16 m4, keep_cell B_we_8_16 m6⟩ (fun hHeld => ?_)
                clear hK K
                try simp only [Act.put, List.getElem_toArray, List.getElem_cons_zero, List.getElem_cons_succ, List.setIfInBounds_toArray, List.set_cons_zero, List.set_cons_succ]
                refine Ru.wpAnyU_ready (rs := [9]) (by kernel_rfl) (by simp) ?_
                refine Ru.AllReadyU.cons rfl (by kernel_rfl) (fun K hK => ?_) Ru.AllReadyU.nil
                go_simp
                refine (TX.out _).mono ?_
                rintro e w_9_17 ⟨v_9_17, rfl, i_9_17, k_9_17⟩
                have B_we_9_17 : Below we.heap.size we w_9_17 := below_tr B_we_8_16 k_9_17
                have B_w_8_16_9_17 : Below w_8_16.heap.size w_8_16 w_9_17 := k_9_17
                have r_9_17 := r_8_16.keep k_9_17
                go_wp2_with fail
                refine hK.out _ _ ⟨keep_cell B_we_9_17 x0, keep_cell B_we_9_17 x1, keep_cell B_we_9_17 m4, keep_cell B_we_9_17 m6⟩ (fun hHeld => ?_)
                clear hK K
                try simp only [Act.put, List.getElem_toArray, List.getElem_cons_zero, List.getElem_cons_succ, List.setIfInBounds_toArray, List.set_cons_zero, List.set_cons_succ]
                refine Ru.wpAnyU_ready (rs := [10]) (by kernel_rfl) (by simp) ?_
                refine Ru.AllReadyU.cons rfl (by kernel_rfl) (fun K hK => ?_) Ru.AllReadyU.nil
                go_simp
                refine (MV.out _ _ _ (i_8_16.below B_w_8_16_9_17) i_9_17).mono ?_
                rintro e w_10_18 ⟨v_10_18, rfl, i_10_18, k_10_18⟩
                have B_we_10_18 : Below we.heap.size we w_10_18 := below_tr B_we_9_17 k_10_18
                have B_w_8_16_10_18 : Below w_8_16.heap.size w_8_16 w_10_18 := below_tr B_w_8_16_9_17 k_10_18
                have B_w_9_17_10_18 : Below w_9_17.heap.size w_9_17 w_10_18 := k_10_18
                have r_10_18 := r_9_17.keep k_10_18
                go_wp2_with fail
                refine hK.out _ _ ⟨keep_cell B_we_10_18 x0, keep_cell B_we_10_18 x1, keep_cell B_we_10_18 m4, keep_cell B_we_10_18 m6⟩ (fun hHeld => ?_)
                clear hK K
                try simp only [Act.put, List.getElem_toArray, List.getElem_cons_zero, List.getElem_cons_succ, List.setIfInBounds_toArray, List.set_cons_zero, List.set_cons_succ]
                refine Ru.wpAnyU_ready (rs := [11]) (by kernel_rfl) (by simp) ?_
                refine Ru.AllReadyU.cons rfl (by kernel_rfl) (fun K hK => ?_) Ru.AllReadyU.nil
                go_simp
                refine (SB.out _ _ _ (iS.below B_we_10_18) i_10_18).mono ?_
                rintro e w_11_19 ⟨v_11_19, rfl, i_11_19, k_11_19⟩
                have B_we_11_19 : Below we.heap.size we w_11_19 := below_tr B_we_10_18 k_11_19
                have B_w_8_16_11_19 : Below w_8_16.heap.size w_8_16 w_11_19 := below_tr B_w_8_16_10_18 k_11_19
                have B_w_9_17_11_19 : Below w_9_17.heap.size w_9_17 w_11_19 := below_tr B_w_9_17_10_18 k_11_19
                have B_w_10_18_11_19 : Below w_10_18.heap.size w_10_18 w_11_19 := k_11_19
                have r_11_19 := r_10_18.keep k_11_19
                obtain ⟨a9, L9, c9, E9⟩ := i_11_19.form; subst E9
                go_wp2_with fail
                refine hK.out _ _ ⟨keep_cell B_we_11_19 x0, keep_cell B_we_11_19 x1, keep_cell B_we_11_19 m4, keep_cell B_we_11_19 m6⟩ (fun hHeld => ?_)
                clear hK K
                try simp only [Act.put, List.getElem_toArray, List.getElem_cons_zero, List.getElem_cons_succ, List.setIfInBounds_toArray, List.set_cons_zero, List.set_cons_succ]
                have q0 := r_11_19.c0
                have q1 := r_11_19.c1
                have q2 := r_11_19.free 0
                have q3 := r_11_19.free 1
                refine Ru.wpAnyU_ready (rs := [13]) (by kernel_rfl) (by simp) ?_
                refine Ru.AllReadyU.cons2 rfl (by kernel_rfl) (fun K hK => ?_) Ru.AllReadyU.nil
                go_simp
                refine hK.out _ _ ?_
                clear hK K
                try simp only [Act.put, List.getElem_toArray, List.getElem_cons_zero, List.getElem_cons_succ, List.setIfInBounds_toArray, List.set_cons_zero, List.set_cons_succ]
                refine wpAny_done (by kernel_rfl) ?_ _
                go_wp2_with fail
                go_meet
                refine ⟨_, rfl, ?_⟩
                have zm := nM'.lt
                have zb := bd.size
                have h := into_old (below_tr bd B_we_11_19) r_11_19 (by omega) i_11_19
                exact ⟨h.1, (nM'.keep B_we_11_19).other (by omega) r_11_19 _ _, h.2⟩
              rename World => wf
              obtain ⟨gn, rfl, nD, nN, be⟩ := hcut
              obtain ⟨a5, L5, c5, _, y5, _, _, i5, _⟩ := nN.row
              obtain ⟨a6, L6, c6, _, y6, _, _, i6, _⟩ := nD.row
              have R5 : Rd wf (.slice a5 L5 c5) (digs M3.natAbs) := by obtain ⟨d', E', R'⟩ := i5; cases E'; exact R'
              have R6 : Rd wf (.slice a6 L6 c6) (digs D3.natAbs) := by obtain ⟨d', E', R'⟩ := i6; cases E'; exact R'
              have LS := Hid.mkV (less_any (.slice a5 L5 c5) (.slice a6 L6 c6) M3.natAbs D3.natAbs wf (len100 l1) (len100 l2) R5 R6)
              have hlt : decide (M3.natAbs < D3.natAbs) = false := decide_eq_false (by omega)
              rw [hlt] at LS
              clear nS' nM' nD nN R5 R6 i5 i6 hlt hok l1 l2 x0 x1 f0 f1 iS rS m4 m6
              go_wp2_with fail
              refine LS.out.mono ?_
              rintro e w8 ⟨rfl, k8⟩
              go_wp2
              go_roundw
              case rel => exact ⟨j + 1, by omega, by go_num, below_tr be k8⟩
              case measure => simp [intOf]; omega
        · obtain rfl : j = i + 1 := by omega
          have jt : ¬ ((i + 1 : Nat) : Int) ≤ (i : Int) := by omega
          go_wp2
          go_roundw
          case rel => exact ⟨i + 1, by omega, by go_num, bb⟩
          case measure => simp [intOf]; omega
    · obtain rfl : i = n := by omega
      go_wp2
      go_ret
      exact ⟨rfl, below_tr HB.out ba⟩
end Go.Proofs.YtkmhikfjdafipaaDoor
