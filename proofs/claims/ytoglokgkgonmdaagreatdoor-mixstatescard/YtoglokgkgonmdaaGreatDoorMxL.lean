/-
  Layer 15's laws: lists of states that came in, handed on, held against each other (sized, giveStates, areStates).
-/
import Derived.Test.YtoglokgkgonmdaaGreatDoorPdL
import Derived.Test.YtoglokgkgonmdaaGreatDoorM32
import Derived.Test.YtoglokgkgonmdaaGreatDoorM22
import Derived.Test.YtoglokgkgonmdaaGreatDoorRegM
set_option linter.unusedSimpArgs false
set_option linter.unusedVariables false
namespace Go.Proofs.YtoglokgkgonmdaaGreatDoor
open Go.RowKit Vc Mx Pd St Mt
attribute [local go_sem ↓] Go.wp_at_zero Go.wp_at_succ
namespace Mx
theorem hideL {p : Prop} (h : p) : Hid p := h
structure Raw where
  xo : Option Addr
  xn : Nat
  xc : Nat
  X : Nat → Int
  po : Option Addr
  pn : Nat
  pc : Nat
  A : Nat → Option Addr
  K : Nat → Nat
  C : Nat → Nat
  Z : Nat → Nat → Int
structure Raw.Ok (w : World) (d : Raw) : Prop where
  x : Sl w d.xo d.xn d.xc d.X
  xb : B64 d.X
  p : Sls w d.po d.pn d.pc d.A d.K d.C
  q : ∀ r, r < d.pn → Sl w (d.A r) (d.K r) (d.C r) (d.Z r) ∧ B64 (d.Z r)
theorem states_lie {W : World} {cs : List Value} (h : Lie.L W 35 cs) :
  ∃ (lo : Option Addr) (n cm : Nat) (D : Nat → Raw), cs = [.slice lo n cm] ∧ Dst W lo n cm (fun k => .slice (D k).xo (D k).xn (D k).xc) (fun k => .slice (D k).po (D k).pn (D k).pc) ∧ ∀ k, k < n → (D k).Ok W := by
 have d0 : Raw := ⟨none, 0, 0, fun _ => 0, none, 0, 0, fun _ => none, fun _ => 0, fun _ => 0, fun _ _ => 0⟩
 rcases Lie.slice_ Tryz.underlying35 h with rfl | ⟨a, len, cap, rfl, hl, hm, hel⟩
 ·exact ⟨none, 0, 0, fun _ => d0, rfl, ⟨Nat.le_refl _, by omega, fun k hk => by omega⟩, fun k hk => by omega⟩
 ·have c2 : Tryz.prog.cellsOf 54 = 2 := by kernel_rfl
  have key : ∀ i, i < cap → ∃ d : Raw, W.cell? (a.add (i * 2)) = some (.slice d.xo d.xn d.xc) ∧ W.cell? ((a.add (i * 2)).add 1) = some (.slice d.po d.pn d.pc) ∧ d.Ok W := fun i hi => by
   obtain ⟨es, h1, h2⟩ := hel i hi
   obtain ⟨xo, m, xc, X, po, n, pc, A, K, C, Z, rfl, sX, bX, sP, qP⟩ := state_lies h2
   rw [c2] at h1
   have h3 := (World.cells?_some h1).2.2 0 (by omega)
   have h4 := (World.cells?_some h1).2.2 1 (by omega)
   rw [Lie.addr_zero] at h3
   exact ⟨⟨xo, m, xc, X, po, n, pc, A, K, C, Z⟩, h3, h4, sX, bX, sP, qP⟩
  refine ⟨some a, len, cap, fun i => if h : i < cap then (key i h).choose else d0, rfl, ⟨hl, hm, fun k hk => ⟨a, rfl, ?_⟩⟩, fun k hk => ?_⟩
  ·have hk' : k < cap := by omega
   simp only [dif_pos hk']
   exact ⟨(key k hk').choose_spec.1, (key k hk').choose_spec.2.1⟩
  ·have hk' : k < cap := by omega
   simp only [dif_pos hk']
   exact (key k hk').choose_spec.2.2
theorem yieldsD {ops : Array Oper} {S : World → Prop} {o : Oper} {a : Act} (hw : Region.wanted o (yielded ops a.tmps) = true) (x : Operand) (ho : o.op = .load 54 x) (ad : Addr) (u v : Value) (hx : a.eval x = .pointer (some ad))
    (hS : ∀ w, S w → w.cell? ad = some u ∧ w.cell? (ad.add 1) = some v) : YieldsIf Tryz.prog ops S o (.agg #[u, v]) a :=
  .inl ⟨hw, fun w h => by
    unfold execOp
    simp only [ho, hx, Sem.run_bind, run_loadD w ad u v (hS w h).1 (hS w h).2, Result.andThen_ok, Sem.run_pure]⟩
theorem yieldsP' {ops : Array Oper} {S : World → Prop} {o : Oper} {a : Act} {t : TypeId} {n : Nat} (I : Is t n) (hw : Region.wanted o (yielded ops a.tmps) = true) (x : Operand) (ho : o.op = .load t x)
    (b p : Nat) (cs : List Value) (hx : a.eval x = .pointer (some ⟨b, p, none⟩)) (hS : ∀ w, S w → w.rangeAt b p cs) (hl : cs.length = n) : YieldsIf Tryz.prog ops S o (.agg cs.toArray) a := by
  obtain ⟨d, hd, hr⟩ := I.row
  exact yieldsIf_load_mid hw _ x ho b p hx cs d hS hd hr (by rw [I.size, hl])
end Mx
set_option maxRecDepth 20000 in
set_option maxHeartbeats 2000000 in
theorem sized_any (lo : Option Addr) (n cm : Nat) (xo : Nat → Option Addr) (ln xc : Nat → Nat) (V : Nat → Value) (b : Bool) (w : World) (hl : Dst w lo n cm (fun k => .slice (xo k) (ln k) (xc k)) V) (hln : ∀ k, k < n → ln k ≤ 9223372036854775807) (hb : b = true ↔ n ≤ 10 ∧ ∀ k, k < n → ln k = 6) :
  Calls Tryz.prog 11 #[.slice lo n cm] w fun e w' => e = .returned (.bool b) ∧ Below w.heap.size w w' := by
 have l1 := hl.le
 have l2 := hl.cap
 obtain ⟨x, hlo, hcl⟩ := hl.get
 have HLO := hideL hlo
 have HCL := hideL hcl
 have HLN := hideL hln
 have HB := hideL hb
 have NO := hideL (fun (q : Prop) (h1 : b = true → q) (h2 : ¬ q) => (by cases b <;> simp_all : b = false))
 clear hl hlo hcl hln hb
 go_enter Tryz.func11, Tryz.ntmps11
 go_wp2
 go_loopw [3] (fun i wr => ∃ k : Nat, k ≤ n ∧ i = .int .i64 (k : Int) ∧ (∀ j, j < k → ln j = 6) ∧ Below w.heap.size w wr) (fun i _ => n - (intOf i).toNat)
 case atStart => exact ⟨0, by omega, rfl, fun j hj => by omega, Below.refl _ _⟩
 case round =>
  rename World => wr
  obtain ⟨k, hk, rfl, hj, kb⟩ := hrel
  by_cases hkn : k < n
  ·have c0 := keep_cell kb (HCL.out k hkn).1
   have bl := HLN.out k hkn
   obtain rfl := HLO.out (by omega)
   have HJ := hideL hj
   have kn : (k : Int) < n := by omega
   have HBad := hideL (fun (h : ¬ ln k = 6) => NO.out _ HB.out.1 fun q => h (q.2 k hkn))
   have HGood := hideL (fun (h : ln k = 6) j (hj' : j < k + 1) => (by
    by_cases e : j = k
    ·rw [e]; exact h
    ·exact HJ.out j (by omega) : ln j = 6))
   obtain ⟨u, hu⟩ : ∃ q, q = xo k := ⟨_, rfl⟩
   obtain ⟨l, hl⟩ : ∃ q, q = ln k := ⟨_, rfl⟩
   obtain ⟨cc, hcc⟩ : ∃ q, q = xc k := ⟨_, rfl⟩
   rw [← hu, ← hl, ← hcc] at c0
   rw [← hl] at HBad HGood bl
   clear hu hl hcc hj
   by_cases e : l = 6
   ·subst e
    have G := hideL (HGood.out rfl)
    clear HBad HGood
    go_wp2
    go_roundw
    case rel => exact ⟨k + 1, by omega, by go_num, G.out, kb⟩
    case measure => simp [intOf]; omega
   ·have hbf := HBad.out e
    subst hbf
    have e' : ¬ (l : Int) = 6 := by omega
    clear HBad HGood
    go_wp2
    go_ret
    exact ⟨rfl, kb⟩
  ·obtain rfl : n = k := by omega
   have HJ := hideL hj
   clear hj
   by_cases e : n ≤ 10
   ·have hbt : b = true := HB.out.2 ⟨e, HJ.out⟩
    subst hbt
    have e' : (n : Int) ≤ 10 := by omega
    go_wp2
    go_ret
    exact ⟨rfl, kb⟩
   ·have hbf : b = false := NO.out _ HB.out.1 fun q => e q.1
    subst hbf
    have e' : ¬ (n : Int) ≤ 10 := by omega
    go_wp2
    go_ret
    exact ⟨rfl, kb⟩
set_option maxRecDepth 20000 in
set_option maxHeartbeats 2000000 in
theorem giveStates_any (lo : Option Addr) (n cm : Nat) (xo pa : Nat → Option Addr) (xc pn pc : Nat → Nat) (X : Nat → Nat → Int) (r c : Nat → Int) (z : Nat → Nat → Int) (w : World) (hl : Dst w lo n cm (fun k => .slice (xo k) 6 (xc k)) (fun k => .slice (pa k) (pn k) (pc k))) (hX : ∀ k, k < n → Sl w (xo k) 6 (xc k) (X k)) (hn : n ≤ 10)
  (hM : ∀ k, k < n → ∀ W, Below w.heap.size w W → Calls Tryz.prog 62 #[.slice (pa k) (pn k) (pc k)] W fun e w' => e = .returned (.agg (mvals (r k) (c k) (z k)).toArray) ∧ Below W.heap.size W w') :
  Calls Tryz.prog 13 #[.slice lo n cm] w fun e w' => ∃ vo vm, e = .returned (.slice vo n vm) ∧ Pst w' vo n vm X r c z ∧ Below w.heap.size w w' := by
 have l1 := hl.le
 have l2 := hl.cap
 obtain ⟨x, hlo, hcl⟩ := hl.get
 have HLO := hideL hlo
 have HCL := hideL hcl
 have HG := hideL (fun k (hk : k < n) W (b : Below w.heap.size w W) => pgive_any (xo k) (pa k) (xc k) (pn k) (pc k) (X k) (r k) (c k) (z k) W ((hX k hk).keep b) (fun V q => hM k hk V (below_tr b q)))
 clear hl hlo hcl hX hM
 go_enter Tryz.func13, Tryz.ntmps13
 go_wp2
 go_loopw [3, 4] (fun out i wr => ∃ k : Nat, k ≤ n ∧ i = .int .i64 (k : Int) ∧ El.Els 42 44 w.heap.size w wr out k (fun k cs _ => cs = svals (X k) (r k) (c k) (z k))) (fun _ i _ => n - (intOf i).toNat)
 case atStart => exact ⟨0, by omega, rfl, El.Els.nil (Below.refl _ _) (Nat.le_refl _) _ _ _⟩
 case round =>
  rename World => wr
  obtain ⟨k, hk, rfl, hL⟩ := hrel
  by_cases hkn : k < n
  ·obtain ⟨c0, c1⟩ := HCL.out k hkn
   have c0 := hideL (keep_cell hL.below c0)
   have c1 := hideL (keep_cell hL.below c1)
   obtain rfl := HLO.out (by omega)
   have HC := hideL (HG.out k hkn wr hL.below)
   have HL := hideL hL
   have kn : (k : Int) < n := by omega
   have HXk : Hid (∀ (X' : Nat → Int) (r' c' : Int) (z' : Nat → Int), X' = X k → r' = r k → c' = c k → z' = z k → svals X' r' c' z' = svals (X k) (r k) (c k) (z k)) := fun _ _ _ _ h1 h2 h3 h4 => by rw [h1, h2, h3, h4]
   obtain ⟨u, hu⟩ : ∃ q, q = xo k := ⟨_, rfl⟩
   obtain ⟨uc, huc⟩ : ∃ q, q = xc k := ⟨_, rfl⟩
   obtain ⟨v, hv⟩ : ∃ q, q = pa k := ⟨_, rfl⟩
   obtain ⟨vn, hvn⟩ : ∃ q, q = pn k := ⟨_, rfl⟩
   obtain ⟨vc, hvc⟩ : ∃ q, q = pc k := ⟨_, rfl⟩
   obtain ⟨Xk, hXk⟩ : ∃ q, q = X k := ⟨_, rfl⟩
   obtain ⟨rk, hrk⟩ : ∃ q, q = r k := ⟨_, rfl⟩
   obtain ⟨ck, hck⟩ : ∃ q, q = c k := ⟨_, rfl⟩
   obtain ⟨zk, hzk⟩ : ∃ q, q = z k := ⟨_, rfl⟩
   have HEq := hideL (HXk.out Xk rk ck zk hXk hrk hck hzk)
   rw [← hu, ← huc, ← hv, ← hvn, ← hvc, ← hXk, ← hrk, ← hck, ← hzk] at HC
   rw [← hu, ← huc] at c0
   rw [← hv, ← hvn, ← hvc] at c1
   clear hu huc hv hvn hvc hXk hrk hck hzk HXk hL
   go_wp2_with (first
    | (refine wpList_loadV rfl 54 _ (by rfl) (x.add (k * 2)) (.agg #[.slice u 6 uc, .slice v vn vc]) (by rfl) (run_loadD _ _ _ _ c0.out c1.out) ?_)
    | fail)
   refine (HC.out).mono ?_
   rintro e w2 ⟨rfl, k2⟩
   have HL2 := hideL (HL.out.keep k2)
   clear HL c0 c1 HC
   go_wp2_with (first
    | ((with_reducible show wpList _ _ _ _ _ _); refine wpList_slice1 _ (by with_reducible rfl) _ _ _ _ (by rfl) (by rfl) ?_)
    | (at_builtin; refine El.push (by rfl) (.tmp 11) (.tmp 17) 45 42 44 352 (.agg (svals (fun _ => 0) 0 0 (fun _ => 0)).toArray) (by rfl) Tryz.underlying45 infoP44 (by simp [Value.cells, Pd.svals_len]) (by decide) (by decide) w.heap.size w _ k _ (by rfl) HL2.out (by omega) (svals Xk rk ck zk) (svals_len _ _ _ _) (one_svals _ _ _ _) (fun _ _ => HEq.out) (by rfl) ?_)
    | fail)
   intro v' w' hL'
   go_wp2
   go_roundw
   case rel => exact ⟨k + 1, by omega, by go_num, hL'⟩
   case measure => simp [intOf]; omega
  ·obtain rfl : n = k := by omega
   obtain ⟨vo, vm, rfl, hP⟩ := els_pst hL
   have HP := hideL hP
   have kb := hL.below
   clear hP hL
   go_wp2
   go_ret
   exact ⟨_, _, rfl, HP.out, kb⟩
set_option maxRecDepth 20000 in
set_option maxHeartbeats 2000000 in
theorem areStates_yes (ao lo : Option Addr) (n ca cm : Nat) (A pl : Nat → Option Addr) (C pc : Nat → Nat) (X : Nat → Nat → Int) (P : Nat → Nat → Nat → Int) (w : World) (hA : Pst w ao n ca X (fun _ => 6) (fun _ => 6) (fun k => mz 6 6 (P k))) (hl : Dst w lo n cm (fun k => .slice (A k) 6 (C k)) (fun k => .slice (pl k) 6 (pc k)))
  (hX : ∀ k, k < n → Sl w (A k) 6 (C k) (X k) ∧ Grid w (pl k) 6 (pc k) 6 (P k)) :
  Calls Tryz.prog 16 #[.slice ao n ca, .slice lo n cm] w fun e w' => e = .returned (.bool true) ∧ Below w.heap.size w w' := by
 have l1 := hl.le
 have l2 := hl.cap
 have l3 := hA.le
 have l4 := hA.cap
 obtain ⟨x, hlo, hcl⟩ := hl.get
 obtain ⟨g, hao, hca⟩ := hA.get
 have HLO := hideL hlo
 have HAO := hideL hao
 have HI := hideL (fun k (hk : k < n) W (b : Below w.heap.size w W) => pisState_yes (A k) (pl k) (C k) (pc k) (X k) (P k) W ((hX k hk).1.keep b) ((hX k hk).2.keep b))
 have HS := hideL (fun k (hk : k < n) W (b : Below w.heap.size w W) => (⟨fun j v hv => keep_cell b (hca k hk j v hv), keep_cell b (hcl k hk).1, keep_cell b (hcl k hk).2⟩ : W.rangeAt g (k * 44) (svals (X k) 6 6 (mz 6 6 (P k))) ∧ W.cell? (x.add (k * 2)) = some (.slice (A k) 6 (C k)) ∧ W.cell? ((x.add (k * 2)).add 1) = some (.slice (pl k) 6 (pc k))))
 clear hl hlo hcl hX hA hao hca
 go_enter Tryz.func16, Tryz.ntmps16
 go_wp2
 go_loopw [5] (fun i wr => ∃ k : Nat, k ≤ n ∧ i = .int .i64 (k : Int) ∧ Below w.heap.size w wr) (fun i _ => n - (intOf i).toNat)
 case atStart => exact ⟨0, by omega, rfl, Below.refl _ _⟩
 case round =>
  rename World => wr
  obtain ⟨k, hk, rfl, kb⟩ := hrel
  by_cases hkn : k < n
  ·obtain rfl := HLO.out (by omega)
   obtain rfl := HAO.out (by omega)
   have HC := hideL (fun W (b : Below wr.heap.size wr W) => HI.out k hkn W (below_tr kb b))
   have HS1 := hideL (fun W (b : Below wr.heap.size wr W) => HS.out k hkn W (below_tr kb b))
   have kn : (k : Int) < n := by omega
   obtain ⟨zk, hzk⟩ : ∃ q, q = mz 6 6 (P k) := ⟨_, rfl⟩
   obtain ⟨Xk, hXk⟩ : ∃ q, q = X k := ⟨_, rfl⟩
   obtain ⟨u, hu⟩ : ∃ q, q = A k := ⟨_, rfl⟩
   obtain ⟨uc, huc⟩ : ∃ q, q = C k := ⟨_, rfl⟩
   obtain ⟨v, hv⟩ : ∃ q, q = pl k := ⟨_, rfl⟩
   obtain ⟨vc, hvc⟩ : ∃ q, q = pc k := ⟨_, rfl⟩
   rw [← hzk, ← hXk, ← hu, ← huc, ← hv, ← hvc] at HC HS1
   clear hzk hXk hu huc hv hvc
   go_wp2
   refine Ru.wp_region_U [] (fun w' => w'.rangeAt g (k * 44) (svals Xk 6 6 zk) ∧ w'.cell? (x.add (k * 2)) = some (.slice u 6 uc) ∧ w'.cell? ((x.add (k * 2)).add 1) = some (.slice v 6 vc)) (by kernel_rfl) (HS1.out _ (Vc.below_drew' _)) (fun hHeld => ?_)
   refine Ru.wpAnyU_take (i := 0) (v := .slice (some ⟨g, 0, none⟩) n ca) rfl (by kernel_rfl) (by kernel_rfl) (by kernel_rfl) (by kernel_rfl) (by kernel_rfl) (by kernel_rfl) (fun _ _ _ h => h) (Or.inl ⟨by kernel_rfl, fun w hS => by obtain ⟨sc0, sc1, sc2⟩ := hS; go_simp⟩) hHeld ?_
   simp only [Act.put, zq1, zq2, zq3, zq4, zq5, zq6]
   refine Ru.wpAnyU_take (i := 1) (v := .int .i64 (k : Int)) rfl (by kernel_rfl) (by kernel_rfl) (by kernel_rfl) (by kernel_rfl) (by kernel_rfl) (by kernel_rfl) (fun _ _ _ h => h) (Or.inl ⟨by kernel_rfl, fun w hS => by obtain ⟨sc0, sc1, sc2⟩ := hS; go_simp⟩) hHeld ?_
   simp only [Act.put, zq1, zq2, zq3, zq4, zq5, zq6]
   refine Ru.wpAnyU_take (i := 2) (v := .pointer (some ⟨g, k * 44, none⟩)) rfl (by kernel_rfl) (by kernel_rfl) (by kernel_rfl) (by kernel_rfl) (by kernel_rfl) (by kernel_rfl) (fun _ _ _ h => h) (Or.inl ⟨by kernel_rfl, fun w hS => by obtain ⟨sc0, sc1, sc2⟩ := hS; go_simp⟩) hHeld ?_
   simp only [Act.put, zq1, zq2, zq3, zq4, zq5, zq6]
   refine Ru.wpAnyU_take (i := 3) (v := .agg (svals Xk 6 6 zk).toArray) rfl (by kernel_rfl) (by kernel_rfl) (by kernel_rfl) (by kernel_rfl) (by kernel_rfl) (by kernel_rfl) (fun _ _ _ h => h) (yieldsP' isS (by kernel_rfl) _ (by rfl) g (k * 44) _ (by rfl) (fun w h => h.1) (svals_len _ _ _ _)) hHeld ?_
   simp only [Act.put, zq1, zq2, zq3, zq4, zq5, zq6]
   refine Ru.wpAnyU_take (i := 4) (v := .slice (some x) n cm) rfl (by kernel_rfl) (by kernel_rfl) (by kernel_rfl) (by kernel_rfl) (by kernel_rfl) (by kernel_rfl) (fun _ _ _ h => h) (Or.inl ⟨by kernel_rfl, fun w hS => by obtain ⟨sc0, sc1, sc2⟩ := hS; go_simp⟩) hHeld ?_
   simp only [Act.put, zq1, zq2, zq3, zq4, zq5, zq6]
   refine Ru.wpAnyU_take (i := 5) (v := .int .i64 (k : Int)) rfl (by kernel_rfl) (by kernel_rfl) (by kernel_rfl) (by kernel_rfl) (by kernel_rfl) (by kernel_rfl) (fun _ _ _ h => h) (Or.inl ⟨by kernel_rfl, fun w hS => by obtain ⟨sc0, sc1, sc2⟩ := hS; go_simp⟩) hHeld ?_
   simp only [Act.put, zq1, zq2, zq3, zq4, zq5, zq6]
   refine Ru.wpAnyU_take (i := 6) (v := .pointer (some (x.add (k * 2)))) rfl (by kernel_rfl) (by kernel_rfl) (by kernel_rfl) (by kernel_rfl) (by kernel_rfl) (by kernel_rfl) (fun _ _ _ h => h) (Or.inl ⟨by kernel_rfl, fun w hS => by obtain ⟨sc0, sc1, sc2⟩ := hS; go_simp⟩) hHeld ?_
   simp only [Act.put, zq1, zq2, zq3, zq4, zq5, zq6]
   refine Ru.wpAnyU_take (i := 7) (v := .agg #[.slice u 6 uc, .slice v 6 vc]) rfl (by kernel_rfl) (by kernel_rfl) (by kernel_rfl) (by kernel_rfl) (by kernel_rfl) (by kernel_rfl) (fun _ _ _ h => h) (yieldsD (by kernel_rfl) _ (by rfl) (x.add (k * 2)) _ _ (by rfl) (fun w h => h.2)) hHeld ?_
   simp only [Act.put, zq1, zq2, zq3, zq4, zq5, zq6]
   refine Ru.wpAnyU_ready (rs := [8]) (by kernel_rfl) (by simp) ?_
   refine Ru.AllReadyU.cons rfl (by kernel_rfl) (fun K hK => ?_) Ru.AllReadyU.nil
   go_simp
   refine (HC.out _ (Vc.below_drew' _)).mono ?_
   rintro _ w2 ⟨rfl, k2⟩
   have kq := below_tr (Vc.below_drew' wr) k2
   go_wp2_with fail
   refine hK.out _ _ (HS1.out _ kq) (fun hHeld => ?_)
   clear hK K
   try simp only [Act.put, zq1, zq2, zq3, zq4, zq5, zq6]
   refine Ru.wpAnyU_take (i := 9) (v := .bool false) rfl (by kernel_rfl) (by kernel_rfl) (by kernel_rfl) (by kernel_rfl) (by kernel_rfl) (by kernel_rfl) (fun _ _ _ h => h) (Or.inl ⟨by kernel_rfl, fun w hS => by obtain ⟨sc0, sc1, sc2⟩ := hS; go_simp⟩) hHeld ?_
   simp only [Act.put, zq1, zq2, zq3, zq4, zq5, zq6]
   refine Ru.wpAnyU_done (by kernel_rfl) ?_
   go_wp2
   go_roundw
   case rel => exact ⟨k + 1, by omega, by go_num, below_tr kb kq⟩
   case measure => simp [intOf]; omega
  ·obtain rfl : n = k := by omega
   go_wp2
   go_ret
   exact ⟨rfl, kb⟩
end Go.Proofs.YtoglokgkgonmdaaGreatDoor
