/-
  Vectors (vec): Join, or the error.
-/
import Derived.Test.YtopffbidnpimcaaVcD
import Derived.Test.YtopffbidnpimcaaQK
import Derived.Deep.RegionHeld3
set_option linter.unusedSimpArgs false
set_option linter.unusedVariables false
namespace Go.Proofs.Ytopffbidnpimcaa
open Go.RowKit Vc Qn Dt

theorem qdot_sl (ao bo : Option Addr) (n ca cb : Nat) (za zb : Nat → Int) (q : Int) (b : Nat) (w : World) (hq : q = (b : Int)) (hn : n ≤ 64) (ha : Sl w ao n ca za) (hb : Sl w bo n cb zb) (ba : B64 za) (bb : B64 zb) (hp : b ≤ 62) :
    Calls Try.prog 16 #[.slice ao n ca, .slice bo n cb, .int .i64 q] w fun e w' => e = .returned (.tuple #[.int .i64 (clamp (rne (dk za zb n) (2 ^ b))), .bool (great (rne (dk za zb n) (2 ^ b))), .nilIface]) ∧ Below w.heap.size w w' := by
  subst hq
  obtain ⟨xa, hao, hca⟩ := ha.get
  obtain ⟨xb, hbo, hcb⟩ := hb.get
  exact qdot_any ao bo xa xb n ca cb za zb b w hn hao hbo hca hcb ba bb hp

set_option maxRecDepth 10000 in
set_option maxHeartbeats 1000000 in
theorem vjoin1_any (p : Nat) (lo ho : Option Addr) (m cm hc : Nat) (A : Nat → Option Addr) (L C : Nat → Nat) (Z : Nat → Nat → Int) (c : Nat → Int) (pa pb : Nat) (w : World) (h : Sls w lo m cm A L C) (hz : ∀ k, k < m → Sl w (A k) (L k) (C k) (Z k)) (hp : ∀ k, k < m → p < L k) (hm : m ≤ 4)
    (hch : Sl w ho m hc c) (bz : B64 (fun k => Z k p)) (bc : B64 c) (cp : w.cell? ⟨pa, 0, none⟩ = some (.slice lo m cm)) (cq : w.cell? ⟨pb, 0, none⟩ = some (.slice ho m hc)) :
    Calls Try.prog 15 #[.int .i64 (p : Int), .pointer (some ⟨pa, 0, none⟩), .pointer (some ⟨pb, 0, none⟩)] w fun e w' => e = .returned (.tuple #[.int .i64 (clamp (rne (dk (fun k => Z k p) c m) (2 ^ 30))), .bool (great (rne (dk (fun k => Z k p) c m) (2 ^ 30))), .nilIface]) ∧ Below w.heap.size w w' := by
  have HP : Hid (∀ W, Below w.heap.size w W → Calls Try.prog 17 #[.int .i64 (p : Int), .slice lo m cm] W fun e w' => ∃ ao ca, e = .returned (.slice ao m ca) ∧ Sl w' ao m ca (fun k => Z k p) ∧ Below W.heap.size W w') :=
    fun W b => partsAt_any p lo m cm A L C Z W (h.keep b) (fun k hk => (hz k hk).keep b) hp (by omega)
  have HD : Hid (∀ ao ca W, Below w.heap.size w W → Sl W ao m ca (fun k => Z k p) → Calls Try.prog 16 #[.slice ao m ca, .slice ho m hc, .int .i64 30] W fun e w' => e = .returned (.tuple #[.int .i64 (clamp (rne (dk (fun k => Z k p) c m) (2 ^ 30))), .bool (great (rne (dk (fun k => Z k p) c m) (2 ^ 30))), .nilIface]) ∧ Below W.heap.size W w') :=
    fun ao ca W b hs => qdot_sl ao ho m ca hc _ c 30 30 W rfl (by omega) hs (hch.keep b) bz bc (by omega)
  obtain ⟨X, hX⟩ : ∃ X, X = clamp (rne (dk (fun k => Z k p) c m) (2 ^ 30)) := ⟨_, rfl⟩
  obtain ⟨Y, hY⟩ : ∃ Y, Y = great (rne (dk (fun k => Z k p) c m) (2 ^ 30)) := ⟨_, rfl⟩
  rw [← hX, ← hY] at HD
  rw [← hX, ← hY]
  clear hX hY h hz hp hch bz bc
  go_enter Try.func15, Try.ntmps15
  go_wp2
  go_region_held3 (fun w' => w'.cell? ⟨pa, 0, none⟩ = some (.slice lo m cm) ∧ w'.cell? ⟨pb, 0, none⟩ = some (.slice ho m hc)) (first | exact ⟨cp, cq⟩ | exact ⟨keep_cell k3 cp, keep_cell k3 cq⟩ | exact ⟨keep_cell kk cp, keep_cell kk cq⟩ | go_keep)
    (first
      | (go_at_call 17; refine (HP.out _ (by exact Vc.below_drew' w)).mono ?_; rintro e w2 ⟨ao, ca, rfl, hs2, k2⟩; have kk := below_tr (Vc.below_drew' w) k2)
      | (go_at_call 16; refine (HD.out _ _ _ (by exact kk) (by exact hs2)).mono ?_; rintro e w3 ⟨rfl, k3'⟩; have k3 := below_tr kk k3'))
  all_goals go_wp2
  all_goals go_ret3
  all_goals exact ⟨rfl, k3⟩

set_option maxRecDepth 10000 in
set_option maxHeartbeats 1000000 in
theorem vjoin_any (n : Nat) (lo ho : Option Addr) (m cm hc : Nat) (A : Nat → Option Addr) (C : Nat → Nat) (Z : Nat → Nat → Int) (c : Nat → Int) (w : World) (h : Sls w lo m cm A (fun _ => n) C) (hz : ∀ k, k < m → Sl w (A k) n (C k) (Z k)) (hn : n ≤ 6) (hm0 : 0 < m) (hm : m ≤ 4)
    (hch : Sl w ho m hc c) (bz : ∀ k, B64 (Z k)) (bc : B64 c) :
    Calls Try.prog 7 #[.slice lo m cm, .slice ho m hc] w fun e w' => ∃ co cc, e = .returned (.tuple #[.slice co n cc, .bool (anyb (fun p => great (rne (dk (fun k => Z k p) c m) (2 ^ 30))) n), .nilIface]) ∧ Sl w' co n cc (fun p => clamp (rne (dk (fun k => Z k p) c m) (2 ^ 30))) ∧ Below w.heap.size w w' := by
  obtain ⟨x, hlo, hcl⟩ := h.get
  obtain rfl := hlo hm0
  have hW := below_al (below_al (Below.refl _ w) (.cells #[.slice (some x) m cm] 29)) (.cells #[.slice ho m hc] 22)
  have d1 : ((w.alloc (.cells #[.slice (some x) m cm] 29)).alloc (.cells #[.slice ho m hc] 22)).cell? ⟨w.heap.size, 0, none⟩ = some (.slice (some x) m cm) := by go_simp
  have d2 : ((w.alloc (.cells #[.slice (some x) m cm] 29)).alloc (.cells #[.slice ho m hc] 22)).cell? ⟨w.heap.size + 1, 0, none⟩ = some (.slice ho m hc) := by go_simp
  have d3 := keep_cell hW (hcl 0 hm0)
  have l1 := h.le
  have l2 := h.cap
  have l3 := hch.le
  have l4 := hch.cap
  have H := Hid.mkV (byPart_Join (.pointer (some ⟨w.heap.size, 0, none⟩)) (.pointer (some ⟨w.heap.size + 1, 0, none⟩)) x m cm n (C 0) (A 0) (fun p => clamp (rne (dk (fun k => Z k p) c m) (2 ^ 30))) (fun p => great (rne (dk (fun k => Z k p) c m) (2 ^ 30))) _ hm0 l1 l2 d3 hn
    (alike_yes _ m cm _ n _ _ (h.keep hW) hm0 hn)
    (fun p hp w1 b1 => vjoin1_any p (some x) ho m cm hc A (fun _ => n) C Z c w.heap.size (w.heap.size + 1) w1 (h.keep (below_tr hW b1)) (fun k hk => (hz k hk).keep (below_tr hW b1)) (fun _ _ => hp) hm (hch.keep (below_tr hW b1)) (fun k => bz k p) bc (keep_cell b1 d1) (keep_cell b1 d2)))
  clear d1 d2 d3 h hz hch bz bc hcl hlo
  have e1 : decide ((m : Int) > 4) = false := decide_eq_false (by omega)
  go_enter Try.func7, Try.ntmps7
  go_wp2_with fail
  refine H.out.mono ?_
  rintro e w1 ⟨co, cc, rfl, hs, k1⟩
  go_wp2
  go_ret3
  exact ⟨co, cc, rfl, hs, below_tr hW k1⟩

set_option maxRecDepth 10000 in
set_option maxHeartbeats 1000000 in
/-- Not as many chances, or too many vectors. -/
theorem vjoin_err1 (lo ho : Option Addr) (m q cm hc : Nat) (w : World) (hm : m ≤ 9223372036854775807) (hq : q ≤ 9223372036854775807) (h : m ≠ q ∨ 4 < m) :
    Calls Try.prog 7 #[.slice lo m cm, .slice ho q hc] w fun e w' => e = .returned (.tuple #[.slice none 0 0, .bool false, .iface 37 (.int .i64 1)]) ∧ Below w.heap.size w w' := by
  have hW := below_al (below_al (Below.refl _ w) (.cells #[.slice lo m cm] 29)) (.cells #[.slice ho q hc] 22)
  by_cases e : m = q
  · subst e
    have e1 : decide ((m : Int) > 4) = true := decide_eq_true (by omega)
    clear h
    go_enter Try.func7, Try.ntmps7
    go_wp2
    go_ret3
    exact ⟨rfl, hW⟩
  · have e1 : (((m : Nat) : Int) != ((q : Nat) : Int)) = true := by rw [bne_iff_ne]; omega
    clear h
    go_enter Try.func7, Try.ntmps7
    go_wp2
    go_ret3
    exact ⟨rfl, hW⟩

set_option maxRecDepth 10000 in
set_option maxHeartbeats 1000000 in
/-- Vectors that are not alike. -/
theorem vjoin_err2 (lo ho : Option Addr) (m cm hc : Nat) (w : World) (hm : m ≤ 4)
    (hal : ∀ W, Below w.heap.size w W → Calls Try.prog 20 #[.slice lo m cm] W fun e w' => e = .returned (.bool false) ∧ w' = W) :
    Calls Try.prog 7 #[.slice lo m cm, .slice ho m hc] w fun e w' => e = .returned (.tuple #[.slice none 0 0, .bool false, .iface 37 (.int .i64 1)]) ∧ Below w.heap.size w w' := by
  have hW := below_al (below_al (Below.refl _ w) (.cells #[.slice lo m cm] 29)) (.cells #[.slice ho m hc] 22)
  have e1 : decide ((m : Int) > 4) = false := decide_eq_false (by omega)
  have H := Hid.mkV (byPart_err (.func (.func 15) #[] #[.pointer (some ⟨w.heap.size, 0, none⟩), .pointer (some ⟨w.heap.size + 1, 0, none⟩)]) lo m cm _ (hal _ hW))
  clear hal
  go_enter Try.func7, Try.ntmps7
  go_wp2_with fail
  refine H.out.mono ?_
  rintro e w1 ⟨rfl, k1⟩
  go_wp2
  go_ret3
  exact ⟨rfl, below_tr hW k1⟩

end Go.Proofs.Ytopffbidnpimcaa
