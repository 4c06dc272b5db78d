/-
  Vectors (vec): the closures that tell a part; Add, Sub, Scale, Join, Size, or the error. (By py/VcD.py.)
-/
import Derived.Test.YtopffbidnpimcaaVcC
import Derived.Deep.RegionHeld3
set_option linter.unusedSimpArgs false
set_option linter.unusedVariables false
namespace Go.Proofs.Ytopffbidnpimcaa
open Go.RowKit Vc Qn Dt

namespace Vc
theorem Sls.two {W : World} {x : Addr} {a b : Option Addr} {n m ca cb : Nat} (h0 : W.cell? x = some (.slice a n ca)) (h1 : W.cell? (x.add 1) = some (.slice b m cb)) : Sls W (some x) 2 2 (fun j => if j = 0 then a else b) (fun j => if j = 0 then n else m) (fun j => if j = 0 then ca else cb) :=
  ⟨Nat.le_refl _, by omega, fun j hj => ⟨x, rfl, by
    match j, hj with
    | 0, _ => exact h0
    | 1, _ => exact h1⟩⟩
theorem Sls.one {W : World} {x : Addr} {a : Option Addr} {n ca : Nat} (h0 : W.cell? x = some (.slice a n ca)) : Sls W (some x) 1 1 (fun _ => a) (fun _ => n) (fun _ => ca) :=
  ⟨Nat.le_refl _, by omega, fun j hj => ⟨x, rfl, by obtain rfl : j = 0 := by omega
                                                    exact h0⟩⟩
theorem Sls.len {W : World} {lo : Option Addr} {m cm : Nat} {A : Nat → Option Addr} {L L' C : Nat → Nat} (h : Sls W lo m cm A L C) (e : ∀ j, j < m → L j = L' j) : Sls W lo m cm A L' C :=
  ⟨h.le, h.cap, fun j hj => by rw [← e j hj]; exact h.at' j hj⟩
end Vc

theorem qmul_lit (a b q : Int) (p : Nat) (w : World) (hq : q = (p : Int)) (ha0 : -9223372036854775808 ≤ a) (ha1 : a ≤ 9223372036854775807) (hb0 : -9223372036854775808 ≤ b) (hb1 : b ≤ 9223372036854775807) (hp : p ≤ 62) :
    Calls Try.prog 27 #[.int .i64 a, .int .i64 b, .int .i64 q] w fun e w' => e = .returned (.tuple #[.int .i64 (clamp (rne (a * b) (2 ^ p))), .bool (great (rne (a * b) (2 ^ p))), .nilIface]) ∧ Below w.heap.size w w' := by
  subst hq
  exact qmul_any a b p w ha0 ha1 hb0 hb1 hp

set_option maxHeartbeats 1000000 in
/-- Vectors that are not alike. -/
theorem byPart_err (fv : Value) (lo : Option Addr) (m cm : Nat) (w : World) (hal : Calls Try.prog 20 #[.slice lo m cm] w fun e w' => e = .returned (.bool false) ∧ w' = w) :
    Calls Try.prog 10 #[fv, .slice lo m cm] w fun e w' => e = .returned (.tuple #[.slice none 0 0, .bool false, .iface 37 (.int .i64 1)]) ∧ Below w.heap.size w w' := by
  have HAL := Hid.mkV hal
  clear hal
  go_enter Try.func10, Try.ntmps10
  go_wp2_with fail
  refine HAL.out.mono ?_
  rintro e w' ⟨rfl, rfl⟩
  go_wp2
  go_ret3
  exact ⟨rfl, Below.refl _ _⟩

set_option maxRecDepth 10000 in
set_option maxHeartbeats 1000000 in
theorem vadd1_any (k n ca cb : Nat) (ao bo : Option Addr) (za zb : Nat → Int) (pa pb : Nat) (w : World) (hk : k < n) (ha : Sl w ao n ca za) (hb : Sl w bo n cb zb) (ba : B64 za) (bb : B64 zb)
    (cp : w.cell? ⟨pa, 0, none⟩ = some (.slice ao n ca)) (cq : w.cell? ⟨pb, 0, none⟩ = some (.slice bo n cb)) :
    Calls Try.prog 11 #[.int .i64 (k : Int), .pointer (some ⟨pa, 0, none⟩), .pointer (some ⟨pb, 0, none⟩)] w fun e w' => e = .returned (.tuple #[.int .i64 (clamp (za k + zb k)), .bool (great (za k + zb k)), .nilIface]) ∧ Below w.heap.size w w' := by
  obtain ⟨xa, hao, hca⟩ := ha.get
  obtain ⟨xb, hbo, hcb⟩ := hb.get
  obtain rfl := hao (by omega)
  obtain rfl := hbo (by omega)
  have h1 := ha.le
  have h2 := ha.cap
  have h3 := hb.le
  have h4 := hb.cap
  have c1 := hca k hk
  have c2 := hcb k hk
  have HM := Hid.mkV (fun W => qadd_any (za k) (zb k) W (ba k).1 (ba k).2 (bb k).1 (bb k).2)
  obtain ⟨P, hP⟩ : ∃ P, P = za k := ⟨_, rfl⟩
  obtain ⟨Q, hQ⟩ : ∃ Q, Q = zb k := ⟨_, rfl⟩
  rw [← hP, ← hQ] at HM
  rw [← hP] at c1
  rw [← hQ] at c2
  rw [← hP, ← hQ]
  clear hao hbo hca hcb ha hb ba bb hP hQ
  obtain ⟨X, hX⟩ : ∃ X, X = clamp (P + Q) := ⟨_, rfl⟩
  obtain ⟨Y, hY⟩ : ∃ Y, Y = great (P + Q) := ⟨_, rfl⟩
  rw [← hX, ← hY] at HM
  rw [← hX, ← hY]
  clear hX hY
  go_enter Try.func11, Try.ntmps11
  go_wp2
  go_region_held3 (fun w' => w'.cell? ⟨pa, 0, none⟩ = some (.slice (some xa) n ca) ∧ w'.cell? ⟨pb, 0, none⟩ = some (.slice (some xb) n cb) ∧ w'.cell? (xa.add k) = some (.int .i64 P) ∧ w'.cell? (xb.add k) = some (.int .i64 Q)) (first | exact ⟨cp, cq, c1, c2⟩ | exact ⟨keep_cell kk cp, keep_cell kk cq, keep_cell kk c1, keep_cell kk c2⟩ | go_keep)
    (first | (go_at_call 12; refine (HM.out _).mono ?_; rintro e w2 ⟨rfl, k2⟩; have kk := below_tr (Vc.below_drew' w) k2))
  all_goals go_wp2
  all_goals go_ret3
  all_goals exact ⟨rfl, kk⟩

set_option maxRecDepth 10000 in
set_option maxHeartbeats 1000000 in
theorem vadd_any (n ca cb : Nat) (ao bo : Option Addr) (za zb : Nat → Int) (w : World) (hn : n ≤ 6) (ha : Sl w ao n ca za) (hb : Sl w bo n cb zb) (ba : B64 za) (bb : B64 zb) :
    Calls Try.prog 4 #[.slice ao n ca, .slice bo n cb] w fun e w' => ∃ co cc, e = .returned (.tuple #[.slice co n cc, .bool (anyb (fun k => great (za k + zb k)) n), .nilIface]) ∧ Sl w' co n cc (fun k => clamp (za k + zb k)) ∧ Below w.heap.size w w' := by
  have hW := below_al (below_al (below_al (Below.refl _ w) (.cells #[.slice ao n ca] 22)) (.cells #[.slice bo n cb] 22)) (.cells #[.slice ao n ca, .slice bo n cb] 22)
  have d1 : (((w.alloc (.cells #[.slice ao n ca] 22)).alloc (.cells #[.slice bo n cb] 22)).alloc (.cells #[.slice ao n ca, .slice bo n cb] 22)).cell? ⟨w.heap.size, 0, none⟩ = some (.slice ao n ca) := by go_simp
  have d2 : (((w.alloc (.cells #[.slice ao n ca] 22)).alloc (.cells #[.slice bo n cb] 22)).alloc (.cells #[.slice ao n ca, .slice bo n cb] 22)).cell? ⟨w.heap.size + 1, 0, none⟩ = some (.slice bo n cb) := by go_simp
  have d3 : (((w.alloc (.cells #[.slice ao n ca] 22)).alloc (.cells #[.slice bo n cb] 22)).alloc (.cells #[.slice ao n ca, .slice bo n cb] 22)).cell? ⟨w.heap.size + 1 + 1, 0, none⟩ = some (.slice ao n ca) := by go_simp
  have d4 : (((w.alloc (.cells #[.slice ao n ca] 22)).alloc (.cells #[.slice bo n cb] 22)).alloc (.cells #[.slice ao n ca, .slice bo n cb] 22)).cell? ((⟨w.heap.size + 1 + 1, 0, none⟩ : Addr).add 1) = some (.slice bo n cb) := by rw [Addr.add_lit]; go_simp
  have H := Hid.mkV (byPart_Add (.pointer (some ⟨w.heap.size, 0, none⟩)) (.pointer (some ⟨w.heap.size + 1, 0, none⟩)) ⟨w.heap.size + 1 + 1, 0, none⟩ 2 2 n ca ao (fun k => clamp (za k + zb k)) (fun k => great (za k + zb k)) _ (by omega) (by omega) (by omega) d3 hn
    (alike_yes _ 2 2 _ n _ _ ((Sls.two d3 d4).len (fun j hj => by split <;> rfl)) (by omega) hn)
    (fun k hk w1 b1 => vadd1_any k n ca cb ao bo za zb w.heap.size (w.heap.size + 1) w1 hk (ha.keep (below_tr hW b1)) (hb.keep (below_tr hW b1)) ba bb (keep_cell b1 d1) (keep_cell b1 d2)))
  clear d1 d2 d3 d4 ha hb ba bb
  go_enter Try.func4, Try.ntmps4
  go_wp2_with fail
  refine H.out.mono ?_
  rintro e w1 ⟨co, cc, rfl, hs, k1⟩
  go_wp2
  go_ret3
  exact ⟨co, cc, rfl, hs, below_tr hW k1⟩

set_option maxRecDepth 10000 in
set_option maxHeartbeats 1000000 in
theorem vadd_err (n m ca cb : Nat) (ao bo : Option Addr) (w : World) (hn : n ≤ 9223372036854775807) (hm : m ≤ 9223372036854775807) (h : n ≠ m ∨ 6 < n) :
    Calls Try.prog 4 #[.slice ao n ca, .slice bo m cb] w fun e w' => e = .returned (.tuple #[.slice none 0 0, .bool false, .iface 37 (.int .i64 1)]) ∧ Below w.heap.size w w' := by
  have hW := below_al (below_al (below_al (Below.refl _ w) (.cells #[.slice ao n ca] 22)) (.cells #[.slice bo m cb] 22)) (.cells #[.slice ao n ca, .slice bo m cb] 22)
  have d3 : (((w.alloc (.cells #[.slice ao n ca] 22)).alloc (.cells #[.slice bo m cb] 22)).alloc (.cells #[.slice ao n ca, .slice bo m cb] 22)).cell? ⟨w.heap.size + 1 + 1, 0, none⟩ = some (.slice ao n ca) := by go_simp
  have d4 : (((w.alloc (.cells #[.slice ao n ca] 22)).alloc (.cells #[.slice bo m cb] 22)).alloc (.cells #[.slice ao n ca, .slice bo m cb] 22)).cell? ((⟨w.heap.size + 1 + 1, 0, none⟩ : Addr).add 1) = some (.slice bo m cb) := by rw [Addr.add_lit]; go_simp
  have hs := Sls.two d3 d4
  have hl : ∀ k, k < 2 → (fun j => if j = 0 then n else m) k ≤ 9223372036854775807 := fun k hk => by show (if k = 0 then n else m) ≤ _; split <;> omega
  have hal : Calls Try.prog 20 #[.slice (some ⟨w.heap.size + 1 + 1, 0, none⟩) (2 : Nat) (2 : Nat)] (((w.alloc (.cells #[.slice ao n ca] 22)).alloc (.cells #[.slice bo m cb] 22)).alloc (.cells #[.slice ao n ca, .slice bo m cb] 22)) fun e w' => e = .returned (.bool false) ∧ w' = (((w.alloc (.cells #[.slice ao n ca] 22)).alloc (.cells #[.slice bo m cb] 22)).alloc (.cells #[.slice ao n ca, .slice bo m cb] 22)) := by
    by_cases h6 : 6 < n
    · exact alike_no _ 2 2 _ _ _ _ hs 0 (by omega) hl (Or.inr (by show 6 < (if 0 = 0 then n else m); rw [if_pos rfl]; exact h6)) (fun k hk => by omega)
    · exact alike_no _ 2 2 _ _ _ _ hs 1 (by omega) hl (Or.inl (by show (if 1 = 0 then n else m) ≠ (if 0 = 0 then n else m); rw [if_neg (by omega), if_pos rfl]; omega)) (fun k hk => by
        obtain rfl : k = 0 := by omega
        exact ⟨rfl, by show (if 0 = 0 then n else m) ≤ 6; rw [if_pos rfl]; omega⟩)
  have H := Hid.mkV (byPart_err (.func (.func 11) #[] #[.pointer (some ⟨w.heap.size, 0, none⟩), .pointer (some ⟨w.heap.size + 1, 0, none⟩)]) _ 2 2 _ hal)
  clear d3 d4 hs hl hal h
  go_enter Try.func4, Try.ntmps4
  go_wp2_with fail
  refine H.out.mono ?_
  rintro e w1 ⟨rfl, k1⟩
  go_wp2
  go_ret3
  exact ⟨rfl, below_tr hW k1⟩

set_option maxRecDepth 10000 in
set_option maxHeartbeats 1000000 in
theorem vsub1_any (k n ca cb : Nat) (ao bo : Option Addr) (za zb : Nat → Int) (pa pb : Nat) (w : World) (hk : k < n) (ha : Sl w ao n ca za) (hb : Sl w bo n cb zb) (ba : B64 za) (bb : B64 zb)
    (cp : w.cell? ⟨pa, 0, none⟩ = some (.slice ao n ca)) (cq : w.cell? ⟨pb, 0, none⟩ = some (.slice bo n cb)) :
    Calls Try.prog 13 #[.int .i64 (k : Int), .pointer (some ⟨pa, 0, none⟩), .pointer (some ⟨pb, 0, none⟩)] w fun e w' => e = .returned (.tuple #[.int .i64 (clamp (za k - zb k)), .bool (great (za k - zb k)), .nilIface]) ∧ Below w.heap.size w w' := by
  obtain ⟨xa, hao, hca⟩ := ha.get
  obtain ⟨xb, hbo, hcb⟩ := hb.get
  obtain rfl := hao (by omega)
  obtain rfl := hbo (by omega)
  have h1 := ha.le
  have h2 := ha.cap
  have h3 := hb.le
  have h4 := hb.cap
  have c1 := hca k hk
  have c2 := hcb k hk
  have HM := Hid.mkV (fun W => qsub_any (za k) (zb k) W (ba k).1 (ba k).2 (bb k).1 (bb k).2)
  obtain ⟨P, hP⟩ : ∃ P, P = za k := ⟨_, rfl⟩
  obtain ⟨Q, hQ⟩ : ∃ Q, Q = zb k := ⟨_, rfl⟩
  rw [← hP, ← hQ] at HM
  rw [← hP] at c1
  rw [← hQ] at c2
  rw [← hP, ← hQ]
  clear hao hbo hca hcb ha hb ba bb hP hQ
  obtain ⟨X, hX⟩ : ∃ X, X = clamp (P - Q) := ⟨_, rfl⟩
  obtain ⟨Y, hY⟩ : ∃ Y, Y = great (P - Q) := ⟨_, rfl⟩
  rw [← hX, ← hY] at HM
  rw [← hX, ← hY]
  clear hX hY
  go_enter Try.func13, Try.ntmps13
  go_wp2
  go_region_held3 (fun w' => w'.cell? ⟨pa, 0, none⟩ = some (.slice (some xa) n ca) ∧ w'.cell? ⟨pb, 0, none⟩ = some (.slice (some xb) n cb) ∧ w'.cell? (xa.add k) = some (.int .i64 P) ∧ w'.cell? (xb.add k) = some (.int .i64 Q)) (first | exact ⟨cp, cq, c1, c2⟩ | exact ⟨keep_cell kk cp, keep_cell kk cq, keep_cell kk c1, keep_cell kk c2⟩ | go_keep)
    (first | (go_at_call 14; refine (HM.out _).mono ?_; rintro e w2 ⟨rfl, k2⟩; have kk := below_tr (Vc.below_drew' w) k2))
  all_goals go_wp2
  all_goals go_ret3
  all_goals exact ⟨rfl, kk⟩

set_option maxRecDepth 10000 in
set_option maxHeartbeats 1000000 in
theorem vsub_any (n ca cb : Nat) (ao bo : Option Addr) (za zb : Nat → Int) (w : World) (hn : n ≤ 6) (ha : Sl w ao n ca za) (hb : Sl w bo n cb zb) (ba : B64 za) (bb : B64 zb) :
    Calls Try.prog 5 #[.slice ao n ca, .slice bo n cb] w fun e w' => ∃ co cc, e = .returned (.tuple #[.slice co n cc, .bool (anyb (fun k => great (za k - zb k)) n), .nilIface]) ∧ Sl w' co n cc (fun k => clamp (za k - zb k)) ∧ Below w.heap.size w w' := by
  have hW := below_al (below_al (below_al (Below.refl _ w) (.cells #[.slice ao n ca] 22)) (.cells #[.slice bo n cb] 22)) (.cells #[.slice ao n ca, .slice bo n cb] 22)
  have d1 : (((w.alloc (.cells #[.slice ao n ca] 22)).alloc (.cells #[.slice bo n cb] 22)).alloc (.cells #[.slice ao n ca, .slice bo n cb] 22)).cell? ⟨w.heap.size, 0, none⟩ = some (.slice ao n ca) := by go_simp
  have d2 : (((w.alloc (.cells #[.slice ao n ca] 22)).alloc (.cells #[.slice bo n cb] 22)).alloc (.cells #[.slice ao n ca, .slice bo n cb] 22)).cell? ⟨w.heap.size + 1, 0, none⟩ = some (.slice bo n cb) := by go_simp
  have d3 : (((w.alloc (.cells #[.slice ao n ca] 22)).alloc (.cells #[.slice bo n cb] 22)).alloc (.cells #[.slice ao n ca, .slice bo n cb] 22)).cell? ⟨w.heap.size + 1 + 1, 0, none⟩ = some (.slice ao n ca) := by go_simp
  have d4 : (((w.alloc (.cells #[.slice ao n ca] 22)).alloc (.cells #[.slice bo n cb] 22)).alloc (.cells #[.slice ao n ca, .slice bo n cb] 22)).cell? ((⟨w.heap.size + 1 + 1, 0, none⟩ : Addr).add 1) = some (.slice bo n cb) := by rw [Addr.add_lit]; go_simp
  have H := Hid.mkV (byPart_Sub (.pointer (some ⟨w.heap.size, 0, none⟩)) (.pointer (some ⟨w.heap.size + 1, 0, none⟩)) ⟨w.heap.size + 1 + 1, 0, none⟩ 2 2 n ca ao (fun k => clamp (za k - zb k)) (fun k => great (za k - zb k)) _ (by omega) (by omega) (by omega) d3 hn
    (alike_yes _ 2 2 _ n _ _ ((Sls.two d3 d4).len (fun j hj => by split <;> rfl)) (by omega) hn)
    (fun k hk w1 b1 => vsub1_any k n ca cb ao bo za zb w.heap.size (w.heap.size + 1) w1 hk (ha.keep (below_tr hW b1)) (hb.keep (below_tr hW b1)) ba bb (keep_cell b1 d1) (keep_cell b1 d2)))
  clear d1 d2 d3 d4 ha hb ba bb
  go_enter Try.func5, Try.ntmps5
  go_wp2_with fail
  refine H.out.mono ?_
  rintro e w1 ⟨co, cc, rfl, hs, k1⟩
  go_wp2
  go_ret3
  exact ⟨co, cc, rfl, hs, below_tr hW k1⟩

set_option maxRecDepth 10000 in
set_option maxHeartbeats 1000000 in
theorem vsub_err (n m ca cb : Nat) (ao bo : Option Addr) (w : World) (hn : n ≤ 9223372036854775807) (hm : m ≤ 9223372036854775807) (h : n ≠ m ∨ 6 < n) :
    Calls Try.prog 5 #[.slice ao n ca, .slice bo m cb] w fun e w' => e = .returned (.tuple #[.slice none 0 0, .bool false, .iface 37 (.int .i64 1)]) ∧ Below w.heap.size w w' := by
  have hW := below_al (below_al (below_al (Below.refl _ w) (.cells #[.slice ao n ca] 22)) (.cells #[.slice bo m cb] 22)) (.cells #[.slice ao n ca, .slice bo m cb] 22)
  have d3 : (((w.alloc (.cells #[.slice ao n ca] 22)).alloc (.cells #[.slice bo m cb] 22)).alloc (.cells #[.slice ao n ca, .slice bo m cb] 22)).cell? ⟨w.heap.size + 1 + 1, 0, none⟩ = some (.slice ao n ca) := by go_simp
  have d4 : (((w.alloc (.cells #[.slice ao n ca] 22)).alloc (.cells #[.slice bo m cb] 22)).alloc (.cells #[.slice ao n ca, .slice bo m cb] 22)).cell? ((⟨w.heap.size + 1 + 1, 0, none⟩ : Addr).add 1) = some (.slice bo m cb) := by rw [Addr.add_lit]; go_simp
  have hs := Sls.two d3 d4
  have hl : ∀ k, k < 2 → (fun j => if j = 0 then n else m) k ≤ 9223372036854775807 := fun k hk => by show (if k = 0 then n else m) ≤ _; split <;> omega
  have hal : Calls Try.prog 20 #[.slice (some ⟨w.heap.size + 1 + 1, 0, none⟩) (2 : Nat) (2 : Nat)] (((w.alloc (.cells #[.slice ao n ca] 22)).alloc (.cells #[.slice bo m cb] 22)).alloc (.cells #[.slice ao n ca, .slice bo m cb] 22)) fun e w' => e = .returned (.bool false) ∧ w' = (((w.alloc (.cells #[.slice ao n ca] 22)).alloc (.cells #[.slice bo m cb] 22)).alloc (.cells #[.slice ao n ca, .slice bo m cb] 22)) := by
    by_cases h6 : 6 < n
    · exact alike_no _ 2 2 _ _ _ _ hs 0 (by omega) hl (Or.inr (by show 6 < (if 0 = 0 then n else m); rw [if_pos rfl]; exact h6)) (fun k hk => by omega)
    · exact alike_no _ 2 2 _ _ _ _ hs 1 (by omega) hl (Or.inl (by show (if 1 = 0 then n else m) ≠ (if 0 = 0 then n else m); rw [if_neg (by omega), if_pos rfl]; omega)) (fun k hk => by
        obtain rfl : k = 0 := by omega
        exact ⟨rfl, by show (if 0 = 0 then n else m) ≤ 6; rw [if_pos rfl]; omega⟩)
  have H := Hid.mkV (byPart_err (.func (.func 13) #[] #[.pointer (some ⟨w.heap.size, 0, none⟩), .pointer (some ⟨w.heap.size + 1, 0, none⟩)]) _ 2 2 _ hal)
  clear d3 d4 hs hl hal h
  go_enter Try.func5, Try.ntmps5
  go_wp2_with fail
  refine H.out.mono ?_
  rintro e w1 ⟨rfl, k1⟩
  go_wp2
  go_ret3
  exact ⟨rfl, below_tr hW k1⟩

set_option maxRecDepth 10000 in
set_option maxHeartbeats 1000000 in
theorem vscale1_any (k n ca : Nat) (b : Int) (ao : Option Addr) (za : Nat → Int) (pa pb : Nat) (w : World) (hk : k < n) (ha : Sl w ao n ca za) (ba : B64 za) (b0 : -9223372036854775808 ≤ b) (b1 : b ≤ 9223372036854775807)
    (cp : w.cell? ⟨pa, 0, none⟩ = some (.slice ao n ca)) (cq : w.cell? ⟨pb, 0, none⟩ = some (.int .i64 b)) :
    Calls Try.prog 26 #[.int .i64 (k : Int), .pointer (some ⟨pa, 0, none⟩), .pointer (some ⟨pb, 0, none⟩)] w fun e w' => e = .returned (.tuple #[.int .i64 (clamp (rne (za k * b) (2 ^ 20))), .bool (great (rne (za k * b) (2 ^ 20))), .nilIface]) ∧ Below w.heap.size w w' := by
  obtain ⟨xa, hao, hca⟩ := ha.get
  obtain rfl := hao (by omega)
  have h1 := ha.le
  have h2 := ha.cap
  have c1 := hca k hk
  have HM : Hid (∀ W, Calls Try.prog 27 #[.int .i64 (za k), .int .i64 b, .int .i64 20] W fun e w' => e = .returned (.tuple #[.int .i64 (clamp (rne (za k * b) (2 ^ 20))), .bool (great (rne (za k * b) (2 ^ 20))), .nilIface]) ∧ Below W.heap.size W w') := fun W => qmul_lit (za k) b 20 20 W rfl (ba k).1 (ba k).2 b0 b1 (by omega)
  obtain ⟨X, hX⟩ : ∃ X, X = clamp (rne (za k * b) (2 ^ 20)) := ⟨_, rfl⟩
  obtain ⟨Y, hY⟩ : ∃ Y, Y = great (rne (za k * b) (2 ^ 20)) := ⟨_, rfl⟩
  rw [← hX, ← hY] at HM
  rw [← hX, ← hY]
  obtain ⟨P, hP⟩ : ∃ P, P = za k := ⟨_, rfl⟩
  rw [← hP] at HM c1
  clear hao hca ha ba hP hX hY
  go_enter Try.func26, Try.ntmps26
  go_wp2
  go_region_held3 (fun w' => w'.cell? ⟨pa, 0, none⟩ = some (.slice (some xa) n ca) ∧ w'.cell? ⟨pb, 0, none⟩ = some (.int .i64 b) ∧ w'.cell? (xa.add k) = some (.int .i64 P)) (first | exact ⟨cp, cq, c1⟩ | exact ⟨keep_cell kk cp, keep_cell kk cq, keep_cell kk c1⟩ | go_keep)
    (first | (go_at_call 27; refine (HM.out _).mono ?_; rintro e w2 ⟨rfl, k2⟩; have kk := below_tr (Vc.below_drew' w) k2))
  all_goals go_wp2
  all_goals go_ret3
  all_goals exact ⟨rfl, kk⟩

set_option maxRecDepth 10000 in
set_option maxHeartbeats 1000000 in
theorem vscale_any (n ca : Nat) (b : Int) (ao : Option Addr) (za : Nat → Int) (w : World) (hn : n ≤ 6) (ha : Sl w ao n ca za) (ba : B64 za) (b0 : -9223372036854775808 ≤ b) (b1 : b ≤ 9223372036854775807) :
    Calls Try.prog 19 #[.slice ao n ca, .int .i64 b] w fun e w' => ∃ co cc, e = .returned (.tuple #[.slice co n cc, .bool (anyb (fun k => great (rne (za k * b) (2 ^ 20))) n), .nilIface]) ∧ Sl w' co n cc (fun k => clamp (rne (za k * b) (2 ^ 20))) ∧ Below w.heap.size w w' := by
  have hW := below_al (below_al (below_al (Below.refl _ w) (.cells #[.slice ao n ca] 22)) (.cells #[.int .i64 b] 2)) (.cells #[.slice ao n ca] 22)
  have d1 : (((w.alloc (.cells #[.slice ao n ca] 22)).alloc (.cells #[.int .i64 b] 2)).alloc (.cells #[.slice ao n ca] 22)).cell? ⟨w.heap.size, 0, none⟩ = some (.slice ao n ca) := by go_simp
  have d2 : (((w.alloc (.cells #[.slice ao n ca] 22)).alloc (.cells #[.int .i64 b] 2)).alloc (.cells #[.slice ao n ca] 22)).cell? ⟨w.heap.size + 1, 0, none⟩ = some (.int .i64 b) := by go_simp
  have d3 : (((w.alloc (.cells #[.slice ao n ca] 22)).alloc (.cells #[.int .i64 b] 2)).alloc (.cells #[.slice ao n ca] 22)).cell? ⟨w.heap.size + 1 + 1, 0, none⟩ = some (.slice ao n ca) := by go_simp
  have H := Hid.mkV (byPart_Scale (.pointer (some ⟨w.heap.size, 0, none⟩)) (.pointer (some ⟨w.heap.size + 1, 0, none⟩)) ⟨w.heap.size + 1 + 1, 0, none⟩ 1 1 n ca ao (fun k => clamp (rne (za k * b) (2 ^ 20))) (fun k => great (rne (za k * b) (2 ^ 20))) _ (by omega) (by omega) (by omega) d3 hn
    (alike_yes _ 1 1 _ n _ _ (Sls.one d3) (by omega) hn)
    (fun k hk w1 b2 => vscale1_any k n ca b ao za w.heap.size (w.heap.size + 1) w1 hk (ha.keep (below_tr hW b2)) ba b0 b1 (keep_cell b2 d1) (keep_cell b2 d2)))
  clear d1 d2 d3 ha ba
  go_enter Try.func19, Try.ntmps19
  go_wp2_with fail
  refine H.out.mono ?_
  rintro e w1 ⟨co, cc, rfl, hs, k1⟩
  go_wp2
  go_ret3
  exact ⟨co, cc, rfl, hs, below_tr hW k1⟩

set_option maxRecDepth 10000 in
set_option maxHeartbeats 1000000 in
theorem vscale_err (n ca : Nat) (b : Int) (ao : Option Addr) (w : World) (hn : n ≤ 9223372036854775807) (h : 6 < n) :
    Calls Try.prog 19 #[.slice ao n ca, .int .i64 b] w fun e w' => e = .returned (.tuple #[.slice none 0 0, .bool false, .iface 37 (.int .i64 1)]) ∧ Below w.heap.size w w' := by
  have hW := below_al (below_al (below_al (Below.refl _ w) (.cells #[.slice ao n ca] 22)) (.cells #[.int .i64 b] 2)) (.cells #[.slice ao n ca] 22)
  have d3 : (((w.alloc (.cells #[.slice ao n ca] 22)).alloc (.cells #[.int .i64 b] 2)).alloc (.cells #[.slice ao n ca] 22)).cell? ⟨w.heap.size + 1 + 1, 0, none⟩ = some (.slice ao n ca) := by go_simp
  have hal := alike_no _ 1 1 _ _ _ _ (Sls.one d3) 0 (by omega) (fun _ _ => hn) (Or.inr h) (fun k hk => by omega)
  have H := Hid.mkV (byPart_err (.func (.func 26) #[] #[.pointer (some ⟨w.heap.size, 0, none⟩), .pointer (some ⟨w.heap.size + 1, 0, none⟩)]) _ 1 1 _ hal)
  clear d3 hal h
  go_enter Try.func19, Try.ntmps19
  go_wp2_with fail
  refine H.out.mono ?_
  rintro e w1 ⟨rfl, k1⟩
  go_wp2
  go_ret3
  exact ⟨rfl, below_tr hW k1⟩

/-- The greatest size of the first parts. -/
def Vc.mxs (z : Nat → Int) : Nat → Int
  | 0 => 0
  | k + 1 => max (max (Vc.mxs z k) (clamp (z k))) (-(clamp (z k)))

theorem Vc.mxs_bd (z : Nat → Int) : ∀ n, 0 ≤ Vc.mxs z n ∧ Vc.mxs z n ≤ 4611686018427387903
  | 0 => by unfold Vc.mxs; omega
  | n + 1 => by
    have h := Vc.mxs_bd z n
    have c := clamp_bd (z n)
    unfold Vc.mxs
    omega

set_option maxRecDepth 10000 in
set_option maxHeartbeats 1000000 in
theorem vsize_any (n ca : Nat) (ao : Option Addr) (z : Nat → Int) (w : World) (ha : Sl w ao n ca z) :
    Calls Try.prog 8 #[.slice ao n ca] w fun e w' => e = .returned (.int .i64 (Vc.mxs z n)) ∧ w' = w := by
  obtain ⟨xa, hao, hca⟩ := ha.get
  have h1 := ha.le
  have h2 := ha.cap
  have HAO := Hid.mkV hao
  have HCA := Hid.mkV hca
  have HB := Hid.mkV (Vc.mxs_bd z)
  clear ha hao hca
  go_enter Try.func8, Try.ntmps8
  go_wp2
  go_loopw [3, 10] (fun g i wr => ∃ k : Nat, k ≤ n ∧ i = .int .i64 (k : Int) ∧ g = .int .i64 (Vc.mxs z k) ∧ wr = w) (fun _ i _ => n - (intOf i).toNat)
  case atStart => exact ⟨0, by omega, rfl, rfl, rfl⟩
  case round =>
    obtain ⟨k, hk, rfl, rfl, rfl⟩ := hrel
    by_cases h : k < n
    · obtain rfl := HAO.out (by omega)
      have c1 := HCA.out k h
      have HM : Hid (Vc.mxs z (k + 1) = max (max (Vc.mxs z k) (clamp (z k))) (-(clamp (z k)))) := rfl
      have hb := HB.out k
      have cb := clamp_bd (z k)
      have HC := Hid.mkV (clamp_any (z k))
      obtain ⟨M, hM⟩ : ∃ M, M = Vc.mxs z k := ⟨_, rfl⟩
      obtain ⟨X, hX⟩ : ∃ X, X = clamp (z k) := ⟨_, rfl⟩
      obtain ⟨P, hP⟩ : ∃ P, P = z k := ⟨_, rfl⟩
      rw [← hM] at HM hb
      rw [← hM]
      rw [← hX] at HM cb HC
      rw [← hP] at c1 HC
      clear hM hX hP
      go_wp2_with fail
      refine (HC.out _).mono ?_
      rintro e w2 ⟨rfl, rfl⟩
      go_wp2
      all_goals go_roundw
      all_goals first
        | (simp [intOf]; omega)
        | exact ⟨k + 1, by omega, by go_num, by rw [HM.out]; first | rfl | (congr 1; omega), trivial⟩
        | trace_state
    · obtain rfl : k = n := by omega
      go_wp2
      go_ret
      exact ⟨rfl, rfl⟩

end Go.Proofs.Ytopffbidnpimcaa
