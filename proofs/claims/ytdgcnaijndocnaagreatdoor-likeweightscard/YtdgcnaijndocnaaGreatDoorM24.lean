/-
  The document's answer of layer 6 (radomeref06): times, Exp.
-/
import Derived.Test.YtdgcnaijndocnaaGreatDoorM1
import Derived.Test.YtdgcnaijndocnaaGreatDoorM4
import Derived.Test.YtdgcnaijndocnaaGreatDoorLgV
import Derived.Test.YtdgcnaijndocnaaGreatDoorM14
import Derived.Test.YtdgcnaijndocnaaGreatDoorM3
import Derived.Deep.DeepCutAuto
import Derived.Deep.RegionHeld3
import Derived.Deep.CutRange
import Derived.Deep.RegionWith
import Derived.Test.YtdgcnaijndocnaaGreatDoorM21
set_option linter.unusedSimpArgs false
set_option linter.unusedVariables false
namespace Go.Proofs.YtdgcnaijndocnaaGreatDoor
open Go.RowKit Dec
attribute [local go_sem ↓] Go.wp_at_zero Go.wp_at_succ

theorem Hid.mkR {p : Prop} (h : p) : Hid p := h

/-- The document's product of two numbers: Dot of one by one. -/
theorem ldot_one (a b : Int) (p : Nat) (w : World) (ha0 : -9223372036854775808 ≤ a) (ha1 : a ≤ 9223372036854775807) (hb0 : -9223372036854775808 ≤ b) (hb1 : b ≤ 9223372036854775807) (hp : p ≤ 62) :
    Calls Tryz.prog 37 #[.slice (some ⟨w.heap.size, 0, none⟩) 1 1, .slice (some ⟨w.heap.size + 1, 0, none⟩) 1 1, .int .i64 p] ((w.alloc (.cells #[.int .i64 a] 2)).alloc (.cells #[.int .i64 b] 2)) fun e w' =>
      e = .returned (.tuple #[.int .i64 (Qn.clamp (Qn.rne (a * b) (2 ^ p))), .bool (Qn.great (Qn.rne (a * b) (2 ^ p)))]) ∧ Below w.heap.size w w' := by
  have hA : ((w.alloc (.cells #[.int .i64 a] 2)).alloc (.cells #[.int .i64 b] 2)).heap[w.heap.size]? = some (.cells #[.int .i64 a] 2 (0, 0)) := by
    rw [Below.heap_alloc _ _ _ (by simp)]; exact heap_alloc_new w _
  have hB : ((w.alloc (.cells #[.int .i64 a] 2)).alloc (.cells #[.int .i64 b] 2)).heap[w.heap.size + 1]? = some (.cells #[.int .i64 b] 2 (0, 0)) := by
    have h := heap_alloc_new (w.alloc (.cells #[.int .i64 a] 2)) (.cells #[.int .i64 b] 2)
    rwa [show (w.alloc (.cells #[.int .i64 a] 2)).heap.size = w.heap.size + 1 by simp] at h
  have h := ldot_any (some ⟨w.heap.size, 0, none⟩) (some ⟨w.heap.size + 1, 0, none⟩) ⟨w.heap.size, 0, none⟩ ⟨w.heap.size + 1, 0, none⟩ 1 1 1 (fun _ => a) (fun _ => b) p
    ((w.alloc (.cells #[.int .i64 a] 2)).alloc (.cells #[.int .i64 b] 2)) (by omega) (fun _ => rfl) (fun _ => rfl)
    (fun k hk => by obtain rfl : k = 0 := by omega
                    exact (cell_of_row _ _ 0 _ _ (0, 0) hA).trans rfl)
    (fun k hk => by obtain rfl : k = 0 := by omega
                    exact (cell_of_row _ _ 0 _ _ (0, 0) hB).trans rfl)
    (fun _ => ⟨ha0, ha1⟩) (fun _ => ⟨hb0, hb1⟩) hp
  have e1 : Dt.dk (fun _ => a) (fun _ => b) 1 = a * b := by show 0 + a * b = _; omega
  rw [e1] at h
  refine h.mono ?_
  rintro e w1 ⟨rfl, k1⟩
  exact ⟨rfl, below_tr (below_al (below_al (Below.refl _ _) _) _) k1⟩

set_option maxHeartbeats 400000 in
theorem rtimes_any (a b : Int) (w : World) (ha0 : -9223372036854775808 ≤ a) (ha1 : a ≤ 9223372036854775807) (hb0 : -9223372036854775808 ≤ b) (hb1 : b ≤ 9223372036854775807) :
    Calls Tryz.prog 104 #[.int .i64 a, .int .i64 b] w fun e w' => e = .returned (.int .i64 (Gw.tim a b)) ∧ Below w.heap.size w w' := by
  go_enter Tryz.func104, Tryz.ntmps104
  go_wp2_with fail
  refine (ldot_one a b 50 w ha0 ha1 hb0 hb1 (by omega)).mono ?_
  rintro e w1 ⟨rfl, k1⟩
  go_wp2
  go_ret
  exact ⟨rfl, k1⟩

namespace Gw
/-- A number in a variable's block. -/
def NumAt (w : World) (g : Nat) (z : Int) : Prop := ∃ a L c, Row2 w g (.bool (decide (z < 0))) (.slice a L c) ∧ IsNum w (.agg #[.bool (decide (z < 0)), .slice a L c]) z
theorem NumAt.keep {w w' : World} {g : Nat} {z : Int} (h : NumAt w g z) (hb : Below w.heap.size w w') : NumAt w' g z := by
  obtain ⟨a, L, c, h1, h2⟩ := h
  exact ⟨a, L, c, h1.keep hb, h2.below hb⟩
theorem numAt_new {w : World} {v : Value} {z : Int} (h : IsNum w v z) : ∃ a L c, v = .agg #[.bool (decide (z < 0)), .slice a L c] ∧ NumAt (w.alloc (.cells #[.bool (decide (z < 0)), .slice a L c] 93)) w.heap.size z := by
  obtain ⟨a, L, c, rfl⟩ := h.form
  exact ⟨a, L, c, rfl, a, L, c, row2_new w _ _, h.below (below_al (Below.refl _ _) _)⟩
theorem NumAt.lt {w : World} {g : Nat} {z : Int} (h : NumAt w g z) : g < w.heap.size := by
  obtain ⟨a, L, c, h1, h2⟩ := h
  exact h1.lt
theorem NumAt.other {w : World} {g g' : Nat} {z : Int} (h : NumAt w g z) (hne : g ≠ g') {p : Bool} {ao : Option Addr} {n c : Nat} (hr : Row2 w g' (.bool p) (.slice ao n c)) (u0 u1 : Value) : NumAt ((w.setCell ⟨g', 0, none⟩ u0).setCell ⟨g', 1, none⟩ u1) g z := by
  obtain ⟨a, L, c, h1, h2⟩ := h
  exact ⟨a, L, c, h1.other2 hne u0 u1, h2.row2 hr u0 u1⟩
theorem NumAt.set {w : World} {g : Nat} {z' : Int} {a : Option Addr} {L c : Nat} (h : IsNum w (.agg #[.bool (decide (z' < 0)), .slice a L c]) z') {p : Bool} {ao : Option Addr} {n cc : Nat} (hr : Row2 w g (.bool p) (.slice ao n cc)) :
    NumAt ((w.setCell ⟨g, 0, none⟩ (.bool (decide (z' < 0)))).setCell ⟨g, 1, none⟩ (.slice a L c)) g z' := ⟨a, L, c, hr.set2 _ _, h.row2 hr _ _⟩
theorem NumAt.row {w : World} {g : Nat} {z : Int} (h : NumAt w g z) : ∃ a L c, w.cell? ⟨g, 0, none⟩ = some (.bool (decide (z < 0))) ∧ w.cell? ⟨g, 1, none⟩ = some (.slice a L c) ∧ w.frozen? ⟨g, 0, none⟩ = false ∧ w.frozen? ⟨g, 1, none⟩ = false ∧ IsNum w (.agg #[.bool (decide (z < 0)), .slice a L c]) z ∧ Row2 w g (.bool (decide (z < 0))) (.slice a L c) := by
  obtain ⟨a, L, c, h1, h2⟩ := h
  exact ⟨a, L, c, h1.c0, h1.c1, h1.free 0, h1.free 1, h2, h1⟩
theorem len18 {n : Int} (h0 : -1000000000000000000000000000000 ≤ n) (h1 : n ≤ 1000000000000000000000000000000) : (digs n.natAbs).length ≤ 800000 := by
  have := length_digs_le (show n.natAbs < 10 ^ 31 by omega)
  omega
end Gw
end Go.Proofs.YtdgcnaijndocnaaGreatDoor

/-
  The document's answer of layer 6 (radomeref06): Exp.
-/
set_option linter.unusedSimpArgs false
set_option linter.unusedVariables false
namespace Go.Proofs.YtdgcnaijndocnaaGreatDoor
open Go.RowKit Dec Gw
attribute [local go_sem ↓] Go.wp_at_zero Go.wp_at_succ

namespace Gw
theorem num_zero (w : World) : IsNum w (.agg #[.bool (decide ((0 : Int) < 0)), .slice none 0 0]) 0 := ⟨.slice none 0 0, rfl, Or.inl ⟨rfl, rfl⟩⟩
theorem cell_set2 {w : World} {g g' j : Nat} {v : Value} (h : w.cell? ⟨g, j, none⟩ = some v) (hne : ¬ g = g') (u0 u1 : Value) : ((w.setCell ⟨g', 0, none⟩ u0).setCell ⟨g', 1, none⟩ u1).cell? ⟨g, j, none⟩ = some v := by
  have hn : ∀ i j : Nat, (⟨g', i, none⟩ : Addr) ≠ ⟨g, j, none⟩ := fun i j e => hne (Addr.mk.inj e).1.symm
  rw [World.cell?_setCell_other _ _ _ _ (hn 1 j), World.cell?_setCell_other _ _ _ _ (hn 0 j)]
  exact h
/-- Two numbers into two variables, wherever their blocks were made: both new; one elder; both elder. -/
theorem end2 {B : Nat} {w w5 : World} {z1 z2 : Int} {a1 a2 : Option Addr} {L1 c1 L2 c2 : Nat} (hB : Below B w w5)
    (i1 : IsNum w5 (.agg #[.bool (decide (z1 < 0)), .slice a1 L1 c1]) z1) (i2 : IsNum w5 (.agg #[.bool (decide (z2 < 0)), .slice a2 L2 c2]) z2) (hs : B ≤ w5.heap.size) :
    NumAt ((w5.alloc (.cells #[.bool (decide (z1 < 0)), .slice a1 L1 c1] 93)).alloc (.cells #[.bool (decide (z2 < 0)), .slice a2 L2 c2] 93)) w5.heap.size z1 ∧
    NumAt ((w5.alloc (.cells #[.bool (decide (z1 < 0)), .slice a1 L1 c1] 93)).alloc (.cells #[.bool (decide (z2 < 0)), .slice a2 L2 c2] 93)) (w5.heap.size + 1) z2 ∧
    Below B w ((w5.alloc (.cells #[.bool (decide (z1 < 0)), .slice a1 L1 c1] 93)).alloc (.cells #[.bool (decide (z2 < 0)), .slice a2 L2 c2] 93)) :=
  ⟨⟨a1, L1, c1, (row2_new w5 _ _).alloc _, (i1.alloc _).alloc _⟩, ⟨a2, L2, c2, row2_at (w5.alloc _) (by simp) _ _, (i2.alloc _).alloc _⟩, hB.trans ((below_al (below_al (Below.refl _ _) _) _).mono hs)⟩
theorem end1 {B g : Nat} {w w5 : World} {z1 z2 : Int} {a1 a2 : Option Addr} {L1 c1 L2 c2 : Nat} (hB : Below B w w5) {p : Bool} {ao : Option Addr} {n cc : Nat} (r : Row2 w5 g (.bool p) (.slice ao n cc)) (hg : B ≤ g)
    (i1 : IsNum w5 (.agg #[.bool (decide (z1 < 0)), .slice a1 L1 c1]) z1) (i2 : IsNum w5 (.agg #[.bool (decide (z2 < 0)), .slice a2 L2 c2]) z2) (hs : B ≤ w5.heap.size) :
    NumAt (((w5.setCell ⟨g, 0, none⟩ (.bool (decide (z1 < 0)))).setCell ⟨g, 1, none⟩ (.slice a1 L1 c1)).alloc (.cells #[.bool (decide (z2 < 0)), .slice a2 L2 c2] 93)) g z1 ∧
    NumAt (((w5.setCell ⟨g, 0, none⟩ (.bool (decide (z1 < 0)))).setCell ⟨g, 1, none⟩ (.slice a1 L1 c1)).alloc (.cells #[.bool (decide (z2 < 0)), .slice a2 L2 c2] 93)) w5.heap.size z2 ∧
    Below B w (((w5.setCell ⟨g, 0, none⟩ (.bool (decide (z1 < 0)))).setCell ⟨g, 1, none⟩ (.slice a1 L1 c1)).alloc (.cells #[.bool (decide (z2 < 0)), .slice a2 L2 c2] 93)) :=
  ⟨⟨a1, L1, c1, (r.set2 _ _).alloc _, (i1.row2 r _ _).alloc _⟩, ⟨a2, L2, c2, row2_after2 w5 g _ _ _ _, (i2.row2 r _ _).alloc _⟩, (below_set2 hB hg _ _).trans ((below_al (Below.refl _ _) _).mono (by simpa using hs))⟩
theorem end0 {B g g' : Nat} {w w5 : World} {z1 z2 : Int} {a1 a2 : Option Addr} {L1 c1 L2 c2 : Nat} (hB : Below B w w5) {p p' : Bool} {ao ao' : Option Addr} {n cc n' cc' : Nat} (r : Row2 w5 g (.bool p) (.slice ao n cc)) (r' : Row2 w5 g' (.bool p') (.slice ao' n' cc')) (hg : B ≤ g) (hg' : B ≤ g') (hne : g ≠ g')
    (i1 : IsNum w5 (.agg #[.bool (decide (z1 < 0)), .slice a1 L1 c1]) z1) (i2 : IsNum w5 (.agg #[.bool (decide (z2 < 0)), .slice a2 L2 c2]) z2) :
    NumAt ((((w5.setCell ⟨g, 0, none⟩ (.bool (decide (z1 < 0)))).setCell ⟨g, 1, none⟩ (.slice a1 L1 c1)).setCell ⟨g', 0, none⟩ (.bool (decide (z2 < 0)))).setCell ⟨g', 1, none⟩ (.slice a2 L2 c2)) g z1 ∧
    NumAt ((((w5.setCell ⟨g, 0, none⟩ (.bool (decide (z1 < 0)))).setCell ⟨g, 1, none⟩ (.slice a1 L1 c1)).setCell ⟨g', 0, none⟩ (.bool (decide (z2 < 0)))).setCell ⟨g', 1, none⟩ (.slice a2 L2 c2)) g' z2 ∧
    Below B w ((((w5.setCell ⟨g, 0, none⟩ (.bool (decide (z1 < 0)))).setCell ⟨g, 1, none⟩ (.slice a1 L1 c1)).setCell ⟨g', 0, none⟩ (.bool (decide (z2 < 0)))).setCell ⟨g', 1, none⟩ (.slice a2 L2 c2)) :=
  have r2 := r'.other2 (Ne.symm hne) (.bool (decide (z1 < 0))) (.slice a1 L1 c1)
  ⟨NumAt.other ⟨a1, L1, c1, r.set2 _ _, i1.row2 r _ _⟩ hne r2 _ _, ⟨a2, L2, c2, r2.set2 _ _, (i2.row2 r _ _).row2 r2 _ _⟩, below_set2 (below_set2 hB hg _ _) hg' _ _⟩
end Gw

set_option maxRecDepth 20000 in
set_option maxHeartbeats 2000000 in
theorem rexp_any (x : Int) (w : World) (h0 : x ≤ 0) (h1 : -9223372036854775808 ≤ x) :
    Calls Tryz.prog 44 #[.int .i64 x] w fun e w' => e = .returned (.int .i64 (Gw.ex x)) ∧ Below w.heap.size w w' := by
  by_cases hx : x < -47185920
  · go_enter Tryz.func44, Tryz.ntmps44
    go_wp2
    go_ret
    exact ⟨by unfold Gw.ex; rw [if_pos hx]; rfl, Below.refl _ _⟩
  · have hY : (-x) * ((2 ^ 30 : Nat) : Int) = -x * 1073741824 := by rw [show ((2 ^ 30 : Nat) : Int) = 1073741824 from rfl]
    obtain ⟨Y, hYe⟩ : ∃ Y, Y = -x * 1073741824 := ⟨_, rfl⟩
    have hY0 : 0 ≤ Y := by omega
    have hY1 : Y ≤ 50665496807930880 := by omega
    have hK : Y / 780414346020670 = hv x := by rw [hYe]; rfl
    have hR : Y % 780414346020670 = rs x := by rw [hYe]; rfl
    have bK := hv_bd h0 (show -47185920 ≤ x by omega)
    have bR := rs_bd x
    have hEx : Gw.ex x = Qn.rne (ps (rs x) 21) (2 ^ (20 + (hv x).toNat)) := by unfold Gw.ex; rw [if_neg hx]
    have bE := ex_bd h0 (show -47185920 ≤ x by omega)
    obtain ⟨K, hKe⟩ : ∃ K : Nat, K = (hv x).toNat := ⟨_, rfl⟩
    obtain ⟨R, hRe⟩ : ∃ R, R = rs x := ⟨_, rfl⟩
    have hKe' : hv x = (K : Int) := by omega
    rw [hKe'] at hK bK
    rw [← hRe] at hR bR hEx
    rw [← hKe] at hEx
    obtain ⟨E, hE⟩ : ∃ E, E = Gw.ex x := ⟨_, rfl⟩
    rw [← hE] at hEx bE ⊢
    have HE := Hid.mkR hEx
    have HY := Hid.mkR hY
    have HYe := Hid.mkR hYe
    have HK := Hid.mkR hK
    have HR := Hid.mkR hR
    clear hE hEx hKe hKe' hRe hY hYe hK hR
    have OFx := Hid.mkR (fun W => of_any (-x) W (by omega) (by omega))
    have T30 := Hid.mkR (fun W => two_any 30 W (by omega))
    have MU := Hid.mkR (fun va vb W => mul_any va vb (-x) ((2 ^ 30 : Nat) : Int) W (by have := len18 (n := -x) (by omega) (by omega); omega) (by have := len18 (n := ((2 ^ 30 : Nat) : Int)) (by decide) (by decide); omega))
    rw [HY.out, ← HYe.out] at MU
    have OFL := Hid.mkR (fun W => of_any 780414346020670 W (by omega) (by omega))
    have DV := Hid.mkR (fun va vb W => div_pos va vb Y 780414346020670 W hY0 (by have := len18 (n := Y) (by omega) (by omega); omega) (by omega) (by have := len18 (n := 780414346020670) (by omega) (by omega); omega))
    rw [HK.out, HR.out] at DV
    have SM := Hid.mkR (fun v z W (z0 : -9223372036854775807 ≤ z) (z1 : z ≤ 9223372036854775807) => small_any v z W z0 z1)
    clear HY HYe HK HR hY0 hY1
    go_enter Tryz.func44, Tryz.ntmps44
    go_wp2_with fail
    refine (OFx.out _).mono ?_
    rintro e w1 ⟨v1, rfl, i1, k1⟩
    go_wp2_with fail
    refine (T30.out _).mono ?_
    rintro e w2 ⟨v2, rfl, i2, k2⟩
    go_wp2_with fail
    refine (MU.out _ _ _ (i1.below k2) i2).mono ?_
    rintro e w3 ⟨v3, rfl, i3, k3⟩
    obtain ⟨a3, L3, c3, rfl, n3⟩ := numAt_new i3
    have K3 := below_al (below_tr (below_tr k1 k2) k3) (Obj.cells #[.bool (decide (Y < 0)), .slice a3 L3 c3] 93)
    clear k1 k2 k3 i1 i2 i3 OFx T30 MU
    go_upto_region 4 with fail
    obtain ⟨a, L, c, x0, x1, f0, f1, ix, rx⟩ := n3.row
    clear n3 f0 f1 rx
    generalize w3.alloc (Obj.cells #[.bool (decide (Y < 0)), .slice a3 L3 c3] 93) = W at *
    generalize w3.heap.size = g at *
    go_cut [4, 5] (fun p q wx => ∃ gk gr : Nat, p = .pointer (some ⟨gk, 0, none⟩) ∧ q = .pointer (some ⟨gr, 0, none⟩) ∧ NumAt wx gk (K : Int) ∧ NumAt wx gr R ∧ w.heap.size ≤ gk ∧ w.heap.size ≤ gr ∧ Below w.heap.size w wx)
    case first =>
      have hgl : g < W.heap.size := World.block_lt_of_cell? W _ x0
      have ng1 : ¬ g = W.heap.size := by omega
      have ng2 : ¬ g = W.heap.size + 1 := by omega
      go_region_held3 (fun w' => w'.cell? ⟨g, 0, none⟩ = some (.bool (decide (Y < 0))) ∧ w'.cell? ⟨g, 1, none⟩ = some (.slice a L c)) (first
          | with_reducible exact ⟨x0, x1⟩
          | with_reducible exact ⟨keep_drew x0, keep_drew x1⟩
          | with_reducible exact ⟨(keep_alloc _ x0), (keep_alloc _ x1)⟩
          | with_reducible exact ⟨keep_drew (keep_alloc _ x0), keep_drew (keep_alloc _ x1)⟩
          | with_reducible exact ⟨(keep_alloc _ (keep_alloc _ x0)), (keep_alloc _ (keep_alloc _ x1))⟩
          | with_reducible exact ⟨keep_drew (keep_alloc _ (keep_alloc _ x0)), keep_drew (keep_alloc _ (keep_alloc _ x1))⟩
          | with_reducible exact ⟨y0, y1⟩
          | with_reducible exact ⟨(keep_alloc _ y0), (keep_alloc _ y1)⟩
          | with_reducible exact ⟨(keep_alloc _ (keep_alloc _ y0)), (keep_alloc _ (keep_alloc _ y1))⟩
          | with_reducible exact ⟨u0, u1⟩
          | with_reducible exact ⟨(keep_alloc _ u0), (keep_alloc _ u1)⟩
          | with_reducible exact ⟨(keep_alloc _ (keep_alloc _ u0)), (keep_alloc _ (keep_alloc _ u1))⟩
          | with_reducible exact ⟨cell_set2 u0 (by assumption) _ _, cell_set2 u1 (by assumption) _ _⟩
          | with_reducible exact ⟨keep_alloc _ (cell_set2 u0 (by assumption) _ _), keep_alloc _ (cell_set2 u1 (by assumption) _ _)⟩
          | with_reducible exact ⟨cell_set2 (cell_set2 u0 (by assumption) _ _) (by assumption) _ _, cell_set2 (cell_set2 u1 (by assumption) _ _) (by assumption) _ _⟩
          | with_reducible exact ⟨cell_set2 (keep_alloc _ u0) (by assumption) _ _, cell_set2 (keep_alloc _ u1) (by assumption) _ _⟩
          | with_reducible exact ⟨keep_alloc _ (cell_set2 (keep_alloc _ u0) (by assumption) _ _), keep_alloc _ (cell_set2 (keep_alloc _ u1) (by assumption) _ _)⟩
          | with_reducible exact ⟨cell_set2 (cell_set2 (keep_alloc _ u0) (by assumption) _ _) (by assumption) _ _, cell_set2 (cell_set2 (keep_alloc _ u1) (by assumption) _ _) (by assumption) _ _⟩)
        (first
          | (go_at_call 35; refine (OFL.out _).mono ?_; rintro e w4 ⟨v4, rfl, i4, k4⟩
             have kX : Below W.heap.size W w4 := by first | exact below_tr (Below.refl _ _).drew k4 | exact below_tr (below_al (Below.refl _ _) _).drew k4 | exact below_tr (below_al (below_al (Below.refl _ _) _) _).drew k4
             have y0 := keep_cell kX x0
             have y1 := keep_cell kX x1
             have iy := ix.below kX
             have z4 := kX.size
             have ng3 : ¬ g = w4.heap.size := by omega
             have ng4 : ¬ g = w4.heap.size + 1 := by omega
             try (have r1 : Row2 w4 W.heap.size (.bool false) (.slice none 0 0) := by first | exact (row2_new W _ _).drew.keep k4 | exact ((row2_new W _ _).alloc _).drew.keep k4)
             try (have r2 : Row2 w4 (W.heap.size + 1) (.bool false) (.slice none 0 0) := (row2_at (W.alloc _) (by simp) _ _).drew.keep k4))
          | (go_at_call 103; refine (DV.out _ _ _ (iy.below ?_) (i4.below ?_)).mono ?_
             · first | exact Below.refl _ _ | exact below_al (Below.refl _ _) _ | exact below_al (below_al (Below.refl _ _) _) _
             · first | exact Below.refl _ _ | exact below_al (Below.refl _ _) _ | exact below_al (below_al (Below.refl _ _) _) _
             rintro e w5 ⟨v5, v6, rfl, i5, i6, k5⟩
             have kY : Below w4.heap.size w4 w5 := by first | exact k5 | exact below_tr (below_al (Below.refl _ _) _) k5 | exact below_tr (below_al (below_al (Below.refl _ _) _) _) k5
             obtain ⟨a5, L5, c5, e5⟩ := i5.form; subst e5; obtain ⟨a6, L6, c6, e6⟩ := i6.form; subst e6
             have z5 := kY.size
             have ng5 : ¬ g = w5.heap.size := by omega
             have ng6 : ¬ g = w5.heap.size + 1 := by omega
             have u0 := keep_cell kY y0
             have u1 := keep_cell kY y1
             try (have r1' := r1.keep kY; have q0 := r1'.c0; have q1 := r1'.c1; have q2 := r1'.free 0; have q3 := r1'.free 1; have q4 := fun o => (r1'.alloc o).c0; have q5 := fun o => (r1'.alloc o).c1; have q6 := fun o => (r1'.alloc o).free 0; have q7 := fun o => (r1'.alloc o).free 1; have rl := r1.lt; have rn : ¬ W.heap.size = w4.heap.size := (by omega); have rn' : ¬ w4.heap.size = W.heap.size := (by omega); have rl' := r1'.lt; have rn5 : ¬ W.heap.size = w5.heap.size := (by omega); have rn6 : ¬ w5.heap.size = W.heap.size := (by omega))
             try (have r2' := r2.keep kY; have q20 := r2'.c0; have q21 := r2'.c1; have q22 := r2'.free 0; have q23 := r2'.free 1)
             try (have s1 : Row2 w5 w4.heap.size (.bool false) (.slice none 0 0) := (by first | exact (row2_new w4 _ _).keep k5 | exact ((row2_new w4 _ _).alloc _).keep k5); have q10 := s1.c0; have q11 := s1.c1; have q12 := s1.free 0; have q13 := s1.free 1; have q14 := fun o => (s1.alloc o).c0; have q15 := fun o => (s1.alloc o).c1; have q16 := fun o => (s1.alloc o).free 0; have q17 := fun o => (s1.alloc o).free 1; have sl := s1.lt; have sn5 : ¬ w4.heap.size = w5.heap.size := (by omega); have sn6 : ¬ w5.heap.size = w4.heap.size := (by omega))
             try (have s2 : Row2 w5 (w4.heap.size + 1) (.bool false) (.slice none 0 0) := (row2_at (w4.alloc _) (by simp) _ _).keep k5; have q30 := s2.c0; have q31 := s2.c1; have q32 := s2.free 0; have q33 := s2.free 1)))
      all_goals go_wp2_with fail
      all_goals go_meet
      all_goals have z3 := K3.size
      all_goals have K5 : Below w.heap.size w w5 := (K3.trans (kX.mono z3)).trans (kY.mono (by omega))
      all_goals refine ⟨_, _, rfl, rfl, ?_⟩
      all_goals first
        | (have h := end2 K5 i5 i6 (by omega); with_reducible exact ⟨h.1, h.2.1, by omega, by omega, h.2.2⟩)
        | (have h := end2 K5 i6 i5 (by omega); with_reducible exact ⟨h.2.1, h.1, by omega, by omega, h.2.2⟩)
        | (have h := end1 K5 r1' (by omega) i5 i6 (by omega); with_reducible exact ⟨h.1, h.2.1, by omega, by omega, h.2.2⟩)
        | (have h := end1 K5 r1' (by omega) i6 i5 (by omega); with_reducible exact ⟨h.2.1, h.1, by omega, by omega, h.2.2⟩)
        | (have h := end1 K5 s1 (by omega) i5 i6 (by omega); with_reducible exact ⟨h.1, h.2.1, by omega, by omega, h.2.2⟩)
        | (have h := end1 K5 s1 (by omega) i6 i5 (by omega); with_reducible exact ⟨h.2.1, h.1, by omega, by omega, h.2.2⟩)
        | (have h := end0 K5 r1' s1 (by omega) (by omega) (by omega) i5 i6; with_reducible exact ⟨h.1, h.2.1, by omega, by omega, h.2.2⟩)
        | (have h := end0 K5 s1 r1' (by omega) (by omega) (by omega) i5 i6; with_reducible exact ⟨h.1, h.2.1, by omega, by omega, h.2.2⟩)
        | (have h := end0 K5 r1' r2' (by omega) (by omega) (by omega) i5 i6; with_reducible exact ⟨h.1, h.2.1, by omega, by omega, h.2.2⟩)
        | (have h := end0 K5 r2' r1' (by omega) (by omega) (by omega) i5 i6; with_reducible exact ⟨h.1, h.2.1, by omega, by omega, h.2.2⟩)
        | (have h := end0 K5 s1 s2 (by omega) (by omega) (by omega) i5 i6; with_reducible exact ⟨h.1, h.2.1, by omega, by omega, h.2.2⟩)
        | (have h := end0 K5 s2 s1 (by omega) (by omega) (by omega) i5 i6; with_reducible exact ⟨h.1, h.2.1, by omega, by omega, h.2.2⟩)
    case rest =>
      obtain ⟨gk, gr, rfl, rfl, nk, nr, hk, hr, KW⟩ := hcut
      clear x0 x1 ix K3 DV OFL
      obtain ⟨a7, L7, c7, x0, x1, _, _, ir, _⟩ := nr.row
      go_wp2_with fail
      refine (SM.out _ R _ (by omega) (by omega) ir).mono ?_
      rintro e w6 ⟨rfl, k6⟩
      have nk6 := nk.keep k6
      have K6 := below_tr KW k6
      have kl := nk6.lt
      clear nk nr x0 x1 ir KW k6
      have HTd := Hid.mkR (fun j => td_bd (r := R) (by omega) (by omega) j)
      have HPs := Hid.mkR (fun j => ps_bd (r := R) (by omega) (by omega) j)
      go_wp2
      go_loopw [8, 9] (fun t n wr => ∃ j : Nat, j ≤ 21 ∧ n = .int .i64 (j : Int) ∧ t = .int .i64 (td R j) ∧ NumAt wr w6.heap.size (ps R j) ∧ NumAt wr gk (K : Int) ∧ Below w.heap.size w wr) (fun _ n _ => 21 - (intOf n).toNat)
      case atStart => exact ⟨0, by omega, rfl, rfl, ⟨none, 0, 0, row2_new w6 _ _, num_zero _⟩, nk6.keep (below_al (Below.refl _ _) _), below_al K6 _⟩
      case round =>
        obtain ⟨j, hj, rfl, rfl, nS, nK, hB⟩ := hrel
        obtain ⟨a, L, c, x0, x1, f0, f1, is, rs⟩ := nS.row
        have hs6 : w.heap.size ≤ w6.heap.size := K6.size
        have hne : gk ≠ w6.heap.size := by omega
        by_cases hjk : j ≤ 20
        · have bt := HTd.out j
          have bs := HPs.out j
          have OFt := Hid.mkR (fun W => of_any (td R j) W (by omega) (by omega))
          have AD := Hid.mkR (fun va vb W => add_any va vb (ps R j) (td R j) W (by have := len18 (n := ps R j) (by omega) (by omega); omega) (by have := len18 (n := td R j) (by omega) (by omega); omega))
          have SB := Hid.mkR (fun va vb W => sub_any va vb (ps R j) (td R j) W (by have := len18 (n := ps R j) (by omega) (by omega); omega) (by have := len18 (n := td R j) (by omega) (by omega); omega))
          have TI := Hid.mkR (fun W => rtimes_any (td R j) R W (by omega) (by omega) (by omega) (by omega))
          have bq := (tim_eq (b := R) bt.1 bt.2 (by omega) (by omega) (by omega)).2
          have hT : (tim (td R j) R).tdiv ((j : Int) + 1) = td R (j + 1) := rfl
          by_cases he : j % 2 = 0
          · have hm : (j : Int).tmod 2 = 0 := by rw [Int.tmod_eq_emod_of_nonneg (by omega)]; omega
            rw [ps_even R j he] at AD
            obtain ⟨T, hT'⟩ : ∃ T, T = td R j := ⟨_, rfl⟩
            obtain ⟨T2, hT2⟩ : ∃ T, T = td R (j + 1) := ⟨_, rfl⟩
            obtain ⟨q, hq⟩ : ∃ q, q = tim (td R j) R := ⟨_, rfl⟩
            have bt2 := HTd.out (j + 1)
            rw [← hT2] at bt2
            rw [← hT2, ← hq] at hT
            rw [← hq] at bq TI
            rw [← hT'] at OFt TI bt AD ⊢
            have HT2 := Hid.mkR hT2
            clear hT' hT2 hq SB HTd
            go_wp2
            go_region_with (first
              | (go_at_call 35; refine (OFt.out _).mono ?_; rintro e w8 ⟨v8, rfl, i8, k8⟩; have y0 := keep_cell k8 x0; have y1 := keep_cell k8 x1)
              | (go_at_call 34; refine (AD.out _ _ _ (is.below (below_tr (Below.refl _ _).drew k8)) i8).mono ?_; rintro e w9 ⟨v9, rfl, i9, k9⟩; obtain ⟨a9, L9, c9, e9⟩ := i9.form; subst e9; have r9 := (rs.drew.keep k8).keep k9; have g0 := r9.c0; have g1 := r9.c1; have g2 := r9.free 0; have g3 := r9.free 1))
            all_goals go_wp2_with fail
            all_goals refine (TI.out _).mono ?_
            all_goals rintro e w10 ⟨rfl, k10⟩
            all_goals go_wp2
            all_goals go_roundw
            case rel => exact ⟨j + 1, by omega, by go_num, by rw [HT2.out], (NumAt.set i9 r9).keep k10, (((nK.keep (Below.refl _ _).drew).keep (below_tr k8 k9)).other hne r9 _ _).keep k10, below_tr (below_set2 (below_tr (below_tr hB.drew k8) k9) hs6 _ _) k10⟩
            case measure => simp [intOf]; omega
            case rel => exact ⟨j + 1, by omega, by go_num, by rw [HT2.out], (NumAt.set i9 r9).keep k10, (((nK.keep (Below.refl _ _).drew).keep (below_tr k8 k9)).other hne r9 _ _).keep k10, below_tr (below_set2 (below_tr (below_tr hB.drew k8) k9) hs6 _ _) k10⟩
            case measure => simp [intOf]; omega
          · have hm : (j : Int).tmod 2 = 1 := by rw [Int.tmod_eq_emod_of_nonneg (by omega)]; omega
            rw [ps_odd R j he] at SB
            obtain ⟨T, hT'⟩ : ∃ T, T = td R j := ⟨_, rfl⟩
            obtain ⟨T2, hT2⟩ : ∃ T, T = td R (j + 1) := ⟨_, rfl⟩
            obtain ⟨q, hq⟩ : ∃ q, q = tim (td R j) R := ⟨_, rfl⟩
            have bt2 := HTd.out (j + 1)
            rw [← hT2] at bt2
            rw [← hT2, ← hq] at hT
            rw [← hq] at bq TI
            rw [← hT'] at OFt TI bt SB ⊢
            have HT2 := Hid.mkR hT2
            clear hT' hT2 hq AD HTd
            go_wp2
            go_region_with (first
              | (go_at_call 35; refine (OFt.out _).mono ?_; rintro e w8 ⟨v8, rfl, i8, k8⟩; have y0 := keep_cell k8 x0; have y1 := keep_cell k8 x1)
              | (go_at_call 43; refine (SB.out _ _ _ (is.below (below_tr (Below.refl _ _).drew k8)) i8).mono ?_; rintro e w9 ⟨v9, rfl, i9, k9⟩; obtain ⟨a9, L9, c9, e9⟩ := i9.form; subst e9; have r9 := (rs.drew.keep k8).keep k9; have g0 := r9.c0; have g1 := r9.c1; have g2 := r9.free 0; have g3 := r9.free 1))
            all_goals go_wp2_with fail
            all_goals refine (TI.out _).mono ?_
            all_goals rintro e w10 ⟨rfl, k10⟩
            all_goals go_wp2
            all_goals go_roundw
            case rel => exact ⟨j + 1, by omega, by go_num, by rw [HT2.out], (NumAt.set i9 r9).keep k10, (((nK.keep (Below.refl _ _).drew).keep (below_tr k8 k9)).other hne r9 _ _).keep k10, below_tr (below_set2 (below_tr (below_tr hB.drew k8) k9) hs6 _ _) k10⟩
            case measure => simp [intOf]; omega
            case rel => exact ⟨j + 1, by omega, by go_num, by rw [HT2.out], (NumAt.set i9 r9).keep k10, (((nK.keep (Below.refl _ _).drew).keep (below_tr k8 k9)).other hne r9 _ _).keep k10, below_tr (below_set2 (below_tr (below_tr hB.drew k8) k9) hs6 _ _) k10⟩
            case measure => simp [intOf]; omega
        · obtain rfl : j = 21 := by omega
          have bs := HPs.out 21
          obtain ⟨D, hD⟩ : ∃ D : Nat, D = 20 + K := ⟨_, rfl⟩
          have hKd : 20 + (K : Int) = (D : Int) := by omega
          have hD2 : D ≤ 100 := by omega
          rw [← hD] at HE
          clear hD
          have TW : Hid (∀ (n : Int) (W : World), n = (D : Int) → Calls Tryz.prog 102 #[.int .i64 n] W fun e w' => ∃ v, e = .returned v ∧ IsNum w' v ((2 ^ D : Nat) : Int) ∧ Below W.heap.size W w') := Hid.mkR (fun n W hn => by rw [hn]; exact two_any D W (by omega))
          have RN := Hid.mkR (fun va vb W => round_any va vb (ps R 21) (2 ^ D) W (Nat.two_pow_pos _) (len18 (n := ps R 21) (by omega) (by omega)) (by have := len_two D; omega))
          have hE2 : Tn.rne (ps R 21) ((2 ^ D : Nat) : Int) = E := by rw [HE.out]; show Qn.rne _ _ = _; congr 1
          rw [hE2] at RN
          obtain ⟨Sv, hSv⟩ : ∃ s, s = ps R 21 := ⟨_, rfl⟩
          rw [← hSv] at RN is x0 rs
          clear hE2 HE HPs HTd hSv bs nS
          obtain ⟨b, M, d, v0, v1, _, _, ik, rk⟩ := nK.row
          go_wp2
          go_region_held3 (fun w' => w'.cell? ⟨w6.heap.size, 0, none⟩ = some (.bool (decide (Sv < 0))) ∧ w'.cell? ⟨w6.heap.size, 1, none⟩ = some (.slice a L c) ∧ w'.cell? ⟨gk, 0, none⟩ = some (.bool (decide ((K : Int) < 0))) ∧ w'.cell? ⟨gk, 1, none⟩ = some (.slice b M d))
            (first
              | with_reducible exact ⟨x0, x1, v0, v1⟩
              | with_reducible exact ⟨keep_drew x0, keep_drew x1, keep_drew v0, keep_drew v1⟩
              | with_reducible exact ⟨p0, p1, p2, p3⟩
              | with_reducible exact ⟨q0, q1, q2, q3⟩
              | with_reducible exact ⟨t0, t1, t2, t3⟩
              | with_reducible exact ⟨u0, u1, u2, u3⟩)
            (first
              | (go_at_call_of 83 (Value.slice b M d); refine (SM.out _ (K : Int) _ (by omega) (by omega) (ik.below (Below.refl _ _).drew)).mono ?_; rintro e w8 ⟨rfl, k8⟩; have p0 := keep_cell k8 x0; have p1 := keep_cell k8 x1; have p2 := keep_cell k8 v0; have p3 := keep_cell k8 v1; have i8 := is.below (below_tr (Below.refl _ _).drew k8))
              | (go_at_call 102; refine (TW.out _ _ ?_).mono ?_; (first | exact hKd | (simp only [wrap64, IntKind.wrap_i64]; omega)); rintro e w9 ⟨v9, rfl, i9, k9⟩; have q0 := keep_cell k9 p0; have q1 := keep_cell k9 p1; have q2 := keep_cell k9 p2; have q3 := keep_cell k9 p3; have j9 := i8.below k9)
              | (go_at_call 105; refine (RN.out _ _ _ j9 i9).mono ?_; rintro e w10 ⟨v10, rfl, i10, k10⟩; have t0 := keep_cell k10 q0; have t1 := keep_cell k10 q1; have t2 := keep_cell k10 q2; have t3 := keep_cell k10 q3)
              | (go_at_call 83; refine (SM.out _ E _ (by omega) (by omega) i10).mono ?_; rintro e w11 ⟨rfl, k11⟩; have u0 := keep_cell k11 t0; have u1 := keep_cell k11 t1; have u2 := keep_cell k11 t2; have u3 := keep_cell k11 t3))
          all_goals go_wp2
          all_goals go_ret
          all_goals exact ⟨rfl, below_tr (below_tr (below_tr (below_tr hB.drew k8) k9) k10) k11⟩
end Go.Proofs.YtdgcnaijndocnaaGreatDoor

/-
  The document's answer of layer 6 (radomeref06): Log.
-/
set_option linter.unusedSimpArgs false
set_option linter.unusedVariables false
namespace Go.Proofs.YtdgcnaijndocnaaGreatDoor
open Go.RowKit Dec Gw
attribute [local go_sem ↓] Go.wp_at_zero Go.wp_at_succ

namespace Gw
end Gw

end Go.Proofs.YtdgcnaijndocnaaGreatDoor
