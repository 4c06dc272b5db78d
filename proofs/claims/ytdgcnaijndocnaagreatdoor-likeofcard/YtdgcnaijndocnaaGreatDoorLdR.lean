/-
  The document's answer of layer 9 (radomeref09): dot, less, rest.
-/
import Derived.Test.YtdgcnaijndocnaaGreatDoorM21
import Derived.Test.YtdgcnaijndocnaaGreatDoorM5
import Derived.Test.YtdgcnaijndocnaaGreatDoorM4
import Derived.Test.YtdgcnaijndocnaaGreatDoorM6
import Derived.Test.YtdgcnaijndocnaaGreatDoorM10
import Derived.Deep.RegionHeld3
set_option linter.unusedSimpArgs false
set_option linter.unusedVariables false
namespace Go.Proofs.YtdgcnaijndocnaaGreatDoor
open Go.RowKit Vc Mt St Qn Dt Dec Ld
theorem ddot_sl (ao bo : Option Addr) (n ca cb : Nat) (za zb : Nat → Int) (q : Int) (b : Nat) (w : World) (hq : q = (b : Int)) (hn : n ≤ 64) (ha : Sl w ao n ca za) (hb : Sl w bo n cb zb) (ba : B64 za) (bb : B64 zb) (hp : b ≤ 62) :
    Calls Tryz.prog 81 #[.slice ao n ca, .slice bo n cb, .int .i64 q] w fun e w' => e = .returned (.tuple #[.int .i64 (clamp (rne (dk za zb n) (2 ^ b))), .bool (great (rne (dk za zb n) (2 ^ b)))]) ∧ Below w.heap.size w w' := by
  have HD := Hid.mkV (ldot_sl ao bo n ca cb za zb q b w hq hn ha hb ba bb hp)
  obtain ⟨V, hV⟩ : ∃ V, V = clamp (rne (dk za zb n) (2 ^ b)) := ⟨_, rfl⟩
  obtain ⟨g, hg⟩ : ∃ V, V = great (rne (dk za zb n) (2 ^ b)) := ⟨_, rfl⟩
  rw [← hV, ← hg] at HD ⊢
  clear hV hg ha hb ba bb hq
  go_enter Tryz.func81, Tryz.ntmps81
  go_wp2_with fail
  refine HD.out.mono ?_
  rintro e w1 ⟨rfl, k1⟩
  go_wp2
  go_ret2
  exact ⟨rfl, k1⟩
theorem ddot_one (a b q : Int) (p : Nat) (w : World) (hq : q = (p : Int)) (ha0 : -9223372036854775808 ≤ a) (ha1 : a ≤ 9223372036854775807) (hb0 : -9223372036854775808 ≤ b) (hb1 : b ≤ 9223372036854775807) (hp : p ≤ 62) :
    Calls Tryz.prog 81 #[.slice (some ⟨w.heap.size, 0, none⟩) 1 1, .slice (some ⟨w.heap.size + 1, 0, none⟩) 1 1, .int .i64 q] ((w.alloc (.cells #[.int .i64 a] 2)).alloc (.cells #[.int .i64 b] 2)) fun e w' =>
      e = .returned (.tuple #[.int .i64 (clamp (rne (a * b) (2 ^ p))), .bool (great (rne (a * b) (2 ^ p)))]) ∧ Below w.heap.size w w' := by
  have d1 : ((w.alloc (.cells #[.int .i64 a] 2)).alloc (.cells #[.int .i64 b] 2)).cell? ⟨w.heap.size, 0, none⟩ = some (.int .i64 a) := by go_simp
  have d2 : ((w.alloc (.cells #[.int .i64 a] 2)).alloc (.cells #[.int .i64 b] 2)).cell? ⟨w.heap.size + 1, 0, none⟩ = some (.int .i64 b) := by go_simp
  have h := ddot_sl (some ⟨w.heap.size, 0, none⟩) (some ⟨w.heap.size + 1, 0, none⟩) 1 1 1 (fun _ => a) (fun _ => b) q p _ hq (by omega) (Sl.one d1) (Sl.one d2) (fun _ => ⟨ha0, ha1⟩) (fun _ => ⟨hb0, hb1⟩) hp
  have e1 : dk (fun _ => a) (fun _ => b) 1 = a * b := by show 0 + a * b = _; omega
  rw [e1] at h
  refine h.mono ?_
  rintro e w1 ⟨rfl, k1⟩
  exact ⟨rfl, below_tr (below_al (below_al (Below.refl _ _) _) _) k1⟩
set_option maxHeartbeats 400000 in
theorem dless_any (a b : Int) (w : World) (ha0 : -9223372036854775808 ≤ a) (ha1 : a ≤ 9223372036854775807) (hb0 : -9223372036854775808 ≤ b) (hb1 : b ≤ 9223372036854775807) :
    Calls Tryz.prog 136 #[.int .i64 a, .int .i64 b] w fun e w' => e = .returned (.tuple #[.int .i64 (clamp (a - b)), .bool (great (a - b))]) ∧ Below w.heap.size w w' := by
  have HA := Hid.mkV (fun W => of_any a W ha0 ha1)
  have HB := Hid.mkV (fun W => of_any b W hb0 hb1)
  have HS := Hid.mkV (fun va vb W => sub_any va vb a b W (digs_short (by omega) (by omega)) (digs_short (by omega) (by omega)))
  have HD := Hid.mkV (fun v W => bound_is v (a - b) W (digs_short (by omega) (by omega)))
  obtain ⟨V, hV⟩ : ∃ V, V = clamp (a - b) := ⟨_, rfl⟩
  obtain ⟨g, hg⟩ : ∃ V, V = great (a - b) := ⟨_, rfl⟩
  obtain ⟨D, hD⟩ : ∃ V, V = a - b := ⟨_, rfl⟩
  rw [← hV, ← hg] at HD ⊢
  rw [← hD] at HD HS
  clear hV hg hD
  go_enter Tryz.func136, Tryz.ntmps136
  go_wp2_with fail
  refine (HA.out _).mono ?_
  rintro e w1 ⟨va, rfl, i1, k1⟩
  go_wp2_with fail
  refine (HB.out _).mono ?_
  rintro e w2 ⟨vb, rfl, i2, k2⟩
  go_wp2_with fail
  refine (HS.out _ _ _ (i1.below k2) i2).mono ?_
  rintro e w3 ⟨vc, rfl, i3, k3⟩
  go_wp2_with fail
  refine (HD.out _ _ i3).mono ?_
  rintro e w4 ⟨rfl, k4⟩
  go_wp2
  go_ret2
  exact ⟨rfl, below_tr (below_tr (below_tr k1 k2) k3) k4⟩
namespace Ld
theorem isG : Is 49 2 := ⟨by kernel_rfl, ⟨_, Tryz.underlying49, rfl⟩⟩
abbrev GRow (w : World) (g : Nat) (a b : Value) : Prop := CRow w g 49 [a, b]
theorem GRow.l {w : World} {g : Nat} {a b : Value} (h : GRow w g a b) : w.cell? ⟨g, 0, none⟩ = some a := h.cell (k := 0) rfl rfl
theorem GRow.d {w : World} {g : Nat} {a b : Value} (h : GRow w g a b) : w.cell? ⟨g, 1, none⟩ = some b := h.cell (k := 1) rfl rfl
end Ld
set_option maxRecDepth 10000 in
set_option maxHeartbeats 2000000 in
theorem drest_low (i j n cl cd rl rc : Nat) (lo do' ro : Option Addr) (L : Nat → Nat → Int) (d x : Nat → Int) (m : Int) (w : World) (hL : Grid w lo i cl n L) (hd : Sl w do' i cd d) (hx : Sl w ro rl rc x) (hj : j < i) (hjr : j ≤ rl) (hin : i ≤ n) (hn : n ≤ 6) (bL : ∀ a, B64 (L a)) (bd : B64 d) (bx : B64 x) (m0 : -9223372036854775808 ≤ m) (m1 : m ≤ 9223372036854775807) :
  Calls Tryz.prog 74 #[.agg #[.slice lo i cl, .slice do' i cd], .slice ro rl rc, .int .i64 m, .int .i64 (j : Int)] w fun e w' => e = .returned (.tuple #[.int .i64 (lessV m x (wv (L j) d) j), .bool (anyb (wg (L j) d) j || lessO m x (wv (L j) d) j)]) ∧ Below w.heap.size w w' := by
 obtain ⟨A, C, hs, hg⟩ := hL
 obtain ⟨xl, hlo, hlc⟩ := hs.get
 obtain ⟨xd, hdo, hdc⟩ := hd.get
 obtain ⟨xr, hro, hrc⟩ := hx.get
 have l1 := hs.le
 have l2 := hs.cap
 have l3 := hd.le
 have l4 := hd.cap
 have l5 := hx.le
 have l6 := hx.cap
 have sj := (hg j (by omega))
 obtain ⟨xj, hjo, hjc⟩ := sj.get
 have l7 := sj.le
 have l8 := sj.cap
 have HJC := Hid.mkV hjc
 have HJO := Hid.mkV hjo
 obtain rfl := hlo (by omega)
 have CL := hlc j (by omega)
 obtain ⟨Cj, hCj⟩ : ∃ c, c = C j := ⟨_, rfl⟩
 obtain ⟨Aj, hAj⟩ : ∃ c, c = A j := ⟨_, rfl⟩
 rw [← hCj] at CL l7 l8
 rw [← hAj] at CL
 rw [← hAj] at HJO
 clear hCj hAj hjo
 have HLC := Hid.mkV hlc
 have HDC := Hid.mkV hdc
 have HRC := Hid.mkV hrc
 have HLO := Hid.mkV hlo
 have HDO := Hid.mkV hdo
 have HRO := Hid.mkV hro
 have HO := Hid.mkV (fun k W => ddot_one (L j k) (d k) 30 30 W rfl (bL j k).1 (bL j k).2 (bd k).1 (bd k).2 (by omega))
 have bW : B64 (wv (L j) d) := b64_of (wv_bd _ _)
 have HS := Hid.mkV (fun (ao bo : Option Addr) (ca cb : Nat) W (H1 : Sl W ao j ca x) (H2 : Sl W bo j cb (wv (L j) d)) => ddot_sl ao bo j ca cb x (wv (L j) d) 30 30 W rfl (by omega) H1 H2 bx bW (by omega))
 have bS := sumV_bd x (wv (L j) d) j
 have HM := Hid.mkV (fun W => dless_any m (sumV x (wv (L j) d) j) W m0 m1 (by omega) (by omega))
 have e1 : clamp (rne (dk x (wv (L j) d) j) (2 ^ 30)) = sumV x (wv (L j) d) j := rfl
 have e2 : great (rne (dk x (wv (L j) d) j) (2 ^ 30)) = sumO x (wv (L j) d) j := rfl
 have e3 : clamp (m - sumV x (wv (L j) d) j) = lessV m x (wv (L j) d) j := rfl
 have e4 : Hid (lessO m x (wv (L j) d) j = (sumO x (wv (L j) d) j || great (m - sumV x (wv (L j) d) j))) := rfl
 have e5 : Hid (∀ k, clamp (rne (L j k * d k) (2 ^ 30)) = wv (L j) d k ∧ great (rne (L j k * d k) (2 ^ 30)) = wg (L j) d k) := fun k => ⟨rfl, rfl⟩
 rw [e1, e2] at HS
 rw [e3] at HM
 obtain ⟨r, hr⟩ : ∃ r, r = wv (L j) d := ⟨_, rfl⟩
 obtain ⟨q, hq⟩ : ∃ r, r = wg (L j) d := ⟨_, rfl⟩
 rw [← hr] at HS HM e4 e5 ⊢
 rw [← hq] at e5 ⊢
 obtain ⟨SV, hSV⟩ : ∃ t, t = sumV x r j := ⟨_, rfl⟩
 obtain ⟨SO, hSO⟩ : ∃ t, t = sumO x r j := ⟨_, rfl⟩
 rw [← hSV] at HS HM e4
 rw [← hSO] at HS e4
 obtain ⟨GO, hGO⟩ : ∃ t, t = great (m - SV) := ⟨_, rfl⟩
 obtain ⟨LV, hLV⟩ : ∃ t, t = lessV m x r j := ⟨_, rfl⟩
 rw [← hGO, ← hLV] at HM
 rw [← hGO] at e4
 rw [← hLV]
 rw [e4.out]
 have cG0 : (w.alloc (.cells #[.slice (some xl) i cl, .slice do' i cd] 49)).cell? ⟨w.heap.size, 0, none⟩ = some (.slice (some xl) i cl) := by go_simp
 have cG1 : (w.alloc (.cells #[.slice (some xl) i cl, .slice do' i cd] 49)).cell? ⟨w.heap.size, 1, none⟩ = some (.slice do' i cd) := by go_simp
 have hB := below_al (Below.refl _ w) (.cells #[.slice (some xl) i cl, .slice do' i cd] 49)
 have hWs : (w.alloc (.cells #[.slice (some xl) i cl, .slice do' i cd] 49)).heap.size = w.heap.size + 1 := by simp
 obtain ⟨W, hW⟩ : ∃ W, W = w.alloc (.cells #[.slice (some xl) i cl, .slice do' i cd] 49) := ⟨_, rfl⟩
 rw [← hW] at cG0 cG1 hB hWs
 have HW := Hid.mkV hW
 clear hs hg hd hx bL bd bx hr hq hSV hSO hGO hLV e1 e2 e3 e4 hW bS bW hlo hdo hro hlc hdc hrc sj
 go_enter Tryz.func74, Tryz.ntmps74
 go_wp2_with (first | (rw [← HW.out]) | fail)
 go_loopw [10, 11, 12, 13] (fun vx vy an ix wr => ∃ k : Nat, k ≤ j ∧ ix = .int .i64 (k : Int) ∧ an = .bool (anyb q k) ∧ Two W.heap.size W wr vx k r vy k x) (fun _ _ _ ix _ => j - (intOf ix).toNat)
 case atStart => exact ⟨0, by omega, rfl, rfl, ⟨Own.nil (Below.refl _ _) (Nat.le_refl _) _, Own.nil (Below.refl _ _) (Nat.le_refl _) _, fun g h => by cases h⟩⟩
 case round =>
  rename World => wo
  obtain ⟨k, hk, rfl, rfl, hT⟩ := hrel
  by_cases h : k < j
  ·obtain rfl := HDO.out (by omega)
   obtain rfl := HRO.out (by omega)
   obtain rfl := HJO.out (by omega)
   have c4 := keep_cell (below_tr hB hT.x.below) (HJC.out k (by omega))
   have c5 := keep_cell (below_tr hB hT.x.below) CL
   have c1 := keep_cell hT.x.below cG0
   have c2 := keep_cell hT.x.below cG1
   have c3 := keep_cell (below_tr hB hT.x.below) (HDC.out k (by omega))
   have C6 := keep_cell hB (HRC.out k (by omega))
   have HOk := HO.out k
   rw [(e5.out k).1, (e5.out k).2] at HOk
   have HOh := Hid.mkV HOk
   have HA : Hid (anyb q (k + 1) = (anyb q k || q k)) := rfl
   obtain ⟨R, hR⟩ : ∃ R, R = r k := ⟨_, rfl⟩
   obtain ⟨G, hG⟩ : ∃ R, R = q k := ⟨_, rfl⟩
   obtain ⟨X, hX⟩ : ∃ R, R = x k := ⟨_, rfl⟩
   obtain ⟨D, hD⟩ : ∃ R, R = d k := ⟨_, rfl⟩
   obtain ⟨T, hTT⟩ : ∃ T, T = anyb q k := ⟨_, rfl⟩
   rw [← hR, ← hG, ← hD] at HOh
   rw [← hTT, ← hG] at HA
   rw [← hTT]
   rw [← hD] at c3
   rw [← hX] at C6
   obtain ⟨P, hP⟩ : ∃ R, R = L j k := ⟨_, rfl⟩
   rw [← hP] at HOh c4
   clear hP
   have HR := Hid.mkV hR
   have HX := Hid.mkV hX
   have c6 := keep_cell hT.x.below C6
   have c2a := fun (o : Obj) => keep_cell (below_al (Below.refl _ wo) o) c2
   have c3a := fun (o : Obj) => keep_cell (below_al (Below.refl _ wo) o) c3
   have i0 : (0 : Int) ≤ (k : Int) := by omega
   have i1 : (k : Int) < (rl : Int) := by omega
   have i2 : (k : Int) < (i : Int) := by omega
   have i3 : (k : Int) < (j : Int) := by omega
   have i4 : (0 : Int) ≤ (j : Int) := by omega
   have i5 : decide ((j : Int) < (i : Int)) = true := decide_eq_true (by omega)
   have i6 : (j : Int) < (i : Int) := by omega
   have i7 : (k : Int) < (n : Int) := by omega
   clear hR hG hX hD hTT HOk HO HS HM HDC HRC HLC HLO HDO HRO e5
   go_wp2_with fail
   refine (HOh.out _).mono ?_
   rintro e wp ⟨rfl, kp⟩
   have hTp := hT.keep kp
   have c7 := keep_cell hTp.x.below C6
   clear hT kp c1 c2 c3 c6 c2a c3a c4 c5
   go_wp2
   go_region_held3 (fun w' => w'.cell? (xr.add k) = some (.int .i64 X)) (first
     | with_reducible exact c7
     | with_reducible exact keep_cell t2.x.below C6
     | with_reducible exact keep_cell t1.x.below C6
     | with_reducible exact keep_cell (t1.alloc _).x.below C6
     | with_reducible exact keep_cell hTp.drew.x.below C6
     | with_reducible exact keep_cell (hTp.alloc _).x.below C6
     | with_reducible exact keep_cell (hTp.alloc _).drew.x.below C6
     | with_reducible exact keep_cell ((hTp.alloc _).drew.alloc _).x.below C6
     | with_reducible exact keep_cell ((hTp.alloc _).alloc _).x.below C6
     | with_reducible exact keep_cell ((hTp.alloc _).alloc _).drew.x.below C6
     | go_keep)
    (first
     | (refine step_x (by rfl) (.tmp 55) (.tmp 57) (by rfl) (B := W.heap.size) (w0 := W) (vx := u10) (vy := u11) (nx := k) (ny := k) (zx := r) (zy := x) (by repeat (first | with_reducible exact hTp | with_reducible exact t1 | with_reducible exact t2 | with_reducible refine Two.alloc ?_ _ | with_reducible refine Two.drew ?_)) (by rfl) (by omega) (y := R) (by rfl) (by repeat (first | (with_reducible refine pend_at (B := W.heap.size) (w0 := W) (vx := u10) (nx := k) (ny := k) (zx := r) (zy := x) ?_ _ (by simp)) | (with_reducible refine pend_at (B := W.heap.size) (w0 := W) (vx := v1) (nx := k + 1) (ny := k) (zx := r) (zy := x) ?_ _ (by simp)) | with_reducible exact hTp | with_reducible exact t1 | with_reducible refine Two.alloc ?_ _ | with_reducible refine Two.drew ?_ | with_reducible refine Pend.alloc ?_ _ | with_reducible refine Pend.drew ?_ | with_reducible refine p1 _ _ ?_)) (by exact HR.out) ?_; intro v1 w1 t1 p1)
     | (refine step_y (by rfl) (.tmp 59) (.tmp 64) (by rfl) (B := W.heap.size) (w0 := W) (vx := v1) (vy := u11) (nx := k + 1) (ny := k) (zx := r) (zy := x) (by repeat (first | with_reducible exact hTp | with_reducible exact t1 | with_reducible exact t2 | with_reducible refine Two.alloc ?_ _ | with_reducible refine Two.drew ?_)) (by rfl) (by omega) (y := X) (by rfl) (by repeat (first | (with_reducible refine pend_at (B := W.heap.size) (w0 := W) (vx := u10) (nx := k) (ny := k) (zx := r) (zy := x) ?_ _ (by simp)) | (with_reducible refine pend_at (B := W.heap.size) (w0 := W) (vx := v1) (nx := k + 1) (ny := k) (zx := r) (zy := x) ?_ _ (by simp)) | with_reducible exact hTp | with_reducible exact t1 | with_reducible refine Two.alloc ?_ _ | with_reducible refine Two.drew ?_ | with_reducible refine Pend.alloc ?_ _ | with_reducible refine Pend.drew ?_ | with_reducible refine p1 _ _ ?_)) (by exact HX.out) ?_; intro v2 w2 t2 p2))
   all_goals go_wp2
   all_goals go_roundw
   all_goals first
    | (simp [intOf]; omega)
    | exact ⟨k + 1, by omega, by go_num, by rw [HA.out]; cases T <;> first | rfl | contradiction | (simp at *), t2⟩
    | trace_state
  ·obtain rfl : k = j := by omega
   obtain ⟨ax, cx, rfl, sx⟩ := hT.x.sl
   obtain ⟨ay, cy, rfl, sy⟩ := hT.y.sl
   have hb := hT.x.below
   have hS := Hid.mkV (HS.out ay ax cy cx _ sy sx)
   obtain ⟨T, hTT⟩ : ∃ T, T = anyb q k := ⟨_, rfl⟩
   rw [← hTT]
   have HTT := Hid.mkV hTT
   clear hTT HS HO
   have z0 := hB
   go_wp2_with fail
   refine hS.out.mono ?_
   rintro e w3 ⟨rfl, k3⟩
   go_wp2_with fail
   refine (HM.out _).mono ?_
   rintro e w4 ⟨rfl, k4⟩
   have b4 := below_tr (below_tr (below_tr hB hb) k3) k4
   cases T <;> cases SO <;> (go_wp2; go_ret2; exact ⟨by rw [← HTT.out]; rfl, b4⟩)
set_option maxRecDepth 10000 in
set_option maxHeartbeats 2000000 in
theorem drest_mid (i j n cl cd rl rc : Nat) (lo do' ro : Option Addr) (L : Nat → Nat → Int) (d x : Nat → Int) (m : Int) (w : World) (hL : Grid w lo i cl n L) (hd : Sl w do' i cd d) (hx : Sl w ro rl rc x) (hj : j = i) (hjr : j ≤ rl) (hin : i ≤ n) (hn : n ≤ 6) (bL : ∀ a, B64 (L a)) (bd : B64 d) (bx : B64 x) (m0 : -9223372036854775808 ≤ m) (m1 : m ≤ 9223372036854775807) :
  Calls Tryz.prog 74 #[.agg #[.slice lo i cl, .slice do' i cd], .slice ro rl rc, .int .i64 m, .int .i64 (j : Int)] w fun e w' => e = .returned (.tuple #[.int .i64 (lessV m x (wv x d) j), .bool (anyb (wg x d) j || lessO m x (wv x d) j)]) ∧ Below w.heap.size w w' := by
 obtain ⟨A, C, hs, hg⟩ := hL
 obtain ⟨xl, hlo, hlc⟩ := hs.get
 obtain ⟨xd, hdo, hdc⟩ := hd.get
 obtain ⟨xr, hro, hrc⟩ := hx.get
 have l1 := hs.le
 have l2 := hs.cap
 have l3 := hd.le
 have l4 := hd.cap
 have l5 := hx.le
 have l6 := hx.cap
 subst hj
 have HLC := Hid.mkV hlc
 have HDC := Hid.mkV hdc
 have HRC := Hid.mkV hrc
 have HLO := Hid.mkV hlo
 have HDO := Hid.mkV hdo
 have HRO := Hid.mkV hro
 have HO := Hid.mkV (fun k W => ddot_one (x k) (d k) 30 30 W rfl (bx k).1 (bx k).2 (bd k).1 (bd k).2 (by omega))
 have bW : B64 (wv x d) := b64_of (wv_bd _ _)
 have HS := Hid.mkV (fun (ao bo : Option Addr) (ca cb : Nat) W (H1 : Sl W ao j ca x) (H2 : Sl W bo j cb (wv x d)) => ddot_sl ao bo j ca cb x (wv x d) 30 30 W rfl (by omega) H1 H2 bx bW (by omega))
 have bS := sumV_bd x (wv x d) j
 have HM := Hid.mkV (fun W => dless_any m (sumV x (wv x d) j) W m0 m1 (by omega) (by omega))
 have e1 : clamp (rne (dk x (wv x d) j) (2 ^ 30)) = sumV x (wv x d) j := rfl
 have e2 : great (rne (dk x (wv x d) j) (2 ^ 30)) = sumO x (wv x d) j := rfl
 have e3 : clamp (m - sumV x (wv x d) j) = lessV m x (wv x d) j := rfl
 have e4 : Hid (lessO m x (wv x d) j = (sumO x (wv x d) j || great (m - sumV x (wv x d) j))) := rfl
 have e5 : Hid (∀ k, clamp (rne (x k * d k) (2 ^ 30)) = wv x d k ∧ great (rne (x k * d k) (2 ^ 30)) = wg x d k) := fun k => ⟨rfl, rfl⟩
 rw [e1, e2] at HS
 rw [e3] at HM
 obtain ⟨r, hr⟩ : ∃ r, r = wv x d := ⟨_, rfl⟩
 obtain ⟨q, hq⟩ : ∃ r, r = wg x d := ⟨_, rfl⟩
 rw [← hr] at HS HM e4 e5 ⊢
 rw [← hq] at e5 ⊢
 obtain ⟨SV, hSV⟩ : ∃ t, t = sumV x r j := ⟨_, rfl⟩
 obtain ⟨SO, hSO⟩ : ∃ t, t = sumO x r j := ⟨_, rfl⟩
 rw [← hSV] at HS HM e4
 rw [← hSO] at HS e4
 obtain ⟨GO, hGO⟩ : ∃ t, t = great (m - SV) := ⟨_, rfl⟩
 obtain ⟨LV, hLV⟩ : ∃ t, t = lessV m x r j := ⟨_, rfl⟩
 rw [← hGO, ← hLV] at HM
 rw [← hGO] at e4
 rw [← hLV]
 rw [e4.out]
 have cG0 : (w.alloc (.cells #[.slice lo j cl, .slice do' j cd] 49)).cell? ⟨w.heap.size, 0, none⟩ = some (.slice lo j cl) := by go_simp
 have cG1 : (w.alloc (.cells #[.slice lo j cl, .slice do' j cd] 49)).cell? ⟨w.heap.size, 1, none⟩ = some (.slice do' j cd) := by go_simp
 have hB := below_al (Below.refl _ w) (.cells #[.slice lo j cl, .slice do' j cd] 49)
 have hWs : (w.alloc (.cells #[.slice lo j cl, .slice do' j cd] 49)).heap.size = w.heap.size + 1 := by simp
 obtain ⟨W, hW⟩ : ∃ W, W = w.alloc (.cells #[.slice lo j cl, .slice do' j cd] 49) := ⟨_, rfl⟩
 rw [← hW] at cG0 cG1 hB hWs
 have HW := Hid.mkV hW
 clear hs hg hd hx bL bd bx hr hq hSV hSO hGO hLV e1 e2 e3 e4 hW bS bW hlo hdo hro hlc hdc hrc 
 go_enter Tryz.func74, Tryz.ntmps74
 go_wp2_with (first | (rw [← HW.out]) | fail)
 go_loopw [10, 11, 12, 13] (fun vx vy an ix wr => ∃ k : Nat, k ≤ j ∧ ix = .int .i64 (k : Int) ∧ an = .bool (anyb q k) ∧ Two W.heap.size W wr vx k r vy k x) (fun _ _ _ ix _ => j - (intOf ix).toNat)
 case atStart => exact ⟨0, by omega, rfl, rfl, ⟨Own.nil (Below.refl _ _) (Nat.le_refl _) _, Own.nil (Below.refl _ _) (Nat.le_refl _) _, fun g h => by cases h⟩⟩
 case round =>
  rename World => wo
  obtain ⟨k, hk, rfl, rfl, hT⟩ := hrel
  by_cases h : k < j
  ·obtain rfl := HDO.out (by omega)
   obtain rfl := HRO.out (by omega)
   have c1 := keep_cell hT.x.below cG0
   have c2 := keep_cell hT.x.below cG1
   have c3 := keep_cell (below_tr hB hT.x.below) (HDC.out k (by omega))
   have C6 := keep_cell hB (HRC.out k (by omega))
   have HOk := HO.out k
   rw [(e5.out k).1, (e5.out k).2] at HOk
   have HOh := Hid.mkV HOk
   have HA : Hid (anyb q (k + 1) = (anyb q k || q k)) := rfl
   obtain ⟨R, hR⟩ : ∃ R, R = r k := ⟨_, rfl⟩
   obtain ⟨G, hG⟩ : ∃ R, R = q k := ⟨_, rfl⟩
   obtain ⟨X, hX⟩ : ∃ R, R = x k := ⟨_, rfl⟩
   obtain ⟨D, hD⟩ : ∃ R, R = d k := ⟨_, rfl⟩
   obtain ⟨T, hTT⟩ : ∃ T, T = anyb q k := ⟨_, rfl⟩
   rw [← hR, ← hG, ← hD] at HOh
   rw [← hTT, ← hG] at HA
   rw [← hTT]
   rw [← hD] at c3
   rw [← hX] at C6
   rw [← hX] at HOh
   have HR := Hid.mkV hR
   have HX := Hid.mkV hX
   have c6 := keep_cell hT.x.below C6
   have c2a := fun (o : Obj) => keep_cell (below_al (Below.refl _ wo) o) c2
   have c3a := fun (o : Obj) => keep_cell (below_al (Below.refl _ wo) o) c3
   have i0 : (0 : Int) ≤ (k : Int) := by omega
   have i1 : (k : Int) < (rl : Int) := by omega
   have i2 : (k : Int) < (j : Int) := by omega
   have i3 : (k : Int) < (j : Int) := by omega
   have i4 : (0 : Int) ≤ (j : Int) := by omega
   have i5 : decide ((j : Int) < (j : Int)) = false := decide_eq_false (by omega)
   clear hR hG hX hD hTT HOk HO HS HM HDC HRC HLC HLO HDO HRO e5
   go_wp2_with fail
   refine (HOh.out _).mono ?_
   rintro e wp ⟨rfl, kp⟩
   have hTp := hT.keep kp
   have c7 := keep_cell hTp.x.below C6
   clear hT kp c1 c2 c3 c6 c2a c3a 
   go_wp2
   go_region_held3 (fun w' => w'.cell? (xr.add k) = some (.int .i64 X)) (first
     | with_reducible exact c7
     | with_reducible exact keep_cell t2.x.below C6
     | with_reducible exact keep_cell t1.x.below C6
     | with_reducible exact keep_cell (t1.alloc _).x.below C6
     | with_reducible exact keep_cell hTp.drew.x.below C6
     | with_reducible exact keep_cell (hTp.alloc _).x.below C6
     | with_reducible exact keep_cell (hTp.alloc _).drew.x.below C6
     | with_reducible exact keep_cell ((hTp.alloc _).drew.alloc _).x.below C6
     | with_reducible exact keep_cell ((hTp.alloc _).alloc _).x.below C6
     | with_reducible exact keep_cell ((hTp.alloc _).alloc _).drew.x.below C6
     | go_keep)
    (first
     | (refine step_x (by rfl) (.tmp 55) (.tmp 57) (by rfl) (B := W.heap.size) (w0 := W) (vx := u10) (vy := u11) (nx := k) (ny := k) (zx := r) (zy := x) (by repeat (first | with_reducible exact hTp | with_reducible exact t1 | with_reducible exact t2 | with_reducible refine Two.alloc ?_ _ | with_reducible refine Two.drew ?_)) (by rfl) (by omega) (y := R) (by rfl) (by repeat (first | (with_reducible refine pend_at (B := W.heap.size) (w0 := W) (vx := u10) (nx := k) (ny := k) (zx := r) (zy := x) ?_ _ (by simp)) | (with_reducible refine pend_at (B := W.heap.size) (w0 := W) (vx := v1) (nx := k + 1) (ny := k) (zx := r) (zy := x) ?_ _ (by simp)) | with_reducible exact hTp | with_reducible exact t1 | with_reducible refine Two.alloc ?_ _ | with_reducible refine Two.drew ?_ | with_reducible refine Pend.alloc ?_ _ | with_reducible refine Pend.drew ?_ | with_reducible refine p1 _ _ ?_)) (by exact HR.out) ?_; intro v1 w1 t1 p1)
     | (refine step_y (by rfl) (.tmp 59) (.tmp 64) (by rfl) (B := W.heap.size) (w0 := W) (vx := v1) (vy := u11) (nx := k + 1) (ny := k) (zx := r) (zy := x) (by repeat (first | with_reducible exact hTp | with_reducible exact t1 | with_reducible exact t2 | with_reducible refine Two.alloc ?_ _ | with_reducible refine Two.drew ?_)) (by rfl) (by omega) (y := X) (by rfl) (by repeat (first | (with_reducible refine pend_at (B := W.heap.size) (w0 := W) (vx := u10) (nx := k) (ny := k) (zx := r) (zy := x) ?_ _ (by simp)) | (with_reducible refine pend_at (B := W.heap.size) (w0 := W) (vx := v1) (nx := k + 1) (ny := k) (zx := r) (zy := x) ?_ _ (by simp)) | with_reducible exact hTp | with_reducible exact t1 | with_reducible refine Two.alloc ?_ _ | with_reducible refine Two.drew ?_ | with_reducible refine Pend.alloc ?_ _ | with_reducible refine Pend.drew ?_ | with_reducible refine p1 _ _ ?_)) (by exact HX.out) ?_; intro v2 w2 t2 p2))
   all_goals go_wp2
   all_goals go_roundw
   all_goals first
    | (simp [intOf]; omega)
    | exact ⟨k + 1, by omega, by go_num, by rw [HA.out]; cases T <;> first | rfl | contradiction | (simp at *), t2⟩
    | trace_state
  ·obtain rfl : k = j := by omega
   obtain ⟨ax, cx, rfl, sx⟩ := hT.x.sl
   obtain ⟨ay, cy, rfl, sy⟩ := hT.y.sl
   have hb := hT.x.below
   have hS := Hid.mkV (HS.out ay ax cy cx _ sy sx)
   obtain ⟨T, hTT⟩ : ∃ T, T = anyb q k := ⟨_, rfl⟩
   rw [← hTT]
   have HTT := Hid.mkV hTT
   clear hTT HS HO
   have z0 := hB
   go_wp2_with fail
   refine hS.out.mono ?_
   rintro e w3 ⟨rfl, k3⟩
   go_wp2_with fail
   refine (HM.out _).mono ?_
   rintro e w4 ⟨rfl, k4⟩
   have b4 := below_tr (below_tr (below_tr hB hb) k3) k4
   cases T <;> cases SO <;> (go_wp2; go_ret2; exact ⟨by rw [← HTT.out]; rfl, b4⟩)
end Go.Proofs.YtdgcnaijndocnaaGreatDoor
