/-
  Factors (ldl): the steps: bounded, number, less; a row of L; a row by weights.
-/
import Derived.Test.YtfgjigkgfflofaaDoorRLdA
import Derived.Test.YtfgjigkgfflofaaDoorRLdB
import Derived.Test.YtfgjigkgfflofaaDoorRMtH
set_option linter.unusedSimpArgs false
set_option linter.unusedVariables false
namespace Go.Proofs.YtfgjigkgfflofaaDoorR
open Go.RowKit Vc Mt St Qn Dt Ld

set_option maxHeartbeats 400000 in
theorem lbounded_any (s : Nat) (n : Int) (a o : Bool) (w : World) (h : SRow w s a) :
    Calls Tryd.prog 19 #[.pointer (some ⟨s, 0, none⟩), .int .i64 n, .bool o] w fun e w' => e = .returned (.int .i64 n) ∧ SRow w' s (a || o) ∧ But (· = s) w w' := by
  have c := h.o
  have f := h.free 0
  cases a with
  | true =>
    go_enter Tryd.func19, Tryd.ntmps19
    go_wp2
    go_ret
    exact ⟨rfl, h.set _, (But.refl _ _).set _ rfl⟩
  | false =>
    go_enter Tryd.func19, Tryd.ntmps19
    go_wp2
    go_ret
    exact ⟨rfl, h.set _, (But.refl _ _).set _ rfl⟩

set_option maxHeartbeats 400000 in
theorem lnumber_any (s : Nat) (n : Int) (a o : Bool) (v : Value) (w : World) (h : SRow w s a) :
    Calls Tryd.prog 14 #[.pointer (some ⟨s, 0, none⟩), .int .i64 n, .bool o, v] w fun e w' => e = .returned (.int .i64 n) ∧ SRow w' s (a || o) ∧ But (· = s) w w' := by
  go_enter Tryd.func14, Tryd.ntmps14
  go_wp2_with fail
  refine (lbounded_any s n a o _ h).mono ?_
  rintro e w1 ⟨rfl, r1, k1⟩
  go_wp2
  go_ret
  exact ⟨rfl, r1, k1⟩

set_option maxHeartbeats 400000 in
theorem lless_any (s : Nat) (n : Int) (ao bo : Option Addr) (m ca cb : Nat) (a b : Nat → Int) (o : Bool) (w : World) (h : SRow w s o) (ha : Sl w ao m ca a) (hb : Sl w bo m cb b) (ba : B64 a) (bb : B64 b) (hm : m ≤ 6) (n0 : -9223372036854775808 ≤ n) (n1 : n ≤ 9223372036854775807) :
    Calls Tryd.prog 16 #[.pointer (some ⟨s, 0, none⟩), .int .i64 n, .slice ao m ca, .slice bo m cb] w fun e w' => e = .returned (.int .i64 (lessV n a b m)) ∧ SRow w' s (o || lessO n a b m) ∧ But (· = s) w w' := by
  have HD := Hid.mkV (mdot_sl ao bo m ca cb a b 30 30 w rfl (by omega) ha hb ba bb (by omega))
  have bV := sumV_bd a b m
  have HS := Hid.mkV (fun W => qsub_any n (sumV a b m) W n0 n1 (by omega) (by omega))
  have eR : Hid (lessV n a b m = clamp (n - sumV a b m)) := rfl
  have eO : Hid (lessO n a b m = (sumO a b m || great (n - sumV a b m))) := rfl
  have e1 : clamp (rne (dk a b m) (2 ^ 30)) = sumV a b m := rfl
  have e2 : great (rne (dk a b m) (2 ^ 30)) = sumO a b m := rfl
  rw [e1, e2] at HD
  obtain ⟨V, hV⟩ : ∃ V, V = sumV a b m := ⟨_, rfl⟩
  obtain ⟨g, hg⟩ : ∃ g, g = sumO a b m := ⟨_, rfl⟩
  rw [← hV] at HS HD eR eO
  rw [← hg] at HD eO
  rw [eR.out, eO.out]
  obtain ⟨R, hR⟩ : ∃ R, R = clamp (n - V) := ⟨_, rfl⟩
  obtain ⟨q, hq⟩ : ∃ q, q = great (n - V) := ⟨_, rfl⟩
  rw [← hR, ← hq] at HS
  rw [← hR, ← hq]
  clear hV hg hR hq e1 e2 eR eO bV ha hb ba bb
  go_enter Tryd.func16, Tryd.ntmps16
  go_wp2_with fail
  refine HD.out.mono ?_
  rintro e w1 ⟨rfl, k1⟩
  have r1 := CRow.keep h k1
  go_wp2_with fail
  refine (lnumber_any s V o g _ w1 r1).mono ?_
  rintro e w2 ⟨rfl, r2, k2⟩
  go_wp2_with fail
  refine (HS.out _).mono ?_
  rintro e w3 ⟨rfl, k3⟩
  have r3 := CRow.keep r2 k3
  go_wp2_with fail
  refine (lbounded_any s R _ q w3 r3).mono ?_
  rintro e w4 ⟨rfl, r4, k4⟩
  rw [Bool.or_assoc] at r4
  go_wp2
  go_ret
  exact ⟨rfl, r4, (((but_of k1).trans k2).then k3).trans k4⟩

namespace Ld
theorem run_pieceF (b p q : Nat) (w : World) (h1 : p < 36) (h2 : p ≤ q) (h3 : q ≤ 36) :
    (Instr.sliceAt 23 (.pointer (some ⟨b, 1, none⟩)) (some (.int .i64 (p : Int))) (some (.int .i64 (q : Int))) none).run Tryd.prog w = .ok (.slice (some ⟨b, p + 1, none⟩) (q - p) (36 - p)) w := by
  rw [run_sliceAt_array_lh w 23 _ Tryd.arrM .i64 .i64 _ _ (by omega) (by omega) (by rw [Tryd.lenM]; omega), Tryd.elemM, run_size8, Tryd.lenM]
  simp only [Result.andThen_ok, slicedAt, Int.toNat_natCast, Nat.mul_one]
  rw [if_neg (by omega), Addr.add_lit, Nat.add_comm 1 p]
theorem Tryd.arr6 : Tryd.prog.underlying 24 = some (.array (Tryd.prog.arrayLen 24) (Tryd.prog.elem 24)) := by kernel_rfl
theorem Tryd.len6 : Tryd.prog.arrayLen 24 = 6 := by kernel_rfl
theorem Tryd.elem6 : Tryd.prog.elem 24 = 2 := by kernel_rfl
theorem run_head6 (b o q : Nat) (w : World) (h3 : q ≤ 6) :
    (Instr.sliceAt 24 (.pointer (some ⟨b, o, none⟩)) none (some (.int .i64 (q : Int))) none).run Tryd.prog w = .ok (.slice (some ⟨b, o, none⟩) q 6) w := by
  rw [run_sliceAt_array_h w 24 _ Tryd.arr6 .i64 _ (by omega) (by rw [Tryd.len6]; omega), Tryd.elem6, run_size8, Tryd.len6]
  simp only [Result.andThen_ok, slicedAt, Int.toNat_natCast, Nat.mul_one]
  first
    | rfl
    | (rw [if_neg (by omega)]; simp [Addr.add_lit])
theorem run_mid6 (b p q : Nat) (h2 : p ≤ q) (h3 : q ≤ 6) : ∃ o, (p < 6 → o = p) ∧ ∀ w : World,
    (Instr.sliceAt 24 (.pointer (some ⟨b, 0, none⟩)) (some (.int .i64 (p : Int))) (some (.int .i64 (q : Int))) none).run Tryd.prog w = .ok (.slice (some ⟨b, o, none⟩) (q - p) (6 - p)) w := by
  by_cases e : p = 6
  · refine ⟨0, fun h => by omega, fun w => ?_⟩
    rw [run_sliceAt_array_lh w 24 _ Tryd.arr6 .i64 .i64 _ _ (by omega) (by omega) (by rw [Tryd.len6]; omega), Tryd.elem6, run_size8, Tryd.len6]
    simp only [Result.andThen_ok, slicedAt, Int.toNat_natCast, Nat.mul_one]
    rw [if_pos (by omega)]
  · refine ⟨p, fun _ => rfl, fun w => ?_⟩
    rw [run_sliceAt_array_lh w 24 _ Tryd.arr6 .i64 .i64 _ _ (by omega) (by omega) (by rw [Tryd.len6]; omega), Tryd.elem6, run_size8, Tryd.len6]
    simp only [Result.andThen_ok, slicedAt, Int.toNat_natCast, Nat.mul_one]
    rw [if_neg (by omega), Addr.add_lit, Nat.zero_add]
end Ld

set_option maxRecDepth 10000 in
set_option maxHeartbeats 1000000 in
/-- Where a row stands. -/
theorem frow_any (g i n p : Nat) (z d : Nat → Int) (w : World) (h : FRow w g n z d) (hp : p = i * n) (hn : n ≤ 6) (hi : i < n) :
    Calls Tryd.prog 30 #[.pointer (some ⟨g, 0, none⟩), .int .i64 (i : Int)] w fun e w' => e = .returned (.slice (some ⟨g, p + 1, none⟩) n (36 - p)) ∧ Below w.heap.size w w' := by
  have h36 : p + n ≤ 36 := by
    have h1 := place_le (c := n) hi
    have h2 := size_le hn hn
    omega
  have c1 := FRow.n h
  have e1 : IntKind.i64.wrap ((i : Int) * (n : Int)) = (p : Int) := by
    have : ((i * n : Nat) : Int) = (i : Int) * (n : Int) := by push_cast; rfl
    rw [← this, ← hp, IntKind.wrap_i64]; omega
  have e2 : IntKind.i64.wrap (((i : Int) + 1) * (n : Int)) = ((p + n : Nat) : Int) := by
    have : ((i * n : Nat) : Int) = (i : Int) * (n : Int) := by push_cast; rfl
    rw [Int.add_mul, Int.one_mul, ← this, ← hp, IntKind.wrap_i64]; omega
  have e0 : IntKind.i64.wrap ((i : Int) + 1) = (i : Int) + 1 := by rw [IntKind.wrap_i64]; omega
  have e3 : ∀ W, (Instr.sliceAt 23 (.pointer (some ⟨g, 1, none⟩)) (some (.int .i64 (p : Int))) (some (.int .i64 ((p : Int) + (n : Int)))) none).run Tryd.prog W = .ok (.slice (some ⟨g, p + 1, none⟩) n (36 - p)) W := by
    intro W
    have h := run_pieceF g p (p + n) W (by omega) (by omega) h36
    rw [Nat.add_sub_cancel_left] at h
    exact_mod_cast h
  have HP := Hid.mkV hp
  clear hp h
  go_enter Tryd.func30, Tryd.ntmps30
  go_wp2
  go_quiet (fail)
  go_wp2
  go_ret
  exact ⟨rfl, Vc.below_drewN (Below.refl _ _) _⟩

namespace Ld
/-- The first t of the numbers, noughts behind. -/
def pt (f : Nat → Int) (t : Nat) : Nat → Int := fun k => if k < t then f k else 0
theorem pt_next (f : Nat → Int) (t k : Nat) : (if k = t then f t else pt f t k) = pt f (t + 1) k := by
  unfold pt
  by_cases e : k = t
  · subst e; rw [if_pos rfl, if_pos (by omega)]
  · rw [if_neg e]
    by_cases h : k < t
    · rw [if_pos h, if_pos (by omega)]
    · rw [if_neg h, if_neg (by omega)]
theorem pt_at {f : Nat → Int} {t k : Nat} (h : k < t) : pt f t k = f k := if_pos h
/-- An array of six numbers is all that block b holds. -/
abbrev ARow (w : World) (b : Nat) (x : Nat → Int) : Prop := CRow w b 24 (vals 6 x)
theorem ARow.set {w : World} {b : Nat} {x : Nat → Int} (h : ARow w b x) (k : Nat) (v : Int) : ARow (w.setCell ⟨b, k, none⟩ (.int .i64 v)) b (fun i => if i = k then v else x i) := by
  have h' := CRow.set h k (.int .i64 v)
  rwa [vals_set] at h'
theorem ARow.congr {w : World} {b : Nat} {x y : Nat → Int} (h : ARow w b x) (e : ∀ k, k < 6 → x k = y k) : ARow w b y := by
  unfold ARow; rw [← vals_congr e]; exact h
theorem ARow.at {w : World} {b : Nat} {x : Nat → Int} (h : ARow w b x) {k : Nat} (hk : k < 6) : w.cell? ⟨b, k, none⟩ = some (.int .i64 (x k)) := h.cell (vals_at hk) rfl
theorem ARow.sl {w : World} {b : Nat} {x : Nat → Int} (h : ARow w b x) {p m ca o : Nat} (hp : p + m ≤ 6) (hc : m ≤ ca) (hc2 : ca ≤ 9223372036854775807) (ho : 0 < m → o = p) : Sl w (some ⟨b, o, none⟩) m ca (fun j => x (p + j)) :=
  ⟨hc, hc2, fun k hk => ⟨_, rfl, by rw [Addr.add_lit, ho (by omega)]; exact ARow.at h (by omega)⟩⟩
theorem zero6 : (#[.int .i64 0, .int .i64 0, .int .i64 0, .int .i64 0, .int .i64 0, .int .i64 0] : Array Value) = (vals 6 (fun _ => 0)).toArray := by kernel_rfl
end Ld

set_option maxRecDepth 10000 in
set_option maxHeartbeats 1000000 in
/-- A row of L by weights. -/
theorem weighed_any (g s j n : Nat) (z d l : Nat → Int) (o : Bool) (w : World) (h : FRow w g n z d) (hs : SRow w s o) (hgs : g ≠ s) (hn : n ≤ 6) (hj : j < n) (hl : ∀ k, k < j → z (j * n + k) = l k) (bl : B64 l) (bd : B64 d) :
    Calls Tryd.prog 66 #[.pointer (some ⟨g, 0, none⟩), .int .i64 (j : Int), .pointer (some ⟨s, 0, none⟩)] w fun e w' => ∃ co cc, e = .returned (.slice co j cc) ∧ Sl w' co j cc (wv l d) ∧ Fresh w.heap.size co ∧ SRow w' s (o || anyb (wg l d) j) ∧ But (· = s) w w' := by
  obtain ⟨p, hp⟩ : ∃ p, p = j * n := ⟨_, rfl⟩
  have h36 : p + n ≤ 36 := by
    have h1 := place_le (c := n) hj
    have h2 := size_le hn hn
    omega
  rw [← hp] at hl
  have HL := Hid.mkV hl
  have HR := Hid.mkV (fun W (H : FRow W g n z d) => frow_any g j n p z d W H hp hn hj)
  have rO : ARow (w.alloc (.cells (vals 6 (fun _ => 0)).toArray 24)) w.heap.size (fun _ => 0) := crow_new w _ _
  have rF := CRow.alloc h (.cells (vals 6 (fun _ => 0)).toArray 24)
  have rS := CRow.alloc hs (.cells (vals 6 (fun _ => 0)).toArray 24)
  have hB := (But.refl (· = s) w).al (.cells (vals 6 (fun _ => 0)).toArray 24)
  have hlt := h.lt
  have hslt := hs.lt
  obtain ⟨b, hb⟩ : ∃ b, b = w.heap.size := ⟨_, rfl⟩
  obtain ⟨W, hW⟩ : ∃ W, W = w.alloc (.cells (vals 6 (fun _ => 0)).toArray 24) := ⟨_, rfl⟩
  rw [← hW] at rO rF rS hB
  rw [← hb] at rO hlt hslt
  have HW := Hid.mkV hW
  have HB := Hid.mkV hb
  have HBl := Hid.mkV bl
  have HBd := Hid.mkV bd
  have HM := Hid.mkV (fun k W => qmul_any (l k) (d k) 30 W (bl k).1 (bl k).2 (bd k).1 (bd k).2 (by omega))
  have hfr : Hid (w.heap.size = b) := hb.symm
  have eh : ∀ W, (Instr.sliceAt 24 (.pointer (some ⟨b, 0, none⟩)) none (some (.int .i64 (j : Int))) none).run Tryd.prog W = .ok (.slice (some ⟨b, 0, none⟩) j 6) W := fun W => run_head6 b 0 j W (by omega)
  rw [hfr.out]
  clear hp hl h hs hW hb bl bd
  go_enter Tryd.func66, Tryd.ntmps66
  go_wp2_with (first
    | (rw [zero6, ← HW.out, ← HB.out])
    | fail)
  refine (HR.out _ rF).mono ?_
  rintro e w1 ⟨rfl, k1⟩
  have f1 := CRow.keep rF k1
  have s1 := CRow.keep rS k1
  have o1 := CRow.keep rO k1
  have b1 := hB.then k1
  clear rF rS rO hB k1
  go_wp2
  go_loopw [16] (fun i wr => ∃ k : Nat, k ≤ j ∧ i = .int .i64 (k : Int) ∧ FRow wr g n z d ∧ SRow wr s (o || anyb (wg l d) k) ∧ ARow wr b (pt (wv l d) k) ∧ But (· = s) w wr) (fun i _ => j - (intOf i).toNat)
  case atStart => exact ⟨0, by omega, rfl, f1, by simpa [anyb] using s1, o1, b1⟩
  case round =>
    obtain ⟨k, hk, rfl, fr, sr, ar, br⟩ := hrel
    by_cases h : k < j
    · have c1 := FRow.z fr (k := p + k) (o := p + 1 + k) (by omega) (by omega)
      rw [HL.out k h] at c1
      have c2 := FRow.d fr (k := k) (o := 37 + k) (by omega) (by omega)
      have HMk := Hid.mkV (HM.out k)
      have e1 : clamp (rne (l k * d k) (2 ^ 30)) = wv l d k := rfl
      have e2 : great (rne (l k * d k) (2 ^ 30)) = wg l d k := rfl
      rw [e1, e2] at HMk
      have e3 : Hid (anyb (wg l d) (k + 1) = (anyb (wg l d) k || wg l d k)) := rfl
      obtain ⟨X, hX⟩ : ∃ X, X = wv l d k := ⟨_, rfl⟩
      obtain ⟨q, hq⟩ : ∃ q, q = wg l d k := ⟨_, rfl⟩
      obtain ⟨lk, hlk⟩ : ∃ q, q = l k := ⟨_, rfl⟩
      obtain ⟨dk', hdk⟩ : ∃ q, q = d k := ⟨_, rfl⟩
      rw [← hX, ← hq, ← hlk, ← hdk] at HMk
      rw [← hlk] at c1
      rw [← hdk] at c2
      have HX := Hid.mkV hX
      have HQ := Hid.mkV hq
      clear hX hq hlk hdk e1 e2
      go_wp2_with fail
      refine (HMk.out _).mono ?_
      rintro e w2 ⟨rfl, k2⟩
      have s2 := CRow.keep sr k2
      go_wp2_with fail
      refine (lnumber_any s X _ q _ _ s2).mono ?_
      rintro e w3 ⟨rfl, s3, k3⟩
      have a3 := crowBut (CRow.keep ar k2) k3 (by omega)
      have f3 := crowBut (CRow.keep fr k2) k3 (by omega)
      have b3 := (br.then k2).trans k3
      have z3 := ARow.at a3 (k := k) (by omega)
      have y3 := CRow.free a3 k
      go_wp2
      go_roundw
      case rel =>
        refine ⟨k + 1, by omega, by go_num, CRow.other f3 _ (by show g ≠ b; omega), ?_, ?_, b3.setNew _ (by rw [hfr.out]; exact Nat.le_refl _)⟩
        · rw [e3.out, ← HQ.out, ← Bool.or_assoc]
          exact CRow.other s3 _ (by show s ≠ b; omega)
        · refine (ARow.set a3 k X).congr fun i hi => ?_
          rw [HX.out]
          exact pt_next _ _ _
      case measure => simp [intOf]; omega
    · obtain rfl : k = j := by omega
      go_wp2
      go_ret
      refine ⟨_, _, rfl, ?_, ?_, sr, br⟩
      · refine (ARow.sl ar (p := 0) (m := k) (by omega) (by omega) (by omega) (fun _ => rfl)).congr fun i hi => ?_
        rw [Nat.zero_add]
        exact pt_at hi
      · intro x hx
        cases hx
        exact Nat.le_refl _

end Go.Proofs.YtfgjigkgfflofaaDoorR
