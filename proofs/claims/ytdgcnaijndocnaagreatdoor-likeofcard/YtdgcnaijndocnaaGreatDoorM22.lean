/-
  Matrices (mat): Mul, Apply, Even, Outer, or their errors.
-/
import Derived.Test.YtdgcnaijndocnaaGreatDoorM5
import Derived.Test.YtdgcnaijndocnaaGreatDoorM21
import Derived.Deep.RegionHeld3
set_option linter.unusedSimpArgs false
set_option linter.unusedVariables false
namespace Go.Proofs.YtdgcnaijndocnaaGreatDoor
open Go.RowKit Vc Mt Qn Dt
theorem mdot_sl (ao bo : Option Addr) (n ca cb : Nat) (za zb : Nat → Int) (q : Int) (b : Nat) (w : World) (hq : q = (b : Int)) (hn : n ≤ 64) (ha : Sl w ao n ca za) (hb : Sl w bo n cb zb) (ba : B64 za) (bb : B64 zb) (hp : b ≤ 62) :
    Calls Tryz.prog 150 #[.slice ao n ca, .slice bo n cb, .int .i64 q] w fun e w' => e = .returned (.tuple #[.int .i64 (clamp (rne (dk za zb n) (2 ^ b))), .bool (great (rne (dk za zb n) (2 ^ b))), .nilIface]) ∧ Below w.heap.size w w' := by
  subst hq
  obtain ⟨xa, hao, hca⟩ := ha.get
  obtain ⟨xb, hbo, hcb⟩ := hb.get
  exact qdot_any ao bo xa xb n ca cb za zb b w hn hao hbo hca hcb ba bb hp
namespace Mt
end Mt
end Go.Proofs.YtdgcnaijndocnaaGreatDoor
namespace Go.Proofs.YtdgcnaijndocnaaGreatDoor
open Go.RowKit Vc Mt St Qn Dt Ld
set_option maxHeartbeats 400000 in
theorem lbounded_any (s : Nat) (n : Int) (a o : Bool) (w : World) (h : SRow w s a) :
    Calls Tryz.prog 125 #[.pointer (some ⟨s, 0, none⟩), .int .i64 n, .bool o] w fun e w' => e = .returned (.int .i64 n) ∧ SRow w' s (a || o) ∧ But (· = s) w w' := by
  have c := h.o
  have f := h.free 0
  cases a with
  | true =>
    go_enter Tryz.func125, Tryz.ntmps125
    go_wp2
    go_ret
    exact ⟨rfl, h.set _, (But.refl _ _).set _ rfl⟩
  | false =>
    go_enter Tryz.func125, Tryz.ntmps125
    go_wp2
    go_ret
    exact ⟨rfl, h.set _, (But.refl _ _).set _ rfl⟩
set_option maxHeartbeats 400000 in
theorem lnumber_any (s : Nat) (n : Int) (a o : Bool) (v : Value) (w : World) (h : SRow w s a) :
    Calls Tryz.prog 119 #[.pointer (some ⟨s, 0, none⟩), .int .i64 n, .bool o, v] w fun e w' => e = .returned (.int .i64 n) ∧ SRow w' s (a || o) ∧ But (· = s) w w' := by
  go_enter Tryz.func119, Tryz.ntmps119
  go_wp2_with fail
  refine (lbounded_any s n a o _ h).mono ?_
  rintro e w1 ⟨rfl, r1, k1⟩
  go_wp2
  go_ret
  exact ⟨rfl, r1, k1⟩
set_option maxHeartbeats 400000 in
theorem lless_any (s : Nat) (n : Int) (ao bo : Option Addr) (m ca cb : Nat) (a b : Nat → Int) (o : Bool) (w : World) (h : SRow w s o) (ha : Sl w ao m ca a) (hb : Sl w bo m cb b) (ba : B64 a) (bb : B64 b) (hm : m ≤ 6) (n0 : -9223372036854775808 ≤ n) (n1 : n ≤ 9223372036854775807) :
  Calls Tryz.prog 117 #[.pointer (some ⟨s, 0, none⟩), .int .i64 n, .slice ao m ca, .slice bo m cb] w fun e w' => e = .returned (.int .i64 (lessV n a b m)) ∧ SRow w' s (o || lessO n a b m) ∧ But (· = s) w w' := by
 have HD := Hid.mkV (mdot_sl ao bo m ca cb a b 30 30 w rfl (by omega) ha hb ba bb (by omega))
 have bV := sumV_bd a b m
 have HS := Hid.mkV (fun W => qsub_any n (sumV a b m) W n0 n1 (by omega) (by omega))
 have eR : Hid (lessV n a b m = clamp (n - sumV a b m)) := rfl
 have eO : Hid (lessO n a b m = (sumO a b m || great (n - sumV a b m))) := rfl
 have e1 : clamp (rne (dk a b m) (2 ^ 30)) = sumV a b m := rfl
 have e2 : great (rne (dk a b m) (2 ^ 30)) = sumO a b m := rfl
 rw [e1, e2] at HD
 obtain ⟨V, hV⟩ : ∃ V, V = sumV a b m := ⟨_, rfl⟩
 obtain ⟨g, hg⟩ : ∃ g, g = sumO a b m := ⟨_, rfl⟩
 rw [← hV] at HS HD eR eO
 rw [← hg] at HD eO
 rw [eR.out, eO.out]
 obtain ⟨R, hR⟩ : ∃ R, R = clamp (n - V) := ⟨_, rfl⟩
 obtain ⟨q, hq⟩ : ∃ q, q = great (n - V) := ⟨_, rfl⟩
 rw [← hR, ← hq] at HS
 rw [← hR, ← hq]
 clear hV hg hR hq e1 e2 eR eO bV ha hb ba bb
 go_enter Tryz.func117, Tryz.ntmps117
 go_wp2_with fail
 refine HD.out.mono ?_
 rintro e w1 ⟨rfl, k1⟩
 have r1 := CRow.keep h k1
 go_wp2_with fail
 refine (lnumber_any s V o g _ w1 r1).mono ?_
 rintro e w2 ⟨rfl, r2, k2⟩
 go_wp2_with fail
 refine (HS.out _).mono ?_
 rintro e w3 ⟨rfl, k3⟩
 have r3 := CRow.keep r2 k3
 go_wp2_with fail
 refine (lbounded_any s R _ q w3 r3).mono ?_
 rintro e w4 ⟨rfl, r4, k4⟩
 rw [Bool.or_assoc] at r4
 go_wp2
 go_ret
 exact ⟨rfl, r4, (((but_of k1).trans k2).then k3).trans k4⟩
namespace Ld
theorem run_pieceF (b p q : Nat) (w : World) (h1 : p < 36) (h2 : p ≤ q) (h3 : q ≤ 36) :
    (Instr.sliceAt 30 (.pointer (some ⟨b, 1, none⟩)) (some (.int .i64 (p : Int))) (some (.int .i64 (q : Int))) none).run Tryz.prog w = .ok (.slice (some ⟨b, p + 1, none⟩) (q - p) (36 - p)) w := by
  rw [run_sliceAt_array_lh w 30 _ Tryz.arrM .i64 .i64 _ _ (by omega) (by omega) (by rw [Tryz.lenM]; omega), Tryz.elemM, run_size8, Tryz.lenM]
  simp only [Result.andThen_ok, slicedAt, Int.toNat_natCast, Nat.mul_one]
  rw [if_neg (by omega), Addr.add_lit, Nat.add_comm 1 p]
theorem Tryz.arr6 : Tryz.prog.underlying 31 = some (.array (Tryz.prog.arrayLen 31) (Tryz.prog.elem 31)) := by kernel_rfl
theorem Tryz.len6 : Tryz.prog.arrayLen 31 = 6 := by kernel_rfl
theorem Tryz.elem6 : Tryz.prog.elem 31 = 2 := by kernel_rfl
theorem run_head6 (b o q : Nat) (w : World) (h3 : q ≤ 6) :
    (Instr.sliceAt 31 (.pointer (some ⟨b, o, none⟩)) none (some (.int .i64 (q : Int))) none).run Tryz.prog w = .ok (.slice (some ⟨b, o, none⟩) q 6) w := by
  rw [run_sliceAt_array_h w 31 _ Tryz.arr6 .i64 _ (by omega) (by rw [Tryz.len6]; omega), Tryz.elem6, run_size8, Tryz.len6]
  simp only [Result.andThen_ok, slicedAt, Int.toNat_natCast, Nat.mul_one]
  first
    | rfl
    | (rw [if_neg (by omega)]; simp [Addr.add_lit])
end Ld
set_option maxRecDepth 10000 in
set_option maxHeartbeats 1000000 in
theorem frow_any (g i n p : Nat) (z d : Nat → Int) (w : World) (h : FRow w g n z d) (hp : p = i * n) (hn : n ≤ 6) (hi : i < n) :
  Calls Tryz.prog 116 #[.pointer (some ⟨g, 0, none⟩), .int .i64 (i : Int)] w fun e w' => e = .returned (.slice (some ⟨g, p + 1, none⟩) n (36 - p)) ∧ Below w.heap.size w w' := by
 have h36 : p + n ≤ 36 := by
  have h1 := place_le (c := n) hi
  have h2 := size_le hn hn
  omega
 have c1 := FRow.n h
 have e1 : IntKind.i64.wrap ((i : Int) * (n : Int)) = (p : Int) := by
  have : ((i * n : Nat) : Int) = (i : Int) * (n : Int) := by push_cast; rfl
  rw [← this, ← hp, IntKind.wrap_i64]; omega
 have e2 : IntKind.i64.wrap (((i : Int) + 1) * (n : Int)) = ((p + n : Nat) : Int) := by
  have : ((i * n : Nat) : Int) = (i : Int) * (n : Int) := by push_cast; rfl
  rw [Int.add_mul, Int.one_mul, ← this, ← hp, IntKind.wrap_i64]; omega
 have e0 : IntKind.i64.wrap ((i : Int) + 1) = (i : Int) + 1 := by rw [IntKind.wrap_i64]; omega
 have e3 : ∀ W, (Instr.sliceAt 30 (.pointer (some ⟨g, 1, none⟩)) (some (.int .i64 (p : Int))) (some (.int .i64 ((p : Int) + (n : Int)))) none).run Tryz.prog W = .ok (.slice (some ⟨g, p + 1, none⟩) n (36 - p)) W := by
  intro W
  have h := run_pieceF g p (p + n) W (by omega) (by omega) h36
  rw [Nat.add_sub_cancel_left] at h
  exact_mod_cast h
 have HP := Hid.mkV hp
 clear hp h
 go_enter Tryz.func116, Tryz.ntmps116
 go_wp2
 go_quiet (fail)
 go_wp2
 go_ret
 exact ⟨rfl, Vc.below_drewN (Below.refl _ _) _⟩
namespace Ld
def pt (f : Nat → Int) (t : Nat) : Nat → Int := fun k => if k < t then f k else 0
theorem pt_next (f : Nat → Int) (t k : Nat) : (if k = t then f t else pt f t k) = pt f (t + 1) k := by
  unfold pt
  by_cases e : k = t
  · subst e; rw [if_pos rfl, if_pos (by omega)]
  · rw [if_neg e]
    by_cases h : k < t
    · rw [if_pos h, if_pos (by omega)]
    · rw [if_neg h, if_neg (by omega)]
theorem pt_at {f : Nat → Int} {t k : Nat} (h : k < t) : pt f t k = f k := if_pos h
abbrev ARow (w : World) (b : Nat) (x : Nat → Int) : Prop := CRow w b 31 (vals 6 x)
theorem ARow.set {w : World} {b : Nat} {x : Nat → Int} (h : ARow w b x) (k : Nat) (v : Int) : ARow (w.setCell ⟨b, k, none⟩ (.int .i64 v)) b (fun i => if i = k then v else x i) := by
  have h' := CRow.set h k (.int .i64 v)
  rwa [vals_set] at h'
theorem ARow.congr {w : World} {b : Nat} {x y : Nat → Int} (h : ARow w b x) (e : ∀ k, k < 6 → x k = y k) : ARow w b y := by
  unfold ARow; rw [← vals_congr e]; exact h
theorem ARow.at {w : World} {b : Nat} {x : Nat → Int} (h : ARow w b x) {k : Nat} (hk : k < 6) : w.cell? ⟨b, k, none⟩ = some (.int .i64 (x k)) := h.cell (vals_at hk) rfl
theorem ARow.sl {w : World} {b : Nat} {x : Nat → Int} (h : ARow w b x) {p m ca o : Nat} (hp : p + m ≤ 6) (hc : m ≤ ca) (hc2 : ca ≤ 9223372036854775807) (ho : 0 < m → o = p) : Sl w (some ⟨b, o, none⟩) m ca (fun j => x (p + j)) :=
  ⟨hc, hc2, fun k hk => ⟨_, rfl, by rw [Addr.add_lit, ho (by omega)]; exact ARow.at h (by omega)⟩⟩
theorem zero6 : (#[.int .i64 0, .int .i64 0, .int .i64 0, .int .i64 0, .int .i64 0, .int .i64 0] : Array Value) = (vals 6 (fun _ => 0)).toArray := by kernel_rfl
end Ld
set_option maxRecDepth 10000 in
set_option maxHeartbeats 1000000 in
theorem weighed_any (g s j n : Nat) (z d l : Nat → Int) (o : Bool) (w : World) (h : FRow w g n z d) (hs : SRow w s o) (hgs : g ≠ s) (hn : n ≤ 6) (hj : j < n) (hl : ∀ k, k < j → z (j * n + k) = l k) (bl : B64 l) (bd : B64 d) :
  Calls Tryz.prog 118 #[.pointer (some ⟨g, 0, none⟩), .int .i64 (j : Int), .pointer (some ⟨s, 0, none⟩)] w fun e w' => ∃ co cc, e = .returned (.slice co j cc) ∧ Sl w' co j cc (wv l d) ∧ Fresh w.heap.size co ∧ SRow w' s (o || anyb (wg l d) j) ∧ But (· = s) w w' := by
 obtain ⟨p, hp⟩ : ∃ p, p = j * n := ⟨_, rfl⟩
 have h36 : p + n ≤ 36 := by
  have h1 := place_le (c := n) hj
  have h2 := size_le hn hn
  omega
 rw [← hp] at hl
 have HL := Hid.mkV hl
 have HR := Hid.mkV (fun W (H : FRow W g n z d) => frow_any g j n p z d W H hp hn hj)
 have rO : ARow (w.alloc (.cells (vals 6 (fun _ => 0)).toArray 31)) w.heap.size (fun _ => 0) := crow_new w _ _
 have rF := CRow.alloc h (.cells (vals 6 (fun _ => 0)).toArray 31)
 have rS := CRow.alloc hs (.cells (vals 6 (fun _ => 0)).toArray 31)
 have hB := (But.refl (· = s) w).al (.cells (vals 6 (fun _ => 0)).toArray 31)
 have hlt := h.lt
 have hslt := hs.lt
 obtain ⟨b, hb⟩ : ∃ b, b = w.heap.size := ⟨_, rfl⟩
 obtain ⟨W, hW⟩ : ∃ W, W = w.alloc (.cells (vals 6 (fun _ => 0)).toArray 31) := ⟨_, rfl⟩
 rw [← hW] at rO rF rS hB
 rw [← hb] at rO hlt hslt
 have HW := Hid.mkV hW
 have HB := Hid.mkV hb
 have HBl := Hid.mkV bl
 have HBd := Hid.mkV bd
 have HM := Hid.mkV (fun k W => qmul_any (l k) (d k) 30 W (bl k).1 (bl k).2 (bd k).1 (bd k).2 (by omega))
 have hfr : Hid (w.heap.size = b) := hb.symm
 have eh : ∀ W, (Instr.sliceAt 31 (.pointer (some ⟨b, 0, none⟩)) none (some (.int .i64 (j : Int))) none).run Tryz.prog W = .ok (.slice (some ⟨b, 0, none⟩) j 6) W := fun W => run_head6 b 0 j W (by omega)
 rw [hfr.out]
 clear hp hl h hs hW hb bl bd
 go_enter Tryz.func118, Tryz.ntmps118
 go_wp2_with (first
  | (rw [zero6, ← HW.out, ← HB.out])
  | fail)
 refine (HR.out _ rF).mono ?_
 rintro e w1 ⟨rfl, k1⟩
 have f1 := CRow.keep rF k1
 have s1 := CRow.keep rS k1
 have o1 := CRow.keep rO k1
 have b1 := hB.then k1
 clear rF rS rO hB k1
 go_wp2
 go_loopw [16] (fun i wr => ∃ k : Nat, k ≤ j ∧ i = .int .i64 (k : Int) ∧ FRow wr g n z d ∧ SRow wr s (o || anyb (wg l d) k) ∧ ARow wr b (pt (wv l d) k) ∧ But (· = s) w wr) (fun i _ => j - (intOf i).toNat)
 case atStart => exact ⟨0, by omega, rfl, f1, by simpa [anyb] using s1, o1, b1⟩
 case round =>
  obtain ⟨k, hk, rfl, fr, sr, ar, br⟩ := hrel
  by_cases h : k < j
  ·have c1 := FRow.z fr (k := p + k) (o := p + 1 + k) (by omega) (by omega)
   rw [HL.out k h] at c1
   have c2 := FRow.d fr (k := k) (o := 37 + k) (by omega) (by omega)
   have HMk := Hid.mkV (HM.out k)
   have e1 : clamp (rne (l k * d k) (2 ^ 30)) = wv l d k := rfl
   have e2 : great (rne (l k * d k) (2 ^ 30)) = wg l d k := rfl
   rw [e1, e2] at HMk
   have e3 : Hid (anyb (wg l d) (k + 1) = (anyb (wg l d) k || wg l d k)) := rfl
   obtain ⟨X, hX⟩ : ∃ X, X = wv l d k := ⟨_, rfl⟩
   obtain ⟨q, hq⟩ : ∃ q, q = wg l d k := ⟨_, rfl⟩
   obtain ⟨lk, hlk⟩ : ∃ q, q = l k := ⟨_, rfl⟩
   obtain ⟨dk', hdk⟩ : ∃ q, q = d k := ⟨_, rfl⟩
   rw [← hX, ← hq, ← hlk, ← hdk] at HMk
   rw [← hlk] at c1
   rw [← hdk] at c2
   have HX := Hid.mkV hX
   have HQ := Hid.mkV hq
   clear hX hq hlk hdk e1 e2
   go_wp2_with fail
   refine (HMk.out _).mono ?_
   rintro e w2 ⟨rfl, k2⟩
   have s2 := CRow.keep sr k2
   go_wp2_with fail
   refine (lnumber_any s X _ q _ _ s2).mono ?_
   rintro e w3 ⟨rfl, s3, k3⟩
   have a3 := crowBut (CRow.keep ar k2) k3 (by omega)
   have f3 := crowBut (CRow.keep fr k2) k3 (by omega)
   have b3 := (br.then k2).trans k3
   have z3 := ARow.at a3 (k := k) (by omega)
   have y3 := CRow.free a3 k
   go_wp2
   go_roundw
   case rel =>
    refine ⟨k + 1, by omega, by go_num, CRow.other f3 _ (by show g ≠ b; omega), ?_, ?_, b3.setNew _ (by rw [hfr.out]; exact Nat.le_refl _)⟩
    ·rw [e3.out, ← HQ.out, ← Bool.or_assoc]
     exact CRow.other s3 _ (by show s ≠ b; omega)
    ·refine (ARow.set a3 k X).congr fun i hi => ?_
     rw [HX.out]
     exact pt_next _ _ _
   case measure => simp [intOf]; omega
  ·obtain rfl : k = j := by omega
   go_wp2
   go_ret
   refine ⟨_, _, rfl, ?_, ?_, sr, br⟩
   ·refine (ARow.sl ar (p := 0) (m := k) (by omega) (by omega) (by omega) (fun _ => rfl)).congr fun i hi => ?_
    rw [Nat.zero_add]
    exact pt_at hi
   ·intro x hx
    cases hx
    exact Nat.le_refl _
end Go.Proofs.YtdgcnaijndocnaaGreatDoor
namespace Go.Proofs.YtdgcnaijndocnaaGreatDoor
open Go.RowKit Vc Mt St Qn Dt Ld
namespace Ld
def rowIn (L : Nat → Nat → Int) (i : Nat) (x : Nat → Int) : Nat → Nat → Int := fun a b => if a = i then x b else L a b
theorem mz_put {n i j k : Nat} {L : Nat → Nat → Int} {x : Nat → Int} {v : Int} (hi : i < n) (hj : j < n) (h36 : n * n ≤ 36) :
    (if k = i * n + j then v else mz n n (rowIn L i x) k) = mz n n (rowIn L i (fun b => if b = j then v else x b)) k := by
  by_cases e : k = i * n + j
  · subst e
    rw [if_pos rfl, mz_at hi hj]
    unfold rowIn
    rw [if_pos rfl]
    exact (if_pos rfl).symm
  · rw [if_neg e]
    unfold mz mpart
    by_cases h : k < n * n
    · rw [if_pos h, if_pos h]
      unfold rowIn
      by_cases e1 : k / n = i
      · rw [if_pos e1, if_pos e1]
        have e2 : k % n ≠ j := fun e2 => e (by rw [← e1, ← e2, Nat.mul_comm]; exact (Nat.div_add_mod k n).symm)
        exact (if_neg e2).symm
      · rw [if_neg e1, if_neg e1]
    · rw [if_neg h, if_neg h]
theorem mz_row {n i k : Nat} {L : Nat → Nat → Int} (hi : i < n) (hk : k < n) : mz n n L (i * n + k) = L i k := mz_at hi hk
end Ld
set_option maxRecDepth 10000 in
set_option maxHeartbeats 1000000 in
theorem fillRow_any (g s i n : Nat) (mo : Option Addr) (mc : Nat) (m : Nat → Int) (L : Nat → Nat → Int) (d : Nat → Int) (o : Bool) (w : World) (h : FRow w g n (mz n n L) d) (hs : SRow w s o) (hgs : g ≠ s)
    (hm : Sl w mo n mc m) (hmb : ∀ x, mo = some x → x.block ≠ s ∧ x.block ≠ g) (bm : B64 m) (hn : n ≤ 6) (hi : i < n) (bL : ∀ a, B64 (L a)) (bd : B64 d) (hd : ∀ k, k < i → d k ≠ 0) (hz : ∀ b, L i b = 0) :
    Calls Tryz.prog 57 #[.pointer (some ⟨g, 0, none⟩), .int .i64 (i : Int), .slice mo n mc, .pointer (some ⟨s, 0, none⟩)] w fun e w' => e = .returned (.tuple #[]) ∧
      FRow w' g n (mz n n (rowIn L i (fun b => if b = i then 1073741824 else rowV m L d i b))) (fun a => if a = i then midV m (rowV m L d i) d i else d a) ∧ SRow w' s (o || (rowO m L d i || midO m (rowV m L d i) d i)) ∧ But (fun k => k = s ∨ k = g) w w' := by
  obtain ⟨x, hmo, hmc⟩ := hm.get
  obtain rfl := hmo (by omega)
  have l1 := hm.le
  have l2 := hm.cap
  have xb := hmb x rfl
  have h36 := size_le hn hn
  obtain ⟨p, hp⟩ : ∃ p, p = i * n := ⟨_, rfl⟩
  have hpn : p + n ≤ 36 := by
    have h1 := place_le (c := n) hi
    omega
  have HR := frow_any g i n p (mz n n L) d w h hp hn hi
  have HP := Hid.mkV hp
  have e0 : rowIn L i (rowV m L d 0) = L := by
    funext a b
    unfold rowIn
    by_cases e : a = i
    · subst e; rw [if_pos rfl, hz b]; rfl
    · rw [if_neg e]
  have HZ := Hid.mkV e0
  have HR' := Hid.mkV HR
  have HD := Hid.mkV hd
  have HC := Hid.mkV hmc
  have bx : ∀ j, B64 (rowV m L d j) := fun j => b64_of (rowV_bd m L d j)
  have HW : Hid (∀ j, j < i → ∀ (o : Bool) W, FRow W g n (mz n n (rowIn L i (rowV m L d j))) d → SRow W s o → Calls Tryz.prog 118 #[.pointer (some ⟨g, 0, none⟩), .int .i64 (j : Int), .pointer (some ⟨s, 0, none⟩)] W fun e w' => ∃ co cc, e = .returned (.slice co j cc) ∧ Sl w' co j cc (wv (L j) d) ∧ Fresh W.heap.size co ∧ SRow w' s (o || anyb (wg (L j) d) j) ∧ But (· = s) W w') := fun j hj o W H1 H2 =>
    weighed_any g s j n _ d (L j) o W H1 H2 hgs hn (by omega) (fun k hk => by
      rw [mz_row (by omega) (by omega)]
      unfold rowIn
      rw [if_neg (by omega)]) (bL j) bd
  have HWi : Hid (∀ (o : Bool) W, FRow W g n (mz n n (rowIn L i (rowV m L d i))) d → SRow W s o → Calls Tryz.prog 118 #[.pointer (some ⟨g, 0, none⟩), .int .i64 (i : Int), .pointer (some ⟨s, 0, none⟩)] W fun e w' => ∃ co cc, e = .returned (.slice co i cc) ∧ Sl w' co i cc (wv (rowV m L d i) d) ∧ Fresh W.heap.size co ∧ SRow w' s (o || anyb (wg (rowV m L d i) d) i) ∧ But (· = s) W w') := fun o W H1 H2 =>
    weighed_any g s i n _ d (rowV m L d i) o W H1 H2 hgs hn hi (fun k hk => by
      rw [mz_row hi (by omega)]
      unfold rowIn
      rw [if_pos rfl]) (bx i) bd
  have HL := Hid.mkV (fun j (hj : j ≤ i) (bo : Option Addr) (cb : Nat) (b : Nat → Int) (o : Bool) W (H1 : FRow W g n (mz n n (rowIn L i (rowV m L d j))) d) (H2 : SRow W s o) (H3 : Sl W bo j cb b) (bb : B64 b) =>
    lless_any s (m j) (some ⟨g, p + 1, none⟩) bo j (36 - p) cb (rowV m L d j) b o W H2 ((FRow.sl H1 (p := p) (m := j) (ca := 36 - p) (o := p + 1) (by omega) (by omega) (by omega) rfl).congr fun k hk => by
      rw [hp, mz_row hi (by omega)]
      unfold rowIn
      rw [if_pos rfl]) H3 (bx j) bb (by omega) (bm j).1 (bm j).2)
  have HQ := Hid.mkV (fun a j (hj : j < i) (ha0 : -4611686018427387903 ≤ a) (ha1 : a ≤ 4611686018427387903) W => qdiv_any a (d j) 30 W (by omega) (by omega) (bd j).1 (bd j).2 (hd j hj) (by omega))
  have hlt := h.lt
  have hslt := hs.lt
  rw [← e0] at h
  clear HR hm hmo hmc hmb hz hd e0 hp bm bL bd
  go_enter Tryz.func57, Tryz.ntmps57
  go_wp2_with fail
  refine HR'.out.mono ?_
  rintro e w1 ⟨rfl, k1⟩
  have f1 := CRow.keep h k1
  have s1 := CRow.keep hs k1
  have b1 := but_of (P := fun k => k = s ∨ k = g) k1
  clear h hs
  go_wp2
  go_loopw [15] (fun ix wr => ∃ j : Nat, j ≤ i ∧ ix = .int .i64 (j : Int) ∧ FRow wr g n (mz n n (rowIn L i (rowV m L d j))) d ∧ SRow wr s (o || rowO m L d j) ∧ But (fun k => k = s ∨ k = g) w wr) (fun ix _ => i - (intOf ix).toNat)
  case atStart => exact ⟨0, by omega, rfl, f1, by simpa [rowO] using s1, b1⟩
  case round =>
    obtain ⟨j, hj, rfl, fr, sr, br⟩ := hrel
    by_cases hji : j < i
    · have cm : wr.cell? (x.add j) = some (.int .i64 (m j)) := br.cell (HC.out j (by omega)) (by rw [addr_block]; omega)
      have HWj := Hid.mkV (HW.out j hji)
      have HLj := Hid.mkV (HL.out j hj)
      have bW : Hid (B64 (wv (L j) d)) := b64_of (wv_bd _ _)
      have bR := lessV_bd (m j) (rowV m L d j) (wv (L j) d) j
      have HQj := Hid.mkV (HQ.out _ j hji bR.1 bR.2)
      have cd' := FRow.d fr (k := j) (o := 37 + j) (by omega) (by omega)
      have e1 : signed (lessV (m j) (rowV m L d j) (wv (L j) d) j) (d j) (clamp (rne (((lessV (m j) (rowV m L d j) (wv (L j) d) j).natAbs : Int) * 2 ^ 30) ((d j).natAbs : Int))) = divV (lessV (m j) (rowV m L d j) (wv (L j) d) j) (d j) 30 := rfl
      have e2 : great (rne (((lessV (m j) (rowV m L d j) (wv (L j) d) j).natAbs : Int) * 2 ^ 30) ((d j).natAbs : Int)) = divO (lessV (m j) (rowV m L d j) (wv (L j) d) j) (d j) 30 := rfl
      rw [e1, e2] at HQj
      have e3 : Hid (∀ k, rowV m L d (j + 1) k = if k = j then divV (lessV (m j) (rowV m L d j) (wv (L j) d) j) (d j) 30 else rowV m L d j k) := fun k => rfl
      have e4 : Hid (rowO m L d (j + 1) = (rowO m L d j || (anyb (wg (L j) d) j || lessO (m j) (rowV m L d j) (wv (L j) d) j || divO (lessV (m j) (rowV m L d j) (wv (L j) d) j) (d j) 30))) := rfl
      have HLk : Hid (∀ (bo : Option Addr) (cb : Nat) (o : Bool) W, FRow W g n (mz n n (rowIn L i (rowV m L d j))) d → SRow W s o → Sl W bo j cb (wv (L j) d) → Calls Tryz.prog 117 #[.pointer (some ⟨s, 0, none⟩), .int .i64 (m j), .slice (some ⟨g, p + 1, none⟩) j (36 - p), .slice bo j cb] W fun e w' => e = .returned (.int .i64 (lessV (m j) (rowV m L d j) (wv (L j) d) j)) ∧ SRow w' s (o || lessO (m j) (rowV m L d j) (wv (L j) d) j) ∧ But (· = s) W w') := fun bo cb o W H1 H2 H3 => HLj.out bo cb _ o W H1 H2 H3 bW.out
      obtain ⟨R, hR⟩ : ∃ R, R = lessV (m j) (rowV m L d j) (wv (L j) d) j := ⟨_, rfl⟩
      obtain ⟨q1, hq1⟩ : ∃ q, q = lessO (m j) (rowV m L d j) (wv (L j) d) j := ⟨_, rfl⟩
      rw [← hR] at HQj HLk e3 e4 bR
      rw [← hq1] at HLk e4
      obtain ⟨D, hD⟩ : ∃ D, D = divV R (d j) 30 := ⟨_, rfl⟩
      obtain ⟨q2, hq2⟩ : ∃ q, q = divO R (d j) 30 := ⟨_, rfl⟩
      rw [← hD] at HQj e3
      rw [← hq2] at HQj e4
      obtain ⟨mj, hmj⟩ : ∃ q, q = m j := ⟨_, rfl⟩
      obtain ⟨dj, hdj⟩ : ∃ q, q = d j := ⟨_, rfl⟩
      rw [← hmj] at HLk cm
      rw [← hdj] at HQj cd'
      have HDJ := Hid.mkV hdj
      clear hR hq1 hD hq2 hmj hdj e1 e2 HLj bW
      have cmd : wr.drew.cell? (x.add j) = some (.int .i64 mj) := cm
      have i0 : (0 : Int) ≤ (j : Int) := by omega
      have i1 : (j : Int) < (n : Int) := by omega
      have i2 : (j : Int) ≤ (n : Int) := by omega
      have i3 : (j : Int) ≤ ((36 - p : Nat) : Int) := by omega
      go_wp2
      go_region_held3 (fun w' => w'.cell? (x.add j) = some (.int .i64 mj))
        (first | with_reducible exact cm | with_reducible exact cmd | with_reducible exact cm2 | with_reducible exact cm3)
        (first
          | (go_at_call 118; refine (HWj.out _ _ (CRow.drew fr) (CRow.drew sr)).mono ?_; rintro e w2 ⟨co, cc, rfl, sl2, fr2, s2, k2'⟩
             have k2 : But (· = s) wr w2 := (But.refl _ _).drew.trans k2'
             have cm2 := k2.cell cm (by rw [addr_block]; omega)
             have f2 := crowBut fr k2 (by omega)
             have b2 : But (fun k => k = s ∨ k = g) w w2 := br.trans (k2.mono fun k e => Or.inl e)
             clear k2')
          | (go_at_call 117; refine (HLk.out co cc _ _ f2 s2 sl2).mono ?_; rintro e w3 ⟨rfl, s3, k3⟩
             have cm3 := k3.cell cm2 (by rw [addr_block]; omega)
             have f3 := crowBut f2 k3 (by omega)
             have b3 : But (fun k => k = s ∨ k = g) w w3 := b2.trans (k3.mono fun k e => Or.inl e)))
      have cd3 := FRow.d f3 (k := j) (o := 37 + j) (by omega) (by omega)
      rw [← HDJ.out] at cd3
      clear cd' HW HWi HL HQ HR' HZ HC HD
      go_wp2_with fail
      refine (HQj.out _).mono ?_
      rintro e w4 ⟨rfl, k4⟩
      have s4 := CRow.keep s3 k4
      have f4 := CRow.keep f3 k4
      have b4 := b3.then k4
      go_wp2_with fail
      refine (lnumber_any s D _ q2 _ _ s4).mono ?_
      rintro e w5 ⟨rfl, s5, k5⟩
      have f5 := crowBut f4 k5 (by omega)
      have b5 := b4.trans (k5.mono fun k e => Or.inl e)
      have z5 := FRow.z f5 (k := p + j) (o := p + 1 + j) (by omega) (by omega)
      have y5 := CRow.free f5 (p + 1 + j)
      go_wp2
      go_roundw
      case rel =>
        refine ⟨j + 1, by omega, by go_num, ?_, ?_, b5.set _ (Or.inr rfl)⟩
        · refine (FRow.setz f5 (k := p + j) (o := p + 1 + j) (by omega) (by omega) D).congr (fun k hk => ?_) (fun _ _ => rfl)
          rw [HP.out, mz_put hi (by omega) h36]
          congr 2
          funext b
          rw [e3.out]
        · have e5 := CRow.other s5 (p := ⟨g, p + 1 + j, none⟩) (.int .i64 D) (fun e => hgs e.symm)
          rw [e4.out]
          simp only [Bool.or_assoc] at e5 ⊢
          exact e5
      case measure => simp [intOf]; omega
    · obtain rfl : j = i := by omega
      have cm : wr.cell? (x.add j) = some (.int .i64 (m j)) := br.cell (HC.out j (by omega)) (by rw [addr_block]; omega)
      have HLj := Hid.mkV (HL.out j hj)
      have bW : Hid (B64 (wv (rowV m L d j) d)) := b64_of (wv_bd _ _)
      have HLk : Hid (∀ (bo : Option Addr) (cb : Nat) (o : Bool) W, FRow W g n (mz n n (rowIn L j (rowV m L d j))) d → SRow W s o → Sl W bo j cb (wv (rowV m L d j) d) → Calls Tryz.prog 117 #[.pointer (some ⟨s, 0, none⟩), .int .i64 (m j), .slice (some ⟨g, p + 1, none⟩) j (36 - p), .slice bo j cb] W fun e w' => e = .returned (.int .i64 (lessV (m j) (rowV m L d j) (wv (rowV m L d j) d) j)) ∧ SRow w' s (o || lessO (m j) (rowV m L d j) (wv (rowV m L d j) d) j) ∧ But (· = s) W w') := fun bo cb o W H1 H2 H3 => HLj.out bo cb _ o W H1 H2 H3 bW.out
      have e3 : Hid (midV m (rowV m L d j) d j = lessV (m j) (rowV m L d j) (wv (rowV m L d j) d) j) := rfl
      have e4 : Hid (midO m (rowV m L d j) d j = (anyb (wg (rowV m L d j) d) j || lessO (m j) (rowV m L d j) (wv (rowV m L d j) d) j)) := rfl
      obtain ⟨R, hR⟩ : ∃ R, R = lessV (m j) (rowV m L d j) (wv (rowV m L d j) d) j := ⟨_, rfl⟩
      obtain ⟨q1, hq1⟩ : ∃ q, q = lessO (m j) (rowV m L d j) (wv (rowV m L d j) d) j := ⟨_, rfl⟩
      rw [← hR] at HLk e3
      rw [← hq1] at HLk e4
      obtain ⟨mj, hmj⟩ : ∃ q, q = m j := ⟨_, rfl⟩
      rw [← hmj] at HLk cm
      clear hR hq1 hmj HLj bW
      have cmd : wr.drew.cell? (x.add j) = some (.int .i64 mj) := cm
      have i0 : (0 : Int) ≤ (j : Int) := by omega
      have i1 : (j : Int) < (n : Int) := by omega
      have i2 : (j : Int) ≤ (n : Int) := by omega
      have i3 : (j : Int) ≤ ((36 - p : Nat) : Int) := by omega
      have i4 : (j : Int) < 6 := by omega
      go_wp2
      go_region_held3 (fun w' => w'.cell? (x.add j) = some (.int .i64 mj))
        (first | with_reducible exact cm | with_reducible exact cmd | with_reducible exact cm2 | with_reducible exact cm3 | with_reducible exact cm4 _)
        (first
          | (go_at_call 118; refine (HWi.out _ _ (CRow.drew fr) (CRow.drew sr)).mono ?_; rintro e w2 ⟨co, cc, rfl, sl2, fr2, s2, k2'⟩
             have k2 : But (· = s) wr w2 := (But.refl _ _).drew.trans k2'
             have cm2 := k2.cell cm (by rw [addr_block]; omega)
             have f2 := crowBut fr k2 (by omega)
             have b2 : But (fun k => k = s ∨ k = g) w w2 := br.trans (k2.mono fun k e => Or.inl e)
             clear k2')
          | (go_at_call 117; refine (HLk.out co cc _ _ f2 s2 sl2).mono ?_; rintro e w3 ⟨rfl, s3, k3⟩
             have cm3 := k3.cell cm2 (by rw [addr_block]; omega)
             have f3 := crowBut f2 k3 (by omega)
             have b3 : But (fun k => k = s ∨ k = g) w w3 := b2.trans (k3.mono fun k e => Or.inl e)
             have cd3 := FRow.d f3 (k := j) (o := 37 + j) (by omega) (by omega)
             have yd3 := CRow.free f3 (37 + j)
             have cm4 : ∀ v, (w3.setCell ⟨g, 37 + j, none⟩ v).cell? (x.add j) = some (.int .i64 mj) := fun v => ((But.refl (fun k => k = g) w3).set v rfl).cell cm3 (by rw [addr_block]; omega)))
      have f4 := FRow.setd f3 (k := j) (o := 37 + j) (by omega) R
      have s4 := CRow.other s3 (p := ⟨g, 37 + j, none⟩) (.int .i64 R) (fun e => hgs e.symm)
      have b4 := b3.set (p := ⟨g, 37 + j, none⟩) (.int .i64 R) (Or.inr rfl)
      obtain ⟨w4, hw4⟩ : ∃ W, W = w3.setCell ⟨g, 37 + j, none⟩ (.int .i64 R) := ⟨_, rfl⟩
      rw [← hw4] at f4 s4 b4 ⊢
      have z4 := FRow.z f4 (k := p + j) (o := p + 1 + j) (by omega) (by omega)
      have y4 := CRow.free f4 (p + 1 + j)
      clear hw4 cm4 cd3 yd3 cm3 f3 s3 b3 k3 f2 s2 b2 k2 cm2 HW HWi HL HQ HR' HZ HC HD
      go_wp2
      go_end0
      refine ⟨rfl, ?_, ?_, b4.set _ (Or.inr rfl)⟩
      · refine (FRow.setz f4 (k := p + j) (o := p + 1 + j) (by omega) (by omega) 1073741824).congr (fun k hk => ?_) (fun a ha => ?_)
        · rw [HP.out, mz_put hi hi h36]
        · rw [e3.out]
      · have e5 := CRow.other s4 (p := ⟨g, p + 1 + j, none⟩) (.int .i64 1073741824) (fun e => hgs e.symm)
        rw [e4.out]
        simp only [Bool.or_assoc] at e5 ⊢
        exact e5
end Go.Proofs.YtdgcnaijndocnaaGreatDoor
namespace Go.Proofs.YtdgcnaijndocnaaGreatDoor
open Go.RowKit Vc Mt St Qn Dt Ld
namespace Ld
def okD (N : Nat) (x : Int) (k : Nat) : Bool := if N ≤ k then x == 0 else decide (1 ≤ x) && decide (x ≤ 4611686018427387903)
def okL (N : Nat) (x : Int) (i j : Nat) : Bool := if N ≤ i ∨ i < j then x == 0 else if j = i then x == 1073741824 else !great x
def FMay (n : Int) (z d : Nat → Int) : Prop := 1 ≤ n ∧ n ≤ 6 ∧ (∀ k, k < 6 → okD n.toNat (d k) k = true) ∧ ∀ k, k < 36 → okL n.toNat (z k) (k / n.toNat) (k % n.toNat) = true
open Classical in
noncomputable def resC (p : Prop) : Value := if p then .nilIface else .iface 70 (.int .i64 1)
theorem resC_yes {p : Prop} (h : p) : resC p = .nilIface := if_pos h
theorem resC_no {p : Prop} (h : ¬ p) : resC p = .iface 70 (.int .i64 1) := if_neg h
theorem run_at36 (w : World) (z : Nat → Int) : ∀ {k : Nat}, k < 36 → (Instr.index 30 (.agg (vals 36 z).toArray) (.int .i64 (k : Int))).run Tryz.prog w = .ok (.int .i64 (z k)) w
  | 0, _ => by kernel_rfl
  | 1, _ => by kernel_rfl
  | 2, _ => by kernel_rfl
  | 3, _ => by kernel_rfl
  | 4, _ => by kernel_rfl
  | 5, _ => by kernel_rfl
  | 6, _ => by kernel_rfl
  | 7, _ => by kernel_rfl
  | 8, _ => by kernel_rfl
  | 9, _ => by kernel_rfl
  | 10, _ => by kernel_rfl
  | 11, _ => by kernel_rfl
  | 12, _ => by kernel_rfl
  | 13, _ => by kernel_rfl
  | 14, _ => by kernel_rfl
  | 15, _ => by kernel_rfl
  | 16, _ => by kernel_rfl
  | 17, _ => by kernel_rfl
  | 18, _ => by kernel_rfl
  | 19, _ => by kernel_rfl
  | 20, _ => by kernel_rfl
  | 21, _ => by kernel_rfl
  | 22, _ => by kernel_rfl
  | 23, _ => by kernel_rfl
  | 24, _ => by kernel_rfl
  | 25, _ => by kernel_rfl
  | 26, _ => by kernel_rfl
  | 27, _ => by kernel_rfl
  | 28, _ => by kernel_rfl
  | 29, _ => by kernel_rfl
  | 30, _ => by kernel_rfl
  | 31, _ => by kernel_rfl
  | 32, _ => by kernel_rfl
  | 33, _ => by kernel_rfl
  | 34, _ => by kernel_rfl
  | 35, _ => by kernel_rfl
  | k + 36, h => by omega
theorem run_at6 (w : World) (z : Nat → Int) : ∀ {k : Nat}, k < 6 → (Instr.index 31 (.agg (vals 6 z).toArray) (.int .i64 (k : Int))).run Tryz.prog w = .ok (.int .i64 (z k)) w
  | 0, _ => by kernel_rfl
  | 1, _ => by kernel_rfl
  | 2, _ => by kernel_rfl
  | 3, _ => by kernel_rfl
  | 4, _ => by kernel_rfl
  | 5, _ => by kernel_rfl
  | k + 6, h => by omega
theorem is36 : Is 30 36 := ⟨by kernel_rfl, ⟨_, Tryz.arrM, rfl⟩⟩
theorem is6 : Is 31 6 := ⟨by kernel_rfl, ⟨_, Tryz.arr6, rfl⟩⟩
theorem FRow.rangeL {w : World} {g : Nat} {n : Int} {z d : Nat → Int} (h : FRow w g n z d) : w.rangeAt g 1 (vals 36 z) :=
  CRow.mid h fun j v hv => by
    have hj : j < 36 := by
      rcases Nat.lt_or_ge j 36 with k | k
      · exact k
      · rw [List.getElem?_eq_none (by rw [vals_len]; exact k)] at hv; cases hv
    rw [vals_at hj] at hv
    rw [Nat.add_comm, fvals_z hj]; exact hv
theorem FRow.rangeD {w : World} {g : Nat} {n : Int} {z d : Nat → Int} (h : FRow w g n z d) : w.rangeAt g 37 (vals 6 d) :=
  CRow.mid h fun j v hv => by
    have hj : j < 6 := by
      rcases Nat.lt_or_ge j 6 with k | k
      · exact k
      · rw [List.getElem?_eq_none (by rw [vals_len]; exact k)] at hv; cases hv
    rw [vals_at hj] at hv
    rw [Nat.add_comm, fvals_d hj]; exact hv
end Ld
set_option maxHeartbeats 400000 in
theorem mayD_any (g i N : Nat) (z d : Nat → Int) (x : Int) (w : World) (h : FRow w g N z d) :
    Calls Tryz.prog 126 #[.pointer (some ⟨g, 0, none⟩), .int .i64 x, .int .i64 (i : Int)] w fun e w' => e = .returned (.bool (okD N x i)) ∧ w' = w := by
  have c := FRow.n h
  clear h
  by_cases h1 : N ≤ i
  · have e : okD N x i = (x == 0) := by unfold okD; rw [if_pos h1]
    rw [e]
    clear e
    go_enter Tryz.func126, Tryz.ntmps126
    go_wp2
    go_ret
    exact ⟨rfl, rfl⟩
  · by_cases h2 : 1 ≤ x
    · have e1 : decide (x ≥ 1) = true := decide_eq_true h2
      have e : okD N x i = decide (x ≤ 4611686018427387903) := by unfold okD; rw [if_neg h1, decide_eq_true h2, Bool.true_and]
      rw [e]
      clear e
      go_enter Tryz.func126, Tryz.ntmps126
      go_wp2
      go_ret
      exact ⟨rfl, rfl⟩
    · have e1 : decide (x ≥ 1) = false := decide_eq_false h2
      have e : okD N x i = false := by unfold okD; rw [if_neg h1, decide_eq_false h2, Bool.false_and]
      rw [e]
      clear e
      go_enter Tryz.func126, Tryz.ntmps126
      go_wp2
      go_ret
      exact ⟨rfl, rfl⟩
set_option maxHeartbeats 400000 in
theorem mayL_any (g i j N : Nat) (z d : Nat → Int) (x : Int) (w : World) (h : FRow w g N z d) :
  Calls Tryz.prog 127 #[.pointer (some ⟨g, 0, none⟩), .int .i64 x, .int .i64 (i : Int), .int .i64 (j : Int)] w fun e w' => e = .returned (.bool (okL N x i j)) ∧ w' = w := by
 have c := FRow.n h
 clear h
 by_cases h1 : N ≤ i
 ·have e1 : decide ((i : Int) ≥ (N : Int)) = true := decide_eq_true (by omega)
  have e : okL N x i j = (x == 0) := by unfold okL; rw [if_pos (Or.inl h1)]
  rw [e]
  clear e
  go_enter Tryz.func127, Tryz.ntmps127
  go_wp2
  go_ret
  exact ⟨rfl, rfl⟩
 ·have e1 : decide ((i : Int) ≥ (N : Int)) = false := decide_eq_false (by omega)
  by_cases h2 : i < j
  ·have e2 : decide ((j : Int) > (i : Int)) = true := decide_eq_true (by omega)
   have e : okL N x i j = (x == 0) := by unfold okL; rw [if_pos (Or.inr h2)]
   rw [e]
   clear e
   go_enter Tryz.func127, Tryz.ntmps127
   go_wp2
   go_ret
   exact ⟨rfl, rfl⟩
  ·have e2 : decide ((j : Int) > (i : Int)) = false := decide_eq_false (by omega)
   by_cases h3 : j = i
   ·have e3 : ((j : Int) == (i : Int)) = true := by simp; omega
    have e : okL N x i j = (x == 1073741824) := by unfold okL; rw [if_neg (by omega), if_pos h3]
    rw [e]
    clear e h3
    go_enter Tryz.func127, Tryz.ntmps127
    go_wp2
    go_ret
    exact ⟨rfl, rfl⟩
   ·have e3 : ((j : Int) == (i : Int)) = false := by simp; omega
    have e : okL N x i j = !great x := by unfold okL; rw [if_neg (by omega), if_neg h3]
    rw [e]
    clear e h3
    go_enter Tryz.func127, Tryz.ntmps127
    go_wp2_with fail
    refine (clamp_any x _).mono ?_
    rintro e w1 ⟨rfl, rfl⟩
    go_wp2
    go_ret
    exact ⟨rfl, rfl⟩
set_option maxRecDepth 10000 in
set_option maxHeartbeats 1000000 in
theorem fcheck_any (n : Int) (z d : Nat → Int) (w : World) :
  Calls Tryz.prog 63 #[.agg (fvals n z d).toArray] w fun e w' => e = .returned (resC (FMay n z d)) ∧ Below w.heap.size w w' := by
 have rF : FRow (w.alloc (.cells (fvals n z d).toArray 33)) w.heap.size n z d := crow_new w _ _
 have hB := below_al (Below.refl _ w) (.cells (fvals n z d).toArray 33)
 obtain ⟨W, hW⟩ : ∃ W, W = w.alloc (.cells (fvals n z d).toArray 33) := ⟨_, rfl⟩
 obtain ⟨g, hg⟩ : ∃ g, g = w.heap.size := ⟨_, rfl⟩
 rw [← hW] at rF hB
 rw [← hg] at rF
 have HW := Hid.mkV hW
 have HG := Hid.mkV hg
 have HF : Hid (FMay n z d ↔ 1 ≤ n ∧ n ≤ 6 ∧ (∀ k, k < 6 → okD n.toNat (d k) k = true) ∧ ∀ k, k < 36 → okL n.toNat (z k) (k / n.toNat) (k % n.toNat) = true) := Iff.rfl
 have HY : Hid (FMay n z d → resC (FMay n z d) = .nilIface) := fun h => resC_yes h
 have HN : Hid (¬ FMay n z d → resC (FMay n z d) = .iface 70 (.int .i64 1)) := fun h => resC_no h
 obtain ⟨V, hV⟩ : ∃ V, V = resC (FMay n z d) := ⟨_, rfl⟩
 obtain ⟨M, hM⟩ : ∃ M, M = FMay n z d := ⟨_, rfl⟩
 rw [← hV] at HY HN ⊢
 rw [← hM] at HF HY HN
 have cN := FRow.n rF
 have rL := FRow.rangeL rF
 have rD := FRow.rangeD rF
 have HR := Hid.mkV rF
 have HRL := Hid.mkV rL
 have HRD := Hid.mkV rD
 clear hV hM hW hg rF rL rD
 by_cases h1 : n < 1
 ·have e1 : decide (n < 1) = true := decide_eq_true h1
  go_enter Tryz.func63, Tryz.ntmps63
  go_wp2_with (first
   | (rw [← HW.out, ← HG.out]; refine wpList_loadF (by rfl) _ (by rfl) _ _ _ (by rfl) (by with_reducible exact cN) ?_)
   | fail)
  go_ret
  exact ⟨by rw [HN.out (fun h => by have := HF.out.1 h; omega)]; rfl, hB⟩
 have e1 : decide (n < 1) = false := decide_eq_false h1
 by_cases h2 : 6 < n
 ·have e2 : decide (n > 6) = true := decide_eq_true h2
  go_enter Tryz.func63, Tryz.ntmps63
  go_wp2_with (first
   | (rw [← HW.out, ← HG.out]; refine wpList_loadF (by rfl) _ (by rfl) _ _ _ (by rfl) (by with_reducible exact cN) ?_)
   | fail)
  go_ret
  exact ⟨by rw [HN.out (fun h => by have := HF.out.1 h; omega)]; rfl, hB⟩
 have e2 : decide (n > 6) = false := decide_eq_false h2
 obtain ⟨N, rfl⟩ : ∃ N : Nat, n = N := ⟨n.toNat, by omega⟩
 have eN : ((N : Int)).toNat = N := Int.toNat_natCast N
 rw [eN] at HF
 have HMD := Hid.mkV (fun k x W (H : FRow W g N z d) => mayD_any g k N z d x W H)
 have HML := Hid.mkV (fun i j x W (H : FRow W g N z d) => mayL_any g i j N z d x W H)
 go_enter Tryz.func63, Tryz.ntmps63
 go_wp2_with (first
  | (rw [← HW.out, ← HG.out]; refine wpList_loadF (by rfl) _ (by rfl) _ _ _ (by rfl) (by with_reducible exact cN) ?_)
  | (refine wpList_part is6 (by rfl) _ (by rfl) _ _ _ (by rfl) HRD.out (vals_len _ _) ?_)
  | fail)
 go_loopw [18] (fun i wr => ∃ k : Nat, k ≤ 6 ∧ i = .int .i64 (k : Int) ∧ wr = W ∧ Hid (∀ q, q < k → okD N (d q) q = true)) (fun i _ => 6 - (intOf i).toNat)
 case atStart => exact ⟨0, by omega, rfl, by first | rfl | trivial, fun q hq => by omega⟩
 case round =>
  obtain ⟨k, hk, rfl, rfl, hok⟩ := hrel
  by_cases h : k < 6
  ·have ix : ∀ W', (Instr.index 31 (.agg (vals 6 d).toArray) (.int .i64 (k : Int))).run Tryz.prog W' = .ok (.int .i64 (d k)) W' := fun W' => run_at6 W' d h
   go_wp2_with fail
   refine (HMD.out k (d k) _ HR.out).mono ?_
   rintro e w1 ⟨rfl, rfl⟩
   cases hb : okD N (d k) k with
   | false =>
    go_wp2
    go_ret
    exact ⟨by rw [HN.out (fun h => by have := (HF.out.1 h).2.2.1 k (by omega); rw [hb] at this; cases this)]; rfl, hB⟩
   | true =>
    go_wp2
    go_roundw
    case rel => exact ⟨k + 1, by omega, by go_num, by first | rfl | trivial, fun q hq => by
      rcases Nat.lt_or_ge q k with c | c
      ·exact hok.out q c
      ·obtain rfl : q = k := by omega
       exact hb⟩
    case measure => simp [intOf]; omega
  ·obtain rfl : k = 6 := by omega
   go_wp2_with (first
    | (refine wpList_part is36 (by rfl) _ (by rfl) _ _ _ (by rfl) HRL.out (vals_len _ _) ?_)
    | fail)
   go_loopw [30] (fun i w' => ∃ k : Nat, k ≤ 36 ∧ i = .int .i64 (k : Int) ∧ (∃ t, w' = wr.drewN t) ∧ Hid (∀ q, q < k → okL N (z q) (q / N) (q % N) = true)) (fun i _ => 36 - (intOf i).toNat)
   case atStart => exact ⟨0, by omega, rfl, ⟨0, by first | rfl | trivial⟩, fun q hq => by omega⟩
   case round =>
    obtain ⟨k, hk, rfl, ⟨t, hwt⟩, hok2⟩ := hrel
    have HRq : Hid (FRow wr g N z d) := by rw [hwt]; exact HR.out
    have hBq : Below w.heap.size w wr := by rw [hwt]; exact below_drewN hB t
    have HT := Hid.mkV hwt
    clear hwt
    by_cases h : k < 36
    ·have ix : ∀ W', (Instr.index 30 (.agg (vals 36 z).toArray) (.int .i64 (k : Int))).run Tryz.prog W' = .ok (.int .i64 (z k)) W' := fun W' => run_at36 W' z h
     have q1 : Int.tdiv (k : Int) (N : Int) = ((k / N : Nat) : Int) := rfl
     have q2 : Int.tmod (k : Int) (N : Int) = ((k % N : Nat) : Int) := rfl
     have q3 : k / N ≤ k := Nat.div_le_self _ _
     have q4 : k % N ≤ k := Nat.mod_le _ _
     have q5 : ((N : Int) == 0) = false := by simp; omega
     have q8 : ¬ (N : Int) = 0 := by omega
     have q9 : ¬ N = 0 := by omega
     have q10 : IntKind.i64.wrap (N : Int) = (N : Int) := by rw [IntKind.wrap_i64]; omega
     obtain ⟨i, hi⟩ : ∃ i, i = k / N := ⟨_, rfl⟩
     obtain ⟨j, hj⟩ : ∃ j, j = k % N := ⟨_, rfl⟩
     have HI := Hid.mkV hi
     have HJ := Hid.mkV hj
     rw [← hi] at q1 q3
     rw [← hj] at q2 q4
     clear hi hj
     have q6 : IntKind.i64.wrap (i : Int) = (i : Int) := by rw [IntKind.wrap_i64]; omega
     have q7 : IntKind.i64.wrap (j : Int) = (j : Int) := by rw [IntKind.wrap_i64]; omega
     have cNd := FRow.n HRq.out
     obtain ⟨zk, hzk⟩ : ∃ x, x = z k := ⟨_, rfl⟩
     rw [← hzk] at ix
     have HZ := Hid.mkV hzk
     clear hzk
     go_wp2
     go_quiet (first | (go_at_call 127; refine Calls.quiet_of_same (HML.out i j zk _ HRq.out)))
     cases hb : okL N zk i j with
     | false =>
      go_wp2
      go_ret
      exact ⟨by rw [HN.out (fun h => by have := (HF.out.1 h).2.2.2 k (by omega); rw [← HZ.out, ← HI.out, ← HJ.out, hb] at this; cases this)]; rfl, below_drewN hBq _⟩
     | true =>
      go_wp2
      go_roundw
      case rel => exact ⟨k + 1, by omega, by go_num, ⟨t + nq, by rw [HT.out]; simp⟩, fun q hq => by
        rcases Nat.lt_or_ge q k with c | c
        ·exact hok2.out q c
        ·obtain rfl : q = k := by omega
         rw [← HZ.out, ← HI.out, ← HJ.out]
         exact hb⟩
      case measure => simp [intOf]; omega
    ·obtain rfl : k = 36 := by omega
     go_wp2
     go_ret
     exact ⟨by rw [HY.out (HF.out.2 ⟨by omega, by omega, fun q hq => hok.out q hq, fun q hq => hok2.out q hq⟩)]; rfl, hBq⟩
end Go.Proofs.YtdgcnaijndocnaaGreatDoor
namespace Go.Proofs.YtdgcnaijndocnaaGreatDoor
open Go.RowKit Vc Mt St Qn Dt Ld
namespace Ld
abbrev NRow (w : World) (b n : Nat) (x : Nat → Int) : Prop := CRow w b 2 (vals n x)
theorem NRow.set {w : World} {b n : Nat} {x : Nat → Int} (h : NRow w b n x) (k : Nat) (v : Int) : NRow (w.setCell ⟨b, k, none⟩ (.int .i64 v)) b n (fun i => if i = k then v else x i) := by
  have h' := CRow.set h k (.int .i64 v)
  rwa [vals_set] at h'
theorem NRow.congr {w : World} {b n : Nat} {x y : Nat → Int} (h : NRow w b n x) (e : ∀ k, k < n → x k = y k) : NRow w b n y := by
  unfold NRow; rw [← vals_congr e]; exact h
theorem NRow.at {w : World} {b n : Nat} {x : Nat → Int} (h : NRow w b n x) {k : Nat} (hk : k < n) : w.cell? ⟨b, k, none⟩ = some (.int .i64 (x k)) := h.cell (vals_at hk) rfl
theorem NRow.sl {w : World} {b n : Nat} {x : Nat → Int} (h : NRow w b n x) {p m ca o : Nat} (hp : p + m ≤ n) (hc : m ≤ ca) (hc2 : ca ≤ 9223372036854775807) (ho : 0 < m → o = p) : Sl w (some ⟨b, o, none⟩) m ca (fun j => x (p + j)) :=
  ⟨hc, hc2, fun k hk => ⟨_, rfl, by rw [Addr.add_lit, ho (by omega)]; exact NRow.at h (by omega)⟩⟩
end Ld
set_option maxRecDepth 10000 in
set_option maxHeartbeats 1000000 in
theorem ldown_any (g s n : Nat) (vo : Option Addr) (vc : Nat) (v : Nat → Int) (L : Nat → Nat → Int) (d : Nat → Int) (o : Bool) (w : World) (h : FRow w g n (mz n n L) d) (hs : SRow w s o) (hgs : g ≠ s)
    (hv : Sl w vo n vc v) (hvb : ∀ x, vo = some x → x.block ≠ s) (bv : B64 v) (h1 : 1 ≤ n) (hn : n ≤ 6) (bL : ∀ a, B64 (L a)) :
    Calls Tryz.prog 124 #[.pointer (some ⟨g, 0, none⟩), .slice vo n vc, .pointer (some ⟨s, 0, none⟩)] w fun e w' => ∃ b, e = .returned (.slice (some ⟨b, 0, none⟩) n n) ∧ w.heap.size ≤ b ∧
      NRow w' b n (downV L v n) ∧ SRow w' s (o || downO L v n) ∧ But (· = s) w w' := by
  obtain ⟨x, hvo, hvc⟩ := hv.get
  obtain rfl := hvo (by omega)
  have l1 := hv.le
  have l2 := hv.cap
  have xb := hvb x rfl
  have h36 := size_le hn hn
  have cN := FRow.n h
  have HC := Hid.mkV hvc
  have HR : Hid (∀ k (hk : k < n) W (H : FRow W g n (mz n n L) d), Calls Tryz.prog 116 #[.pointer (some ⟨g, 0, none⟩), .int .i64 (k : Int)] W fun e w' => e = .returned (.slice (some ⟨g, k * n + 1, none⟩) n (36 - k * n)) ∧ Below W.heap.size W w') := fun k hk W H => frow_any g k n (k * n) _ d W H rfl hn hk
  have HL : Hid (∀ k (hk : k < n) (b : Nat) (o : Bool) W, FRow W g n (mz n n L) d → SRow W s o → NRow W b n (downV L v k) → Calls Tryz.prog 117 #[.pointer (some ⟨s, 0, none⟩), .int .i64 (v k), .slice (some ⟨g, k * n + 1, none⟩) k (36 - k * n), .slice (some ⟨b, 0, none⟩) k n] W fun e w' => e = .returned (.int .i64 (lessV (v k) (L k) (downV L v k) k)) ∧ SRow w' s (o || lessO (v k) (L k) (downV L v k) k) ∧ But (· = s) W w') := fun k hk b o W H1 H2 H3 =>
    lless_any s (v k) _ _ k _ n (L k) (downV L v k) o W H2 ((FRow.sl H1 (p := k * n) (m := k) (ca := 36 - k * n) (o := k * n + 1) (by have := place_le (c := n) hk; omega) (by have := place_le (c := n) hk; omega) (by omega) rfl).congr fun j hj => mz_row hk (by omega))
      ((NRow.sl H3 (p := 0) (m := k) (ca := n) (o := 0) (by omega) (by omega) (by omega) (fun _ => rfl)).congr fun j hj => by rw [Nat.zero_add]) (bL k) (b64_of (downV_bd L v k)) (by omega) (bv k).1 (bv k).2
  have hlt := h.lt
  have hslt := hs.lt
  have HF := Hid.mkV h
  have HS := Hid.mkV hs
  obtain ⟨i0, hi, hz0, hz1, hz2⟩ := info_parts infoI64
  clear hv hvo hvc hvb bL bv h hs
  go_enter Tryz.func124, Tryz.ntmps124
  go_wp2_with (at_make; refine wpList_make_full _ rfl _ _ 22 rfl w.heap.size 2 i0 (.int .i64 0) 1 Tryz.underlying22 hi hz0 hz1 _ _ _ _ n rfl rfl (by omega) (by omega) (by rw [hz2]; omega) (by unfold maxLen; omega) (Nat.le_refl _) ?_)
  intro w0 hown0 hgrow0
  have hO0 := own_made hown0 hgrow0 (Nat.le_refl _)
  have N0 : NRow w0 w.heap.size n (downV L v 0) := own_whole hO0
  have hB := hO0.below
  have F0 := CRow.keep HF.out hB
  have S0 := CRow.keep HS.out hB
  have B0 := but_of (P := (· = s)) hB
  obtain ⟨b, hb⟩ : ∃ b, b = w.heap.size := ⟨_, rfl⟩
  rw [← hb] at hlt hslt N0
  have HBB : Hid (w.heap.size = b) := hb.symm
  rw [← hb]
  clear hown0 hgrow0 hO0 hB HF HS cN hb
  go_wp2
  go_loopw [16] (fun i wr => ∃ k : Nat, k ≤ n ∧ i = .int .i64 (k : Int) ∧ FRow wr g n (mz n n L) d ∧ SRow wr s (o || downO L v k) ∧ NRow wr b n (downV L v k) ∧ But (· = s) w wr) (fun i _ => n - (intOf i).toNat)
  case atStart => exact ⟨0, by omega, rfl, F0, by simpa [downO] using S0, N0, B0⟩
  case round =>
    obtain ⟨k, hk, rfl, fr, sr, nr, br⟩ := hrel
    by_cases h : k < n
    · have cm : wr.cell? (x.add k) = some (.int .i64 (v k)) := br.cell (HC.out k h) (by rw [addr_block]; exact xb)
      have HRk := Hid.mkV (HR.out k h)
      have HLk := Hid.mkV (HL.out k h b)
      have e3 : Hid (∀ j, downV L v (k + 1) j = if j = k then lessV (v k) (L k) (downV L v k) k else downV L v k j) := fun j => rfl
      have e4 : Hid (downO L v (k + 1) = (downO L v k || lessO (v k) (L k) (downV L v k) k)) := rfl
      have hpn : k * n + n ≤ 36 := by have := place_le (c := n) h; omega
      obtain ⟨p, hp⟩ : ∃ p, p = k * n := ⟨_, rfl⟩
      obtain ⟨R, hR⟩ : ∃ R, R = lessV (v k) (L k) (downV L v k) k := ⟨_, rfl⟩
      obtain ⟨q, hq⟩ : ∃ q, q = lessO (v k) (L k) (downV L v k) k := ⟨_, rfl⟩
      obtain ⟨vk, hvk⟩ : ∃ q, q = v k := ⟨_, rfl⟩
      rw [← hp] at HRk HLk hpn
      rw [← hR] at HLk e3
      rw [← hq] at HLk e4
      rw [← hvk] at HLk cm
      clear hR hq hvk hp
      have hxb : x.block < b := by
        have h0 := World.block_lt_of_cell? w _ (HC.out k h)
        rw [addr_block] at h0
        have h1 := HBB.out
        omega
      have cmd : wr.drew.cell? (x.add k) = some (.int .i64 vk) := cm
      have i0 : (0 : Int) ≤ (k : Int) := by omega
      have i1 : (k : Int) < (n : Int) := by omega
      have i2 : (k : Int) ≤ (n : Int) := by omega
      have i3 : (k : Int) ≤ ((36 - p : Nat) : Int) := by omega
      clear HR HL HC
      go_wp2
      go_region_held3 (fun w' => w'.cell? (x.add k) = some (.int .i64 vk))
        (first | with_reducible exact cm | with_reducible exact cmd | with_reducible exact cm2 | with_reducible exact cm3 | with_reducible exact cm4 _)
        (first
          | (go_at_call 116; refine (HRk.out _ (CRow.drew fr)).mono ?_; rintro e w2 ⟨rfl, k2'⟩
             have k2 : Below wr.heap.size wr w2 := below_tr (Vc.below_drew' _) k2'
             have cm2 := keep_cell k2 cm
             have f2 := CRow.keep fr k2
             have s2 := CRow.keep sr k2
             have n2 := CRow.keep nr k2
             have b2 := br.then k2
             clear k2')
          | (go_at_call 117; refine (HLk.out _ _ f2 s2 n2).mono ?_; rintro e w3 ⟨rfl, s3, k3⟩
             have cm3 := k3.cell cm2 (by rw [addr_block]; exact xb)
             have f3 := crowBut f2 k3 (by omega)
             have n3 := crowBut n2 k3 (by omega)
             have b3 := b2.trans k3
             have z3 := NRow.at n3 h
             have y3 := CRow.free n3 k
             have cm4 : ∀ u, (w3.setCell ⟨b, k, none⟩ u).cell? (x.add k) = some (.int .i64 vk) := fun u => ((But.refl (fun k => k = b) w3).set u rfl).cell cm3 (by rw [addr_block]; omega)))
      go_wp2
      go_roundw
      case rel =>
        refine ⟨k + 1, by omega, by go_num, CRow.other f3 _ (by show g ≠ b; omega), ?_, ?_, b3.setNew _ (by rw [HBB.out]; exact Nat.le_refl _)⟩
        · rw [e4.out, ← Bool.or_assoc]
          exact CRow.other s3 _ (by show s ≠ b; omega)
        · refine (NRow.set n3 k R).congr fun i hi => ?_
          rw [e3.out]
      case measure => simp [intOf]; omega
    · obtain rfl : k = n := by omega
      go_wp2
      go_ret
      exact ⟨b, rfl, by rw [HBB.out]; exact Nat.le_refl _, nr, sr, br⟩
end Go.Proofs.YtdgcnaijndocnaaGreatDoor
namespace Go.Proofs.YtdgcnaijndocnaaGreatDoor
open Go.RowKit Vc Mt St Qn Dt Ld
namespace Ld
theorem FMay.n {n : Nat} {z d : Nat → Int} (h : FMay n z d) : 1 ≤ n ∧ n ≤ 6 := by have := h.1; have := h.2.1; omega
theorem FMay.d {n : Nat} {z d : Nat → Int} (h : FMay n z d) {k : Nat} (hk : k < n) : 1 ≤ d k ∧ d k ≤ 4611686018427387903 := by
  have h6 := h.2.1
  have e := h.2.2.1 k (by omega)
  rw [Int.toNat_natCast] at e
  unfold okD at e
  rw [if_neg (by omega), Bool.and_eq_true, decide_eq_true_iff, decide_eq_true_iff] at e
  exact e
end Ld
end Go.Proofs.YtdgcnaijndocnaaGreatDoor
namespace Go.Proofs.YtdgcnaijndocnaaGreatDoor
open Go.RowKit Vc Mt St Qn Dt Ld
set_option maxRecDepth 10000 in
set_option maxHeartbeats 2000000 in
theorem lfar_any (n : Nat) (vo : Option Addr) (vc : Nat) (v : Nat → Int) (L : Nat → Nat → Int) (d : Nat → Int) (w : World) (hm : FMay n (mz n n L) d) (hv : Sl w vo n vc v) (bv : B64 v) (bL : ∀ a, B64 (L a)) :
  Calls Tryz.prog 62 #[.agg (fvals n (mz n n L) d).toArray, .slice vo n vc] w fun e w' => e = .returned (.tuple #[.int .i64 (farV (downV L v n) d n), .bool (downO L v n || farO (downV L v n) d n), .nilIface]) ∧ Below w.heap.size w w' := by
 obtain ⟨h1, hn⟩ := FMay.n hm
 have rF : FRow (w.alloc (.cells (fvals n (mz n n L) d).toArray 33)) w.heap.size n (mz n n L) d := crow_new w _ _
 have hB := below_al (Below.refl _ w) (.cells (fvals n (mz n n L) d).toArray 33)
 have hvW := hv.keep hB
 obtain ⟨W, hW⟩ : ∃ W, W = w.alloc (.cells (fvals n (mz n n L) d).toArray 33) := ⟨_, rfl⟩
 obtain ⟨g, hg⟩ : ∃ g, g = w.heap.size := ⟨_, rfl⟩
 rw [← hW] at rF hB hvW
 rw [← hg] at rF
 have HC := fcheck_any n (mz n n L) d W
 rw [resC_yes hm] at HC
 have HCk := Hid.mkV HC
 have HW := Hid.mkV hW
 have HG := Hid.mkV hg
 have hvx : ∀ x, vo = some x → x.block < w.heap.size := fun x hx => by
  obtain ⟨y, hy, hc⟩ := hv.at' 0 (by omega)
  rw [hx] at hy
  cases hy
  have := World.block_lt_of_cell? w _ hc
  rw [addr_block] at this
  exact this
 have HVX := Hid.mkV hvx
 have HDn := Hid.mkV (fun (s : Nat) (o : Bool) W (H1 : FRow W g n (mz n n L) d) (H2 : SRow W s o) (hgs : g ≠ s) (H3 : Sl W vo n vc v) (H4 : ∀ x, vo = some x → x.block ≠ s) => ldown_any g s n vo vc v L d o W H1 H2 hgs H3 H4 bv h1 hn bL)
 have by' := downV_bd L v n
 obtain ⟨y, hy⟩ : ∃ y, y = downV L v n := ⟨_, rfl⟩
 rw [← hy] at HDn by' ⊢
 have HM := Hid.mkV (fun k W => qmul_any (y k) (y k) 20 W (by have := by' k; omega) (by have := by' k; omega) (by have := by' k; omega) (by have := by' k; omega) (by omega))
 have HQ := Hid.mkV (fun k (hk : k < n) W => qdiv_any (clamp (rne (y k * y k) (2 ^ 20))) (d k) 20 W (by have := clamp_bd (rne (y k * y k) (2 ^ 20)); omega) (by have := clamp_bd (rne (y k * y k) (2 ^ 20)); omega) (by have := FMay.d hm hk; omega) (by have := FMay.d hm hk; omega) (by have := FMay.d hm hk; omega) (by omega))
 have eQ : Hid (∀ x k, signed x (d k) (clamp (rne ((x.natAbs : Int) * 2 ^ 20) ((d k).natAbs : Int))) = divV x (d k) 20 ∧ great (rne ((x.natAbs : Int) * 2 ^ 20) ((d k).natAbs : Int)) = divO x (d k) 20) := fun x k => ⟨rfl, rfl⟩
 have l1 := hv.le
 have l2 := hv.cap
 have hgW : g < W.heap.size := rF.lt
 clear hy hW hg hvx bv bL hm HC by'
 go_enter Tryz.func62, Tryz.ntmps62
 go_wp2_with (first
  | (rw [← HW.out, ← HG.out]; refine St.wpList_load isF (by rfl) _ (by rfl) _ _ (by rfl) (by with_reducible exact rF) (fvals_len _ _ _) ?_)
  | fail)
 refine HCk.out.mono ?_
 rintro e w1 ⟨rfl, k1⟩
 have F1 := CRow.keep rF k1
 have V1 := hvW.keep k1
 have B1 := below_tr hB k1
 have cN := FRow.n F1
 have z1 := k1.size
 clear rF HCk hB k1 hvW
 have F2 := CRow.alloc F1 (.cells #[.bool false] 115)
 have S2 : SRow (w1.alloc (.cells #[.bool false] 115)) w1.heap.size false := crow_new w1 _ _
 have V2 := V1.keep (below_al (Below.refl _ w1) (.cells #[.bool false] 115))
 have B2 := below_al B1 (.cells #[.bool false] 115)
 have z2 : g < w1.heap.size := F1.lt
 have HX2 : Hid (∀ x, vo = some x → x.block ≠ w1.heap.size) := fun x hx => by
  have h := HVX.out x hx
  have h2 := HG.out
  omega
 go_wp2_with fail
 refine (HDn.out w1.heap.size false _ F2 S2 (by omega) V2 HX2.out).mono ?_
 rintro e w3 ⟨b, rfl, hb, N3, S3, k3⟩
 have F3 := crowBut F2 k3 (by omega)
 have B3 := k3.below B2 (by have := B2.size; omega) (fun k hk => by have := B1.size; omega)
 have zb : w1.heap.size < b := by simp at hb; omega
 obtain ⟨s, hs⟩ : ∃ s, s = w1.heap.size := ⟨_, rfl⟩
 rw [← hs] at S3 z2 zb ⊢
 have hsB : w.heap.size ≤ s := by have := B1.size; omega
 have hgB : w.heap.size ≤ g := by have := HG.out; omega
 clear F2 S2 V2 HX2 HDn F1 V1 cN B2 hs hb k3 HVX
 go_wp2
 go_loopw [26, 8] (fun i a wr => ∃ k : Nat, k ≤ n ∧ i = .int .i64 (k : Int) ∧ a = .int .i64 (farV y d k) ∧ FRow wr g n (mz n n L) d ∧ SRow wr s (downO L v n || farO y d k) ∧ NRow wr b n y ∧ Below w.heap.size w wr) (fun i _ _ => n - (intOf i).toNat)
 case atStart => exact ⟨0, by omega, rfl, rfl, F3, by simpa [farO] using S3, N3, B3⟩
 case round =>
  obtain ⟨k, hk, rfl, rfl, fr, sr, nr, br⟩ := hrel
  by_cases h : k < n
  ·have c1 := NRow.at nr h
   have HMk := Hid.mkV (HM.out k)
   have HQk := HQ.out k h
   have bA := farV_bd y d k
   have bD := divV_bd (clamp (rne (y k * y k) (2 ^ 20))) (d k) 20
   have HAk := Hid.mkV (fun W => qadd_any (farV y d k) (divV (clamp (rne (y k * y k) (2 ^ 20))) (d k) 20) W (by omega) (by omega) (by omega) (by omega))
   rw [(eQ.out _ k).1, (eQ.out _ k).2] at HQk
   have HQh := Hid.mkV HQk
   have e3 : Hid (farV y d (k + 1) = clamp (farV y d k + divV (clamp (rne (y k * y k) (2 ^ 20))) (d k) 20)) := rfl
   have e4 : Hid (farO y d (k + 1) = (farO y d k || (great (rne (y k * y k) (2 ^ 20)) || divO (clamp (rne (y k * y k) (2 ^ 20))) (d k) 20 || great (farV y d k + divV (clamp (rne (y k * y k) (2 ^ 20))) (d k) 20)))) := rfl
   rw [← e3.out] at HAk
   obtain ⟨P, hP⟩ : ∃ P, P = clamp (rne (y k * y k) (2 ^ 20)) := ⟨_, rfl⟩
   obtain ⟨p, hp⟩ : ∃ P, P = great (rne (y k * y k) (2 ^ 20)) := ⟨_, rfl⟩
   rw [← hP] at HMk HQh HAk e3 e4
   rw [← hp] at HMk e4
   obtain ⟨D, hD⟩ : ∃ D, D = divV P (d k) 20 := ⟨_, rfl⟩
   obtain ⟨q, hq⟩ : ∃ q, q = divO P (d k) 20 := ⟨_, rfl⟩
   rw [← hD] at HQh HAk e4
   rw [← hq] at HQh e4
   obtain ⟨u, hu⟩ : ∃ q, q = great (farV y d k + D) := ⟨_, rfl⟩
   rw [← hu] at HAk e4
   obtain ⟨A, hA⟩ : ∃ A, A = farV y d k := ⟨_, rfl⟩
   obtain ⟨A', hA'⟩ : ∃ A, A = farV y d (k + 1) := ⟨_, rfl⟩
   obtain ⟨yk, hyk⟩ : ∃ q, q = y k := ⟨_, rfl⟩
   obtain ⟨dk', hdk⟩ : ∃ q, q = d k := ⟨_, rfl⟩
   rw [← hyk] at HMk c1
   rw [← hdk] at HQh
   rw [← hA] at HAk ⊢
   rw [← hA'] at HAk
   have HDK := Hid.mkV hdk
   have HA' := Hid.mkV hA'
   clear hP hp hD hq hu hA hA' hyk hdk HQk e3 bA bD
   have i0 : (0 : Int) ≤ (k : Int) := by omega
   have i1 : (k : Int) < (n : Int) := by omega
   have i4 : (k : Int) < 6 := by omega
   clear HM HQ eQ
   go_wp2_with fail
   refine (HMk.out _).mono ?_
   rintro e w4 ⟨rfl, k4⟩
   have s4 := CRow.keep sr k4
   have f4 := CRow.keep fr k4
   have n4 := CRow.keep nr k4
   have b4 := below_tr br k4
   go_wp2_with fail
   refine (lnumber_any s P _ p _ _ s4).mono ?_
   rintro e w5 ⟨rfl, s5, k5⟩
   have f5 := crowBut f4 k5 (by omega)
   have n5 := crowBut n4 k5 (by omega)
   have b5 := k5.below b4 (by have := b4.size; omega) (fun k hk => by omega)
   have c5 := FRow.d f5 (k := k) (o := 37 + k) (by omega) (by omega)
   rw [← HDK.out] at c5
   clear fr sr nr br f4 s4 n4 b4
   go_wp2_with fail
   refine (HQh.out _).mono ?_
   rintro e w6 ⟨rfl, k6⟩
   have s6 := CRow.keep s5 k6
   have f6 := CRow.keep f5 k6
   have n6 := CRow.keep n5 k6
   have b6 := below_tr b5 k6
   go_wp2_with fail
   refine (lnumber_any s D _ q _ _ s6).mono ?_
   rintro e w7 ⟨rfl, s7, k7⟩
   have f7 := crowBut f6 k7 (by omega)
   have n7 := crowBut n6 k7 (by omega)
   have b7 := k7.below b6 (by have := b6.size; omega) (fun k hk => by omega)
   clear f5 s5 n5 b5 f6 s6 n6 b6
   go_wp2_with fail
   refine (HAk.out _).mono ?_
   rintro e w8 ⟨rfl, k8⟩
   have s8 := CRow.keep s7 k8
   have f8 := CRow.keep f7 k8
   have n8 := CRow.keep n7 k8
   have b8 := below_tr b7 k8
   go_wp2_with fail
   refine (lbounded_any s A' _ u _ s8).mono ?_
   rintro e w9 ⟨rfl, s9, k9⟩
   have f9 := crowBut f8 k9 (by omega)
   have n9 := crowBut n8 k9 (by omega)
   have b9 := k9.below b8 (by have := b8.size; omega) (fun k hk => by omega)
   go_wp2
   go_roundw
   case rel =>
    refine ⟨k + 1, by omega, by go_num, by rw [HA'.out], f9, ?_, n9, b9⟩
    rw [e4.out]
    simp only [Bool.or_assoc] at s9 ⊢
    exact s9
   case measure => simp [intOf]; omega
  ·obtain rfl : k = n := by omega
   have cO := SRow.o sr
   obtain ⟨A, hA⟩ : ∃ A, A = farV y d k := ⟨_, rfl⟩
   rw [← hA]
   have HA := Hid.mkV hA
   clear hA
   go_wp2
   go_quiet (fail)
   go_wp2
   go_ret3
   exact ⟨by rw [← HA.out]; rfl, Vc.below_drewN br _⟩
namespace Ld
def logS (d : Nat → Int) : Nat → Int
  | 0 => 0
  | k + 1 => IntKind.i64.wrap (logS d k + Gw.lgb (d k) (Gw.dn (d k)) ((20 : Nat) : Int))
end Ld
set_option maxRecDepth 10000 in
set_option maxHeartbeats 1000000 in
theorem llog_any (n : Nat) (z d : Nat → Int) (w : World) (hm : FMay n z d) :
  Calls Tryz.prog 24 #[.agg (fvals n z d).toArray] w fun e w' => e = .returned (.tuple #[.int .i64 (logS d n), .nilIface]) ∧ Below w.heap.size w w' := by
 obtain ⟨h1, hn⟩ := FMay.n hm
 have rF : FRow (w.alloc (.cells (fvals n z d).toArray 33)) w.heap.size n z d := crow_new w _ _
 have hB := below_al (Below.refl _ w) (.cells (fvals n z d).toArray 33)
 obtain ⟨W, hW⟩ : ∃ W, W = w.alloc (.cells (fvals n z d).toArray 33) := ⟨_, rfl⟩
 obtain ⟨g, hg⟩ : ∃ g, g = w.heap.size := ⟨_, rfl⟩
 rw [← hW] at rF hB
 rw [← hg] at rF
 have HC := fcheck_any n z d W
 rw [resC_yes hm] at HC
 have HCk := Hid.mkV HC
 have HW := Hid.mkV hW
 have HG := Hid.mkV hg
 have HL := Hid.mkV (fun k (hk : k < n) W => glog_any (d k) 20 W (FMay.d hm hk).1 (FMay.d hm hk).2 (by omega))
 have eh : ∀ W, (Instr.sliceAt 31 (.pointer (some ⟨g, 37, none⟩)) none (some (.int .i64 (n : Int))) none).run Tryz.prog W = .ok (.slice (some ⟨g, 37, none⟩) n 6) W := fun W => run_head6 g 37 n W (by omega)
 clear hW hg HC hm
 go_enter Tryz.func24, Tryz.ntmps24
 go_wp2_with (first
  | (rw [← HW.out, ← HG.out]; refine St.wpList_load isF (by rfl) _ (by rfl) _ _ (by rfl) (by with_reducible exact rF) (fvals_len _ _ _) ?_)
  | fail)
 refine HCk.out.mono ?_
 rintro e w1 ⟨rfl, k1⟩
 have F1 := CRow.keep rF k1
 have B1 := below_tr hB k1
 have cN := FRow.n F1
 clear rF hB k1 HCk
 go_wp2
 go_loopw [20, 5] (fun i a wr => ∃ k : Nat, k ≤ n ∧ i = .int .i64 (k : Int) ∧ a = .int .i64 (logS d k) ∧ FRow wr g n z d ∧ Below w.heap.size w wr) (fun i _ _ => n - (intOf i).toNat)
 case atStart => exact ⟨0, by omega, rfl, rfl, F1, B1⟩
 case round =>
  obtain ⟨k, hk, rfl, rfl, fr, br⟩ := hrel
  by_cases h : k < n
  ·have c1 := FRow.d fr (k := k) (o := 37 + k) (by omega) (by omega)
   have HLk := Hid.mkV (HL.out k h)
   have e3 : IntKind.i64.wrap (logS d k + Gw.lgb (d k) (Gw.dn (d k)) ((20 : Nat) : Int)) = logS d (k + 1) := rfl
   obtain ⟨A, hA⟩ : ∃ A, A = logS d k := ⟨_, rfl⟩
   obtain ⟨A', hA'⟩ : ∃ A, A = logS d (k + 1) := ⟨_, rfl⟩
   obtain ⟨V, hV⟩ : ∃ A, A = Gw.lgb (d k) (Gw.dn (d k)) ((20 : Nat) : Int) := ⟨_, rfl⟩
   obtain ⟨x, hx⟩ : ∃ A, A = d k := ⟨_, rfl⟩
   rw [← hV] at HLk e3
   rw [← hA, ← hA'] at e3
   rw [← hA]
   rw [← hx] at HLk c1
   have HA' := Hid.mkV hA'
   clear hA hA' hV hx
   have i0 : (0 : Int) ≤ (k : Int) := by omega
   have i1 : (k : Int) < (n : Int) := by omega
   go_wp2_with fail
   refine (HLk.out _).mono ?_
   rintro e w2 ⟨rfl, k2⟩
   have f2 := CRow.keep fr k2
   have b2 := below_tr br k2
   go_wp2
   go_roundw
   case rel => exact ⟨k + 1, by omega, by go_num, by rw [HA'.out], f2, b2⟩
   case measure => simp [intOf]; omega
  ·obtain rfl : k = n := by omega
   go_wp2
   go_ret2
   exact ⟨rfl, br⟩
set_option maxRecDepth 10000 in
set_option maxHeartbeats 1000000 in
theorem lfar_no (n : Int) (z d : Nat → Int) (vo : Option Addr) (vn vc : Nat) (w : World) (hm : ¬ FMay n z d) :
    Calls Tryz.prog 62 #[.agg (fvals n z d).toArray, .slice vo vn vc] w fun e w' => e = .returned (.tuple #[.int .i64 0, .bool false, .iface 70 (.int .i64 1)]) ∧ Below w.heap.size w w' := by
  have rF : FRow (w.alloc (.cells (fvals n z d).toArray 33)) w.heap.size n z d := crow_new w _ _
  have hB := below_al (Below.refl _ w) (.cells (fvals n z d).toArray 33)
  obtain ⟨W, hW⟩ : ∃ W, W = w.alloc (.cells (fvals n z d).toArray 33) := ⟨_, rfl⟩
  rw [← hW] at rF hB
  have HC := fcheck_any n z d W
  rw [resC_no hm] at HC
  have HCk := Hid.mkV HC
  have HW := Hid.mkV hW
  clear hW HC hm
  go_enter Tryz.func62, Tryz.ntmps62
  go_wp2_with (first
    | (rw [← HW.out]; refine St.wpList_load isF (by rfl) _ (by rfl) _ _ (by rfl) (by with_reducible exact rF) (fvals_len _ _ _) ?_)
    | fail)
  refine HCk.out.mono ?_
  rintro e w1 ⟨rfl, k1⟩
  have B1 := below_tr hB k1
  go_wp2
  go_ret3
  exact ⟨rfl, B1⟩
end Go.Proofs.YtdgcnaijndocnaaGreatDoor
namespace Go.Proofs.YtdgcnaijndocnaaGreatDoor
open Go.RowKit Vc Mt Qn Dt
namespace Mt
end Mt
end Go.Proofs.YtdgcnaijndocnaaGreatDoor
