/-
  Factors (ldl): downward, below.
-/
import Derived.Test.YtfgjigkgfflofaaDoorRLdH
set_option linter.unusedSimpArgs false
set_option linter.unusedVariables false
namespace Go.Proofs.YtfgjigkgfflofaaDoorR
open Go.RowKit Vc Mt St Qn Dt Ld

namespace Ld
/-- A row of n numbers is all that block b holds. -/
abbrev NRow (w : World) (b n : Nat) (x : Nat → Int) : Prop := CRow w b 2 (vals n x)
theorem NRow.set {w : World} {b n : Nat} {x : Nat → Int} (h : NRow w b n x) (k : Nat) (v : Int) : NRow (w.setCell ⟨b, k, none⟩ (.int .i64 v)) b n (fun i => if i = k then v else x i) := by
  have h' := CRow.set h k (.int .i64 v)
  rwa [vals_set] at h'
theorem NRow.congr {w : World} {b n : Nat} {x y : Nat → Int} (h : NRow w b n x) (e : ∀ k, k < n → x k = y k) : NRow w b n y := by
  unfold NRow; rw [← vals_congr e]; exact h
theorem NRow.at {w : World} {b n : Nat} {x : Nat → Int} (h : NRow w b n x) {k : Nat} (hk : k < n) : w.cell? ⟨b, k, none⟩ = some (.int .i64 (x k)) := h.cell (vals_at hk) rfl
theorem NRow.sl {w : World} {b n : Nat} {x : Nat → Int} (h : NRow w b n x) {p m ca o : Nat} (hp : p + m ≤ n) (hc : m ≤ ca) (hc2 : ca ≤ 9223372036854775807) (ho : 0 < m → o = p) : Sl w (some ⟨b, o, none⟩) m ca (fun j => x (p + j)) :=
  ⟨hc, hc2, fun k hk => ⟨_, rfl, by rw [Addr.add_lit, ho (by omega)]; exact NRow.at h (by omega)⟩⟩
theorem NRow.all {w : World} {b n ca : Nat} {x : Nat → Int} (h : NRow w b n x) (hc : n ≤ ca) (hc2 : ca ≤ 9223372036854775807) : Sl w (some ⟨b, 0, none⟩) n ca x :=
  (NRow.sl h (p := 0) (m := n) (o := 0) (by omega) hc hc2 (fun _ => rfl)).congr fun k hk => by rw [Nat.zero_add]
theorem run_tailS (b l n : Nat) (h : l ≤ n) : ∃ o, (l < n → o = l) ∧ (∀ w : World, (Instr.sliceAt 22 (.slice (some ⟨b, 0, none⟩) n n) (some (.int .i64 (l : Int))) none none).run Tryd.prog w = .ok (.slice (some ⟨b, o, none⟩) (n - l) (n - l)) w) ∧
    ∀ w : World, (Instr.slice 22 (.slice (some ⟨b, 0, none⟩) n n) (some (.int .i64 (l : Int))) none none).run Tryd.prog w = .ok (.slice (some ⟨b, o, none⟩) (n - l) (n - l)) w := by
  have hu : Tryd.prog.underlying 22 = some (.slice (Tryd.prog.elem 22)) := by kernel_rfl
  have he : Tryd.prog.elem 22 = 2 := by kernel_rfl
  have key : ∃ o, (l < n → o = l) ∧ ∀ w : World, (Instr.slice 22 (.slice (some ⟨b, 0, none⟩) n n) (some (.int .i64 (l : Int))) none none).run Tryd.prog w = .ok (.slice (some ⟨b, o, none⟩) (n - l) (n - l)) w := by
    by_cases e : n = l
    · refine ⟨0, fun h => by omega, fun w => ?_⟩
      rw [run_slice_l w 22 _ _ _ hu .i64 _ (by omega) (by omega), he, run_size8]
      simp only [Result.andThen_ok, sliced, Int.toNat_natCast, Nat.mul_one]
      rw [if_pos e]
    · refine ⟨l, fun _ => rfl, fun w => ?_⟩
      rw [run_slice_l w 22 _ _ _ hu .i64 _ (by omega) (by omega), he, run_size8]
      simp only [Result.andThen_ok, sliced, Int.toNat_natCast, Nat.mul_one]
      rw [if_neg e, Option.map_some, Addr.add_lit, Nat.zero_add]
  obtain ⟨o, h1, h2⟩ := key
  exact ⟨o, h1, fun w => by rw [run_sliceAt_slice w 22 _ _ _ _ hu]; exact h2 w, h2⟩
end Ld

set_option maxRecDepth 10000 in
set_option maxHeartbeats 1000000 in
theorem ldown_any (g s n : Nat) (vo : Option Addr) (vc : Nat) (v : Nat → Int) (L : Nat → Nat → Int) (d : Nat → Int) (o : Bool) (w : World) (h : FRow w g n (mz n n L) d) (hs : SRow w s o) (hgs : g ≠ s)
    (hv : Sl w vo n vc v) (hvb : ∀ x, vo = some x → x.block ≠ s) (bv : B64 v) (h1 : 1 ≤ n) (hn : n ≤ 6) (bL : ∀ a, B64 (L a)) :
    Calls Tryd.prog 13 #[.pointer (some ⟨g, 0, none⟩), .slice vo n vc, .pointer (some ⟨s, 0, none⟩)] w fun e w' => ∃ b, e = .returned (.slice (some ⟨b, 0, none⟩) n n) ∧ w.heap.size ≤ b ∧
      NRow w' b n (downV L v n) ∧ SRow w' s (o || downO L v n) ∧ But (· = s) w w' := by
  obtain ⟨x, hvo, hvc⟩ := hv.get
  obtain rfl := hvo (by omega)
  have l1 := hv.le
  have l2 := hv.cap
  have xb := hvb x rfl
  have h36 := size_le hn hn
  have cN := FRow.n h
  have HC := Hid.mkV hvc
  have HR : Hid (∀ k (hk : k < n) W (H : FRow W g n (mz n n L) d), Calls Tryd.prog 30 #[.pointer (some ⟨g, 0, none⟩), .int .i64 (k : Int)] W fun e w' => e = .returned (.slice (some ⟨g, k * n + 1, none⟩) n (36 - k * n)) ∧ Below W.heap.size W w') := fun k hk W H => frow_any g k n (k * n) _ d W H rfl hn hk
  have HL : Hid (∀ k (hk : k < n) (b : Nat) (o : Bool) W, FRow W g n (mz n n L) d → SRow W s o → NRow W b n (downV L v k) → Calls Tryd.prog 16 #[.pointer (some ⟨s, 0, none⟩), .int .i64 (v k), .slice (some ⟨g, k * n + 1, none⟩) k (36 - k * n), .slice (some ⟨b, 0, none⟩) k n] W fun e w' => e = .returned (.int .i64 (lessV (v k) (L k) (downV L v k) k)) ∧ SRow w' s (o || lessO (v k) (L k) (downV L v k) k) ∧ But (· = s) W w') := fun k hk b o W H1 H2 H3 =>
    lless_any s (v k) _ _ k _ n (L k) (downV L v k) o W H2 ((FRow.sl H1 (p := k * n) (m := k) (ca := 36 - k * n) (o := k * n + 1) (by have := place_le (c := n) hk; omega) (by have := place_le (c := n) hk; omega) (by omega) rfl).congr fun j hj => mz_row hk (by omega))
      ((NRow.sl H3 (p := 0) (m := k) (ca := n) (o := 0) (by omega) (by omega) (by omega) (fun _ => rfl)).congr fun j hj => by rw [Nat.zero_add]) (bL k) (b64_of (downV_bd L v k)) (by omega) (bv k).1 (bv k).2
  have hlt := h.lt
  have hslt := hs.lt
  have HF := Hid.mkV h
  have HS := Hid.mkV hs
  obtain ⟨i0, hi, hz0, hz1, hz2⟩ := info_parts infoI64
  clear hv hvo hvc hvb bL bv h hs
  go_enter Tryd.func13, Tryd.ntmps13
  go_wp2_with (at_make; refine wpList_make_full _ rfl _ _ 22 rfl w.heap.size 2 i0 (.int .i64 0) 1 Tryd.underlying22 hi hz0 hz1 _ _ _ _ n rfl rfl (by omega) (by omega) (by rw [hz2]; omega) (by unfold maxLen; omega) (Nat.le_refl _) ?_)
  intro w0 hown0 hgrow0
  have hO0 := own_made hown0 hgrow0 (Nat.le_refl _)
  have N0 : NRow w0 w.heap.size n (downV L v 0) := own_whole hO0
  have hB := hO0.below
  have F0 := CRow.keep HF.out hB
  have S0 := CRow.keep HS.out hB
  have B0 := but_of (P := (· = s)) hB
  obtain ⟨b, hb⟩ : ∃ b, b = w.heap.size := ⟨_, rfl⟩
  rw [← hb] at hlt hslt N0
  have HBB : Hid (w.heap.size = b) := hb.symm
  rw [← hb]
  clear hown0 hgrow0 hO0 hB HF HS cN hb
  go_wp2
  go_loopw [16] (fun i wr => ∃ k : Nat, k ≤ n ∧ i = .int .i64 (k : Int) ∧ FRow wr g n (mz n n L) d ∧ SRow wr s (o || downO L v k) ∧ NRow wr b n (downV L v k) ∧ But (· = s) w wr) (fun i _ => n - (intOf i).toNat)
  case atStart => exact ⟨0, by omega, rfl, F0, by simpa [downO] using S0, N0, B0⟩
  case round =>
    obtain ⟨k, hk, rfl, fr, sr, nr, br⟩ := hrel
    by_cases h : k < n
    · have cm : wr.cell? (x.add k) = some (.int .i64 (v k)) := br.cell (HC.out k h) (by rw [addr_block]; exact xb)
      have HRk := Hid.mkV (HR.out k h)
      have HLk := Hid.mkV (HL.out k h b)
      have e3 : Hid (∀ j, downV L v (k + 1) j = if j = k then lessV (v k) (L k) (downV L v k) k else downV L v k j) := fun j => rfl
      have e4 : Hid (downO L v (k + 1) = (downO L v k || lessO (v k) (L k) (downV L v k) k)) := rfl
      have hpn : k * n + n ≤ 36 := by have := place_le (c := n) h; omega
      obtain ⟨p, hp⟩ : ∃ p, p = k * n := ⟨_, rfl⟩
      obtain ⟨R, hR⟩ : ∃ R, R = lessV (v k) (L k) (downV L v k) k := ⟨_, rfl⟩
      obtain ⟨q, hq⟩ : ∃ q, q = lessO (v k) (L k) (downV L v k) k := ⟨_, rfl⟩
      obtain ⟨vk, hvk⟩ : ∃ q, q = v k := ⟨_, rfl⟩
      rw [← hp] at HRk HLk hpn
      rw [← hR] at HLk e3
      rw [← hq] at HLk e4
      rw [← hvk] at HLk cm
      clear hR hq hvk hp
      have hxb : x.block < b := by
        have h0 := World.block_lt_of_cell? w _ (HC.out k h)
        rw [addr_block] at h0
        have h1 := HBB.out
        omega
      have cmd : wr.drew.cell? (x.add k) = some (.int .i64 vk) := cm
      have i0 : (0 : Int) ≤ (k : Int) := by omega
      have i1 : (k : Int) < (n : Int) := by omega
      have i2 : (k : Int) ≤ (n : Int) := by omega
      have i3 : (k : Int) ≤ ((36 - p : Nat) : Int) := by omega
      clear HR HL HC
      go_wp2
      go_region_held3 (fun w' => w'.cell? (x.add k) = some (.int .i64 vk))
        (first | with_reducible exact cm | with_reducible exact cmd | with_reducible exact cm2 | with_reducible exact cm3 | with_reducible exact cm4 _)
        (first
          | (go_at_call 30; refine (HRk.out _ (CRow.drew fr)).mono ?_; rintro e w2 ⟨rfl, k2'⟩
             have k2 : Below wr.heap.size wr w2 := below_tr (Vc.below_drew' _) k2'
             have cm2 := keep_cell k2 cm
             have f2 := CRow.keep fr k2
             have s2 := CRow.keep sr k2
             have n2 := CRow.keep nr k2
             have b2 := br.then k2
             clear k2')
          | (go_at_call 16; refine (HLk.out _ _ f2 s2 n2).mono ?_; rintro e w3 ⟨rfl, s3, k3⟩
             have cm3 := k3.cell cm2 (by rw [addr_block]; exact xb)
             have f3 := crowBut f2 k3 (by omega)
             have n3 := crowBut n2 k3 (by omega)
             have b3 := b2.trans k3
             have z3 := NRow.at n3 h
             have y3 := CRow.free n3 k
             have cm4 : ∀ u, (w3.setCell ⟨b, k, none⟩ u).cell? (x.add k) = some (.int .i64 vk) := fun u => ((But.refl (fun k => k = b) w3).set u rfl).cell cm3 (by rw [addr_block]; omega)))
      go_wp2
      go_roundw
      case rel =>
        refine ⟨k + 1, by omega, by go_num, CRow.other f3 _ (by show g ≠ b; omega), ?_, ?_, b3.setNew _ (by rw [HBB.out]; exact Nat.le_refl _)⟩
        · rw [e4.out, ← Bool.or_assoc]
          exact CRow.other s3 _ (by show s ≠ b; omega)
        · refine (NRow.set n3 k R).congr fun i hi => ?_
          rw [e3.out]
      case measure => simp [intOf]; omega
    · obtain rfl : k = n := by omega
      go_wp2
      go_ret
      exact ⟨b, rfl, by rw [HBB.out]; exact Nat.le_refl _, nr, sr, br⟩

set_option maxRecDepth 10000 in
set_option maxHeartbeats 1000000 in
theorem lbelow_any (g i n t : Nat) (L : Nat → Nat → Int) (d : Nat → Int) (w : World) (h : FRow w g n (mz n n L) d) (hn : n ≤ 6) (hi : i < n) (ht : n = i + 1 + t) :
    Calls Tryd.prog 17 #[.pointer (some ⟨g, 0, none⟩), .int .i64 (i : Int)] w fun e w' => ∃ co cc, e = .returned (.slice co t cc) ∧ Sl w' co t cc (fun j => L (i + 1 + j) i) ∧ Fresh w.heap.size co ∧ Below w.heap.size w w' := by
  have rO : ARow (w.alloc (.cells (vals 6 (fun _ => 0)).toArray 24)) w.heap.size (fun _ => 0) := crow_new w _ _
  have rF := CRow.alloc h (.cells (vals 6 (fun _ => 0)).toArray 24)
  have hB := below_al (Below.refl _ w) (.cells (vals 6 (fun _ => 0)).toArray 24)
  have hlt := h.lt
  have h36 := size_le hn hn
  obtain ⟨b, hb⟩ : ∃ b, b = w.heap.size := ⟨_, rfl⟩
  obtain ⟨W, hW⟩ : ∃ W, W = w.alloc (.cells (vals 6 (fun _ => 0)).toArray 24) := ⟨_, rfl⟩
  rw [← hW] at rO rF hB
  rw [← hb] at rO hlt
  have HW := Hid.mkV hW
  have HB := Hid.mkV hb
  have HBB : Hid (w.heap.size = b) := hb.symm
  have HR : Hid (∀ k (hk : k < n) W (H : FRow W g n (mz n n L) d), Calls Tryd.prog 30 #[.pointer (some ⟨g, 0, none⟩), .int .i64 (k : Int)] W fun e w' => e = .returned (.slice (some ⟨g, k * n + 1, none⟩) n (36 - k * n)) ∧ Below W.heap.size W w') := fun k hk W H => frow_any g k n (k * n) _ d W H rfl hn hk
  obtain ⟨o, ho, eo⟩ := run_mid6 b (i + 1) n (by omega) hn
  have es : n - (i + 1) = t := by omega
  rw [es] at eo
  have HO := Hid.mkV ho
  have w1 : IntKind.i64.wrap ((i : Int) + 1) = (i : Int) + 1 := by rw [IntKind.wrap_i64]; omega
  have ei : (((i + 1 : Nat)) : Int) = (i : Int) + 1 := by omega
  rw [ei] at eo
  have E0 : Hid (ARow W b (pt (fun j => L j i) 0)) := rO
  clear hW hb rO h ho
  go_enter Tryd.func17, Tryd.ntmps17
  go_wp2_with (first
    | (rw [zero6, ← HW.out, ← HB.out])
    | fail)
  go_loopw [6] (fun x wr => ∃ k : Nat, k ≤ t ∧ x = .int .i64 ((i : Int) + 1 + (k : Int)) ∧ FRow wr g n (mz n n L) d ∧ (∃ y, ARow wr b y ∧ Hid (∀ j, j < k → y (i + 1 + j) = L (i + 1 + j) i)) ∧ Below w.heap.size w wr) (fun x _ => n - (intOf x).toNat)
  case atStart => exact ⟨0, by omega, by simp, rF, ⟨_, E0.out, fun j hj => by omega⟩, hB⟩
  case round =>
    obtain ⟨k, hk, rfl, fr, ⟨y, ar, hy⟩, br⟩ := hrel
    have cN := FRow.n fr
    by_cases h : k < t
    · have HRk := Hid.mkV (HR.out (i + 1 + k) (by omega))
      have ek : (((i + 1 + k : Nat)) : Int) = (i : Int) + 1 + (k : Int) := by omega
      rw [ek] at HRk
      have hpn : (i + 1 + k) * n + n ≤ 36 := by have := place_le (c := n) (show i + 1 + k < n by omega); omega
      have e5 : mz n n L ((i + 1 + k) * n + i) = L (i + 1 + k) i := mz_row (by omega) (by omega)
      obtain ⟨p, hp⟩ : ∃ p, p = (i + 1 + k) * n := ⟨_, rfl⟩
      rw [← hp] at HRk hpn e5
      have E5 := Hid.mkV e5
      clear hp e5 ek
      have i0 : (0 : Int) ≤ (i : Int) := by omega
      have i1 : (i : Int) < (n : Int) := by omega
      have i2 : (0 : Int) ≤ (i : Int) + 1 + (k : Int) := by omega
      have i3 : (i : Int) + 1 + (k : Int) < 6 := by omega
      have i4 : ((i : Int) + 1 + (k : Int)).toNat = i + 1 + k := by omega
      have i5 : (i : Int) + 1 + (k : Int) < (n : Int) := by omega
      have w2 : IntKind.i64.wrap ((i : Int) + 1 + (k : Int) + 1) = (i : Int) + 1 + (k : Int) + 1 := by rw [IntKind.wrap_i64]; omega
      go_wp2_with fail
      refine (HRk.out _ fr).mono ?_
      rintro e wa ⟨rfl, ka⟩
      have fa := CRow.keep fr ka
      have aa := CRow.keep ar ka
      have ba := below_tr br ka
      have c1 := FRow.z fa (k := p + i) (o := p + 1 + i) (by omega) (by omega)
      rw [E5.out] at c1
      have c2 := ARow.at aa (k := i + 1 + k) (by omega)
      have c3 := CRow.free aa (i + 1 + k)
      go_wp2
      go_roundw
      case rel =>
        refine ⟨k + 1, by omega, by go_num, CRow.other fa _ (by show g ≠ b; omega), ⟨_, ARow.set aa (i + 1 + k) _, fun j hj => ?_⟩, ba.setCell (by rw [HBB.out]; exact Nat.le_refl _) _⟩
        by_cases e : j = k
        · subst e; exact if_pos rfl
        · exact (if_neg (by omega)).trans (hy.out j (by omega))
      case measure => simp [intOf]; omega
    · obtain rfl : k = t := by omega
      have e1 : decide ((i : Int) + 1 + (k : Int) < (n : Int)) = false := decide_eq_false (by omega)
      have HT := Hid.mkV ht
      clear ht es
      go_wp2
      go_ret
      have ht := HT.out
      refine ⟨_, _, rfl, ?_, ?_, br⟩
      · refine Sl.congr (z := fun j => y (i + 1 + j)) (ARow.sl ar (p := i + 1) (m := k) ?_ ?_ ?_ ?_) (fun j hj => hy.out j hj)
        · omega
        · omega
        · omega
        · exact fun h0 => HO.out (by omega)
      · intro x hx
        cases hx
        rw [HBB.out]
        exact Nat.le_refl _

end Go.Proofs.YtfgjigkgfflofaaDoorR
