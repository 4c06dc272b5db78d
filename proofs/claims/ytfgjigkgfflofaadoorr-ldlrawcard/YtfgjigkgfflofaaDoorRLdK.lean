/-
  Factors (ldl): Solve.
-/
import Derived.Test.YtfgjigkgfflofaaDoorRLdJ
set_option linter.unusedSimpArgs false
set_option linter.unusedVariables false
namespace Go.Proofs.YtfgjigkgfflofaaDoorR
open Go.RowKit Vc Mt St Qn Dt Ld

namespace Ld
/-- What Solve answers, and whether anything on the way was too great. -/
def solV (n : Nat) (L : Nat → Nat → Int) (d v : Nat → Int) : Nat → Int := upV L (byV (downV L v n) d) n n
def solO (n : Nat) (L : Nat → Nat → Int) (d v : Nat → Int) : Bool := downO L v n || (anyb (byO (downV L v n) d) n || upO L (byV (downV L v n) d) n n)
theorem FMay.n {n : Nat} {z d : Nat → Int} (h : FMay n z d) : 1 ≤ n ∧ n ≤ 6 := by have := h.1; have := h.2.1; omega
theorem FMay.d {n : Nat} {z d : Nat → Int} (h : FMay n z d) {k : Nat} (hk : k < n) : 1 ≤ d k ∧ d k ≤ 4611686018427387903 := by
  have h6 := h.2.1
  have e := h.2.2.1 k (by omega)
  rw [Int.toNat_natCast] at e
  unfold okD at e
  rw [if_neg (by omega), Bool.and_eq_true, decide_eq_true_iff, decide_eq_true_iff] at e
  exact e
/-- The first k by their numbers. -/
def byT (y d : Nat → Int) (k : Nat) : Nat → Int := fun i => if i < k then byV y d i else y i
theorem byT_next (y d : Nat → Int) (k i : Nat) : (if i = k then byV y d k else byT y d k i) = byT y d (k + 1) i := by
  unfold byT
  by_cases e : i = k
  · subst e; rw [if_pos rfl, if_pos (by omega)]
  · rw [if_neg e]
    by_cases h : i < k
    · rw [if_pos h, if_pos (by omega)]
    · rw [if_neg h, if_neg (by omega)]
theorem byV_bd (y d : Nat → Int) (k : Nat) : -4611686018427387903 ≤ byV y d k ∧ byV y d k ≤ 4611686018427387903 := divV_bd _ _ _
theorem upV_bd (L : Nat → Nat → Int) {z : Nat → Int} (hz : ∀ k, -4611686018427387903 ≤ z k ∧ z k ≤ 4611686018427387903) (n : Nat) : ∀ t k, -4611686018427387903 ≤ upV L z n t k ∧ upV L z n t k ≤ 4611686018427387903
  | 0, k => hz k
  | t + 1, k => by
    show -4611686018427387903 ≤ (if k = n - 1 - t then _ else _) ∧ (if k = n - 1 - t then _ else _) ≤ _
    split
    · exact lessV_bd _ _ _ _
    · exact upV_bd L hz n t k
theorem upV_low (L : Nat → Nat → Int) (z : Nat → Int) (n : Nat) : ∀ {t k : Nat}, k + t < n → upV L z n t k = z k
  | 0, k, _ => rfl
  | t + 1, k, h => by
    show (if k = n - 1 - t then _ else _) = _
    rw [if_neg (by omega)]
    exact upV_low L z n (by omega)
end Ld

set_option maxRecDepth 10000 in
set_option maxHeartbeats 2000000 in
theorem lsolve_any (n : Nat) (vo : Option Addr) (vc : Nat) (v : Nat → Int) (L : Nat → Nat → Int) (d : Nat → Int) (w : World) (hm : FMay n (mz n n L) d) (hv : Sl w vo n vc v) (bv : B64 v) (bL : ∀ a, B64 (L a)) :
    Calls Tryd.prog 6 #[.agg (fvals n (mz n n L) d).toArray, .slice vo n vc] w fun e w' => ∃ b, e = .returned (.tuple #[.slice (some ⟨b, 0, none⟩) n n, .bool (solO n L d v), .nilIface]) ∧ w.heap.size ≤ b ∧ Sl w' (some ⟨b, 0, none⟩) n n (solV n L d v) ∧ Below w.heap.size w w' := by
  obtain ⟨h1, hn⟩ := FMay.n hm
  have rF : FRow (w.alloc (.cells (fvals n (mz n n L) d).toArray 26)) w.heap.size n (mz n n L) d := crow_new w _ _
  have hB := below_al (Below.refl _ w) (.cells (fvals n (mz n n L) d).toArray 26)
  have hvW := hv.keep hB
  obtain ⟨W, hW⟩ : ∃ W, W = w.alloc (.cells (fvals n (mz n n L) d).toArray 26) := ⟨_, rfl⟩
  obtain ⟨g, hg⟩ : ∃ g, g = w.heap.size := ⟨_, rfl⟩
  rw [← hW] at rF hB hvW
  rw [← hg] at rF
  have HC := fcheck_any n (mz n n L) d W
  rw [resC_yes hm] at HC
  have HCk := Hid.mkV HC
  have HW := Hid.mkV hW
  have HG := Hid.mkV hg
  have hvx : ∀ x, vo = some x → x.block < w.heap.size := fun x hx => by
    obtain ⟨y, hy, hc⟩ := hv.at' 0 (by omega)
    rw [hx] at hy
    cases hy
    have := World.block_lt_of_cell? w _ hc
    rw [addr_block] at this
    exact this
  have HVX := Hid.mkV hvx
  have HDn := Hid.mkV (fun (s : Nat) (o : Bool) W (H1 : FRow W g n (mz n n L) d) (H2 : SRow W s o) (hgs : g ≠ s) (H3 : Sl W vo n vc v) (H4 : ∀ x, vo = some x → x.block ≠ s) => ldown_any g s n vo vc v L d o W H1 H2 hgs H3 H4 bv h1 hn bL)
  have by' := downV_bd L v n
  have HQ := Hid.mkV (fun k (hk : k < n) W => qdiv_any (downV L v n k) (d k) 20 W (by have := by' k; omega) (by have := by' k; omega) (by have := FMay.d hm hk; omega) (by have := FMay.d hm hk; omega) (by have := FMay.d hm hk; omega) (by omega))
  have HBl := Hid.mkV (fun i t (hi : i < n) (ht : n = i + 1 + t) W (H : FRow W g n (mz n n L) d) => lbelow_any g i n t L d W H hn hi ht)
  have bz : ∀ t, B64 (upV L (byV (downV L v n) d) n t) := fun t => b64_of (upV_bd L (byV_bd _ _) n t)
  have HLs : Hid (∀ t, t < n → ∀ (s b oo : Nat) (co : Option Addr) (cc : Nat) (o : Bool) W, SRow W s o → NRow W b n (upV L (byV (downV L v n) d) n t) → (0 < t → oo = n - t) → Sl W co t cc (fun j => L (n - t + j) (n - 1 - t)) →
      Calls Tryd.prog 16 #[.pointer (some ⟨s, 0, none⟩), .int .i64 (byV (downV L v n) d (n - 1 - t)), .slice co t cc, .slice (some ⟨b, oo, none⟩) t t] W fun e w' => e = .returned (.int .i64 (lessV (byV (downV L v n) d (n - 1 - t)) (fun j => L (n - t + j) (n - 1 - t)) (fun j => upV L (byV (downV L v n) d) n t (n - t + j)) t)) ∧
        SRow w' s (o || lessO (byV (downV L v n) d (n - 1 - t)) (fun j => L (n - t + j) (n - 1 - t)) (fun j => upV L (byV (downV L v n) d) n t (n - t + j)) t) ∧ But (· = s) W w') := fun t ht s b oo co cc o W H1 H2 H3 H4 =>
    lless_any s _ co (some ⟨b, oo, none⟩) t cc t _ _ o W H1 H4 (NRow.sl H2 (p := n - t) (m := t) (ca := t) (by omega) (by omega) (by omega) H3) (fun k => bL _ _) (fun k => bz t _) (by omega) (by have := byV_bd (downV L v n) d (n - 1 - t); omega) (by have := byV_bd (downV L v n) d (n - 1 - t); omega)
  have eV : Hid (solV n L d v = upV L (byV (downV L v n) d) n n) := rfl
  have eO : Hid (solO n L d v = (downO L v n || (anyb (byO (downV L v n) d) n || upO L (byV (downV L v n) d) n n))) := rfl
  have eQ : Hid (∀ k, signed (downV L v n k) (d k) (clamp (rne (((downV L v n k).natAbs : Int) * 2 ^ 20) ((d k).natAbs : Int))) = byV (downV L v n) d k ∧ great (rne (((downV L v n k).natAbs : Int) * 2 ^ 20) ((d k).natAbs : Int)) = byO (downV L v n) d k) := fun k => ⟨rfl, rfl⟩
  obtain ⟨y, hy⟩ : ∃ y, y = downV L v n := ⟨_, rfl⟩
  rw [← hy] at HDn HQ HLs eV eO eQ bz
  have l1 := hv.le
  have l2 := hv.cap
  obtain ⟨X, hX⟩ : ∃ X, X = solV n L d v := ⟨_, rfl⟩
  obtain ⟨O, hO⟩ : ∃ O, O = solO n L d v := ⟨_, rfl⟩
  rw [← hX] at eV ⊢
  rw [← hO] at eO ⊢
  have hgW : g < W.heap.size := rF.lt
  clear hX hO hy hW hg hvx bv bL hm HC bz by'
  go_enter Tryd.func6, Tryd.ntmps6
  go_wp2_with (first
    | (rw [← HW.out, ← HG.out]; refine St.wpList_load isF (by rfl) _ (by rfl) _ _ (by rfl) (by with_reducible exact rF) (fvals_len _ _ _) ?_)
    | fail)
  refine HCk.out.mono ?_
  rintro e w1 ⟨rfl, k1⟩
  have F1 := CRow.keep rF k1
  have V1 := hvW.keep k1
  have B1 := below_tr hB k1
  have cN := FRow.n F1
  have z1 := k1.size
  clear rF HCk hB k1 hvW
  have F2 := CRow.alloc F1 (.cells #[.bool false] 45)
  have S2 : SRow (w1.alloc (.cells #[.bool false] 45)) w1.heap.size false := crow_new w1 _ _
  have V2 := V1.keep (below_al (Below.refl _ w1) (.cells #[.bool false] 45))
  have B2 := below_al B1 (.cells #[.bool false] 45)
  have z2 : g < w1.heap.size := F1.lt
  have HX2 : Hid (∀ x, vo = some x → x.block ≠ w1.heap.size) := fun x hx => by
    have h := HVX.out x hx
    have h2 := HG.out
    omega
  go_wp2_with fail
  refine (HDn.out w1.heap.size false _ F2 S2 (by omega) V2 HX2.out).mono ?_
  rintro e w3 ⟨b, rfl, hb, N3, S3, k3⟩
  have F3 := crowBut F2 k3 (by omega)
  have B3 := k3.below B2 (by have := B2.size; omega) (fun k hk => by have := B1.size; omega)
  have zb : w1.heap.size < b := by simp at hb; omega
  obtain ⟨s, hs⟩ : ∃ s, s = w1.heap.size := ⟨_, rfl⟩
  rw [← hs] at S3 z2 zb ⊢
  have hsB : w.heap.size ≤ s := by have := B1.size; omega
  have hgB : w.heap.size ≤ g := by have := HG.out; omega
  clear F2 S2 V2 HX2 HDn F1 V1 cN B2 hs hb k3 HVX
  go_wp2
  go_loopw [26] (fun i wr => ∃ k : Nat, k ≤ n ∧ i = .int .i64 (k : Int) ∧ FRow wr g n (mz n n L) d ∧ SRow wr s (downO L v n || anyb (byO y d) k) ∧ NRow wr b n (byT y d k) ∧ Below w.heap.size w wr) (fun i _ => n - (intOf i).toNat)
  case atStart => exact ⟨0, by omega, rfl, F3, by simpa [anyb] using S3, N3, B3⟩
  case round =>
    obtain ⟨k, hk, rfl, fr, sr, nr, br⟩ := hrel
    by_cases h : k < n
    · have c1 := NRow.at nr h
      have c2 := FRow.d fr (k := k) (o := 37 + k) (by omega) (by omega)
      have ey : byT y d k k = y k := if_neg (by omega)
      rw [ey] at c1
      have HQk := HQ.out k h
      rw [(eQ.out k).1, (eQ.out k).2] at HQk
      have HQh := Hid.mkV HQk
      have e4 : Hid (anyb (byO y d) (k + 1) = (anyb (byO y d) k || byO y d k)) := rfl
      obtain ⟨D, hD⟩ : ∃ D, D = byV y d k := ⟨_, rfl⟩
      obtain ⟨q, hq⟩ : ∃ q, q = byO y d k := ⟨_, rfl⟩
      obtain ⟨yk, hyk⟩ : ∃ q, q = y k := ⟨_, rfl⟩
      obtain ⟨dk', hdk⟩ : ∃ q, q = d k := ⟨_, rfl⟩
      rw [← hD, ← hq, ← hyk, ← hdk] at HQh
      rw [← hyk] at c1
      rw [← hdk] at c2
      rw [← hq] at e4
      have HD' := Hid.mkV hD
      clear hD hq hyk hdk HQk ey
      have i0 : (0 : Int) ≤ (k : Int) := by omega
      have i1 : (k : Int) < (n : Int) := by omega
      have i4 : (k : Int) < 6 := by omega
      go_wp2
      go_region_with
        (first
          | (go_at_call 15; refine (HQh.out _).mono ?_; rintro e w4 ⟨rfl, k4'⟩
             have k4 : Below wr.heap.size wr w4 := below_tr (Vc.below_drew' _) k4'
             have f4 := CRow.keep fr k4
             have s4 := CRow.keep sr k4
             have n4 := CRow.keep nr k4
             have b4 := below_tr br k4
             clear k4')
          | (go_at_call 14; refine (lnumber_any s D _ q _ _ s4).mono ?_; rintro e w5 ⟨rfl, s5, k5⟩
             have f5 := crowBut f4 k5 (by omega)
             have n5 := crowBut n4 k5 (by omega)
             have b5 := k5.below b4 (by have := b4.size; omega) (fun k hk => by omega)
             have z5 := NRow.at n5 h
             have y5 := CRow.free n5 k))
      all_goals go_wp2
      all_goals go_roundw
      all_goals first
        | (simp [intOf]; omega)
        | (refine ⟨k + 1, by omega, by go_num, CRow.other f5 _ (by show g ≠ b; omega), ?_, ?_, b5.setCell (by show w.heap.size ≤ b; omega) _⟩
           · rw [e4.out, ← Bool.or_assoc]
             exact CRow.other s5 _ (by show s ≠ b; omega)
           · refine (NRow.set n5 k D).congr fun i hi => ?_
             rw [HD'.out]
             exact byT_next _ _ _ _)
    · obtain rfl : k = n := by omega
      have cN := FRow.n fr
      have nr' : NRow wr b k (upV L (byV y d) k 0) := NRow.congr nr fun i hi => if_pos hi
      have w0 : IntKind.i64.wrap ((k : Int) - 1) = (k : Int) - 1 := by rw [IntKind.wrap_i64]; omega
      clear nr HQ eQ
      go_wp2
      go_loopw [10] (fun ix wr => ∃ t : Nat, ∃ j : Int, t ≤ k ∧ ix = .int .i64 j ∧ Hid (j = (k : Int) - 1 - (t : Int)) ∧ FRow wr g k (mz k k L) d ∧ SRow wr s (downO L v k || (anyb (byO y d) k || upO L (byV y d) k t)) ∧ NRow wr b k (upV L (byV y d) k t) ∧ Below w.heap.size w wr) (fun ix _ => (intOf ix + 1).toNat)
      case atStart => exact ⟨0, (k : Int) - 1, by omega, by first | rfl | go_num, by show (k : Int) - 1 = (k : Int) - 1 - ((0 : Nat) : Int); omega, fr, by simpa [upO] using sr, nr', br⟩
      case round =>
        obtain ⟨t, j, ht, rfl, hj, fr2, sr2, nr2, br2⟩ := hrel
        by_cases h : t < k
        · obtain ⟨i, rfl⟩ : ∃ i : Nat, j = (i : Int) := ⟨j.toNat, by have := hj.out; omega⟩
          have hik : k = i + 1 + t := by have := hj.out; omega
          have c1 := NRow.at nr2 (k := i) (by omega)
          rw [upV_low L (byV y d) k (t := t) (k := i) (by omega)] at c1
          have HBi := Hid.mkV (HBl.out i t (by omega) hik)
          have HLt := HLs.out t h s b
          have e1 : k - t = i + 1 := by omega
          have e2 : k - 1 - t = i := by omega
          have e3 : Hid (∀ q, upV L (byV y d) k (t + 1) q = if q = k - 1 - t then lessV (byV y d (k - 1 - t)) (fun j => L (k - t + j) (k - 1 - t)) (fun j => upV L (byV y d) k t (k - t + j)) t else upV L (byV y d) k t q) := fun q => rfl
          have e4 : Hid (upO L (byV y d) k (t + 1) = (upO L (byV y d) k t || lessO (byV y d (k - 1 - t)) (fun j => L (k - t + j) (k - 1 - t)) (fun j => upV L (byV y d) k t (k - t + j)) t)) := rfl
          rw [e1, e2] at HLt e3 e4
          obtain ⟨oo, ho, es1, es2⟩ := run_tailS b (i + 1) k (by omega)
          have e5 : k - (i + 1) = t := by omega
          have e6 : (((i + 1 : Nat)) : Int) = (i : Int) + 1 := by omega
          rw [e5, e6] at es1 es2
          have HLh := Hid.mkV (fun co cc o W H1 H2 H3 => HLt oo co cc o W H1 H2 (fun h0 => ho (by omega)) H3)
          obtain ⟨R, hR⟩ : ∃ R, R = lessV (byV y d i) (fun j => L (i + 1 + j) i) (fun j => upV L (byV y d) k t (i + 1 + j)) t := ⟨_, rfl⟩
          obtain ⟨q, hq⟩ : ∃ q, q = lessO (byV y d i) (fun j => L (i + 1 + j) i) (fun j => upV L (byV y d) k t (i + 1 + j)) t := ⟨_, rfl⟩
          obtain ⟨D, hD⟩ : ∃ D, D = byV y d i := ⟨_, rfl⟩
          rw [← hR] at HLh e3
          rw [← hq] at HLh e4
          rw [← hD] at HLh c1
          have HD' := Hid.mkV hD
          have Hik := Hid.mkV hik
          have i0 : (0 : Int) ≤ (i : Int) := by omega
          have i1 : (i : Int) < (k : Int) := by omega
          have w1 : IntKind.i64.wrap ((i : Int) + 1) = (i : Int) + 1 := by rw [IntKind.wrap_i64]; omega
          have w2 : IntKind.i64.wrap ((i : Int) - 1) = (i : Int) - 1 := by rw [IntKind.wrap_i64]; omega
          have hik' : i < k := by omega
          have z7 : s < b := zb
          clear hR hq hD HLt ho e1 e2 e5 e6 hik HLs HBl
          go_wp2
          go_region_with
            (first
              | (go_at_call 17; refine (HBi.out _ (CRow.drew fr2)).mono ?_; rintro e w4 ⟨co, cc, rfl, sl4, fr4, k4'⟩
                 have k4 : Below wr.heap.size wr w4 := below_tr (Vc.below_drew' _) k4'
                 have f4 := CRow.keep fr2 k4
                 have s4 := CRow.keep sr2 k4
                 have n4 := CRow.keep nr2 k4
                 have b4 := below_tr br2 k4
                 have c4 := keep_cell k4 c1
                 clear k4')
              | (go_at_call 16; refine (HLh.out co cc _ _ s4 n4 sl4).mono ?_; rintro e w5 ⟨rfl, s5, k5⟩
                 have f5 := crowBut f4 k5 (by omega)
                 have n5 := crowBut n4 k5 (by omega)
                 have b5 := k5.below b4 (by have := b4.size; omega) (fun k hk => by omega)
                 have z5 := NRow.at n5 hik'
                 have y5 := CRow.free n5 i))
          all_goals go_wp2
          all_goals go_roundw
          all_goals first
            | (show ((i : Int) - 1 + 1).toNat < ((i : Int) + 1).toNat; omega)
            | (refine ⟨t + 1, (i : Int) - 1, by omega, by first | rfl | go_num, by have := Hik.out; show (i : Int) - 1 = (k : Int) - 1 - ((t + 1 : Nat) : Int); omega, CRow.other f5 _ (by show g ≠ b; omega), ?_, ?_, b5.setCell (by show w.heap.size ≤ b; omega) _⟩
               · rw [e4.out]
                 have e9 := CRow.other s5 (p := ⟨b, i, none⟩) (.int .i64 R) (by show s ≠ b; omega)
                 simp only [Bool.or_assoc] at e9 ⊢
                 exact e9
               · refine (NRow.set n5 i R).congr fun q hq => ?_
                 rw [e3.out])
        · obtain rfl : t = k := by omega
          obtain rfl : j = -1 := by have := hj.out; omega
          have cO := SRow.o sr2
          rw [← eO.out] at cO
          rw [← eV.out] at nr2
          go_wp2
          go_quiet (fail)
          go_wp2
          go_ret3
          exact ⟨b, rfl, by omega, (NRow.all nr2 (Nat.le_refl _) (by omega)), Vc.below_drewN br2 _⟩

end Go.Proofs.YtfgjigkgfflofaaDoorR
