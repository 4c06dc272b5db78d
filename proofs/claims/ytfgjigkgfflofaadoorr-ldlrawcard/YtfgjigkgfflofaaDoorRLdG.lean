/-
  Factors (ldl): a row is filled.
-/
import Derived.Test.YtfgjigkgfflofaaDoorRLdF
set_option linter.unusedSimpArgs false
set_option linter.unusedVariables false
namespace Go.Proofs.YtfgjigkgfflofaaDoorR
open Go.RowKit Vc Mt St Qn Dt Ld

namespace Ld
/-- L with another row. -/
def rowIn (L : Nat → Nat → Int) (i : Nat) (x : Nat → Int) : Nat → Nat → Int := fun a b => if a = i then x b else L a b
theorem mz_put {n i j k : Nat} {L : Nat → Nat → Int} {x : Nat → Int} {v : Int} (hi : i < n) (hj : j < n) (h36 : n * n ≤ 36) :
    (if k = i * n + j then v else mz n n (rowIn L i x) k) = mz n n (rowIn L i (fun b => if b = j then v else x b)) k := by
  by_cases e : k = i * n + j
  · subst e
    rw [if_pos rfl, mz_at hi hj]
    unfold rowIn
    rw [if_pos rfl]
    exact (if_pos rfl).symm
  · rw [if_neg e]
    unfold mz mpart
    by_cases h : k < n * n
    · rw [if_pos h, if_pos h]
      unfold rowIn
      by_cases e1 : k / n = i
      · rw [if_pos e1, if_pos e1]
        have e2 : k % n ≠ j := fun e2 => e (by rw [← e1, ← e2, Nat.mul_comm]; exact (Nat.div_add_mod k n).symm)
        exact (if_neg e2).symm
      · rw [if_neg e1, if_neg e1]
    · rw [if_neg h, if_neg h]
theorem mz_row {n i k : Nat} {L : Nat → Nat → Int} (hi : i < n) (hk : k < n) : mz n n L (i * n + k) = L i k := mz_at hi hk
end Ld

set_option maxRecDepth 10000 in
set_option maxHeartbeats 1000000 in
theorem fillRow_any (g s i n : Nat) (mo : Option Addr) (mc : Nat) (m : Nat → Int) (L : Nat → Nat → Int) (d : Nat → Int) (o : Bool) (w : World) (h : FRow w g n (mz n n L) d) (hs : SRow w s o) (hgs : g ≠ s)
    (hm : Sl w mo n mc m) (hmb : ∀ x, mo = some x → x.block ≠ s ∧ x.block ≠ g) (bm : B64 m) (hn : n ≤ 6) (hi : i < n) (bL : ∀ a, B64 (L a)) (bd : B64 d) (hd : ∀ k, k < i → d k ≠ 0) (hz : ∀ b, L i b = 0) :
    Calls Tryd.prog 47 #[.pointer (some ⟨g, 0, none⟩), .int .i64 (i : Int), .slice mo n mc, .pointer (some ⟨s, 0, none⟩)] w fun e w' => e = .returned (.tuple #[]) ∧
      FRow w' g n (mz n n (rowIn L i (fun b => if b = i then 1073741824 else rowV m L d i b))) (fun a => if a = i then midV m (rowV m L d i) d i else d a) ∧ SRow w' s (o || (rowO m L d i || midO m (rowV m L d i) d i)) ∧ But (fun k => k = s ∨ k = g) w w' := by
  obtain ⟨x, hmo, hmc⟩ := hm.get
  obtain rfl := hmo (by omega)
  have l1 := hm.le
  have l2 := hm.cap
  have xb := hmb x rfl
  have h36 := size_le hn hn
  obtain ⟨p, hp⟩ : ∃ p, p = i * n := ⟨_, rfl⟩
  have hpn : p + n ≤ 36 := by
    have h1 := place_le (c := n) hi
    omega
  have HR := frow_any g i n p (mz n n L) d w h hp hn hi
  have HP := Hid.mkV hp
  have e0 : rowIn L i (rowV m L d 0) = L := by
    funext a b
    unfold rowIn
    by_cases e : a = i
    · subst e; rw [if_pos rfl, hz b]; rfl
    · rw [if_neg e]
  have HZ := Hid.mkV e0
  have HR' := Hid.mkV HR
  have HD := Hid.mkV hd
  have HC := Hid.mkV hmc
  have bx : ∀ j, B64 (rowV m L d j) := fun j => b64_of (rowV_bd m L d j)
  have HW : Hid (∀ j, j < i → ∀ (o : Bool) W, FRow W g n (mz n n (rowIn L i (rowV m L d j))) d → SRow W s o → Calls Tryd.prog 66 #[.pointer (some ⟨g, 0, none⟩), .int .i64 (j : Int), .pointer (some ⟨s, 0, none⟩)] W fun e w' => ∃ co cc, e = .returned (.slice co j cc) ∧ Sl w' co j cc (wv (L j) d) ∧ Fresh W.heap.size co ∧ SRow w' s (o || anyb (wg (L j) d) j) ∧ But (· = s) W w') := fun j hj o W H1 H2 =>
    weighed_any g s j n _ d (L j) o W H1 H2 hgs hn (by omega) (fun k hk => by
      rw [mz_row (by omega) (by omega)]
      unfold rowIn
      rw [if_neg (by omega)]) (bL j) bd
  have HWi : Hid (∀ (o : Bool) W, FRow W g n (mz n n (rowIn L i (rowV m L d i))) d → SRow W s o → Calls Tryd.prog 66 #[.pointer (some ⟨g, 0, none⟩), .int .i64 (i : Int), .pointer (some ⟨s, 0, none⟩)] W fun e w' => ∃ co cc, e = .returned (.slice co i cc) ∧ Sl w' co i cc (wv (rowV m L d i) d) ∧ Fresh W.heap.size co ∧ SRow w' s (o || anyb (wg (rowV m L d i) d) i) ∧ But (· = s) W w') := fun o W H1 H2 =>
    weighed_any g s i n _ d (rowV m L d i) o W H1 H2 hgs hn hi (fun k hk => by
      rw [mz_row hi (by omega)]
      unfold rowIn
      rw [if_pos rfl]) (bx i) bd
  have HL := Hid.mkV (fun j (hj : j ≤ i) (bo : Option Addr) (cb : Nat) (b : Nat → Int) (o : Bool) W (H1 : FRow W g n (mz n n (rowIn L i (rowV m L d j))) d) (H2 : SRow W s o) (H3 : Sl W bo j cb b) (bb : B64 b) =>
    lless_any s (m j) (some ⟨g, p + 1, none⟩) bo j (36 - p) cb (rowV m L d j) b o W H2 ((FRow.sl H1 (p := p) (m := j) (ca := 36 - p) (o := p + 1) (by omega) (by omega) (by omega) rfl).congr fun k hk => by
      rw [hp, mz_row hi (by omega)]
      unfold rowIn
      rw [if_pos rfl]) H3 (bx j) bb (by omega) (bm j).1 (bm j).2)
  have HQ := Hid.mkV (fun a j (hj : j < i) (ha0 : -4611686018427387903 ≤ a) (ha1 : a ≤ 4611686018427387903) W => qdiv_any a (d j) 30 W (by omega) (by omega) (bd j).1 (bd j).2 (hd j hj) (by omega))
  have hlt := h.lt
  have hslt := hs.lt
  rw [← e0] at h
  clear HR hm hmo hmc hmb hz hd e0 hp bm bL bd
  go_enter Tryd.func47, Tryd.ntmps47
  go_wp2_with fail
  refine HR'.out.mono ?_
  rintro e w1 ⟨rfl, k1⟩
  have f1 := CRow.keep h k1
  have s1 := CRow.keep hs k1
  have b1 := but_of (P := fun k => k = s ∨ k = g) k1
  clear h hs
  go_wp2
  go_loopw [15] (fun ix wr => ∃ j : Nat, j ≤ i ∧ ix = .int .i64 (j : Int) ∧ FRow wr g n (mz n n (rowIn L i (rowV m L d j))) d ∧ SRow wr s (o || rowO m L d j) ∧ But (fun k => k = s ∨ k = g) w wr) (fun ix _ => i - (intOf ix).toNat)
  case atStart => exact ⟨0, by omega, rfl, f1, by simpa [rowO] using s1, b1⟩
  case round =>
    obtain ⟨j, hj, rfl, fr, sr, br⟩ := hrel
    by_cases hji : j < i
    · have cm : wr.cell? (x.add j) = some (.int .i64 (m j)) := br.cell (HC.out j (by omega)) (by rw [addr_block]; omega)
      have HWj := Hid.mkV (HW.out j hji)
      have HLj := Hid.mkV (HL.out j hj)
      have bW : Hid (B64 (wv (L j) d)) := b64_of (wv_bd _ _)
      have bR := lessV_bd (m j) (rowV m L d j) (wv (L j) d) j
      have HQj := Hid.mkV (HQ.out _ j hji bR.1 bR.2)
      have cd' := FRow.d fr (k := j) (o := 37 + j) (by omega) (by omega)
      have e1 : signed (lessV (m j) (rowV m L d j) (wv (L j) d) j) (d j) (clamp (rne (((lessV (m j) (rowV m L d j) (wv (L j) d) j).natAbs : Int) * 2 ^ 30) ((d j).natAbs : Int))) = divV (lessV (m j) (rowV m L d j) (wv (L j) d) j) (d j) 30 := rfl
      have e2 : great (rne (((lessV (m j) (rowV m L d j) (wv (L j) d) j).natAbs : Int) * 2 ^ 30) ((d j).natAbs : Int)) = divO (lessV (m j) (rowV m L d j) (wv (L j) d) j) (d j) 30 := rfl
      rw [e1, e2] at HQj
      have e3 : Hid (∀ k, rowV m L d (j + 1) k = if k = j then divV (lessV (m j) (rowV m L d j) (wv (L j) d) j) (d j) 30 else rowV m L d j k) := fun k => rfl
      have e4 : Hid (rowO m L d (j + 1) = (rowO m L d j || (anyb (wg (L j) d) j || lessO (m j) (rowV m L d j) (wv (L j) d) j || divO (lessV (m j) (rowV m L d j) (wv (L j) d) j) (d j) 30))) := rfl
      have HLk : Hid (∀ (bo : Option Addr) (cb : Nat) (o : Bool) W, FRow W g n (mz n n (rowIn L i (rowV m L d j))) d → SRow W s o → Sl W bo j cb (wv (L j) d) → Calls Tryd.prog 16 #[.pointer (some ⟨s, 0, none⟩), .int .i64 (m j), .slice (some ⟨g, p + 1, none⟩) j (36 - p), .slice bo j cb] W fun e w' => e = .returned (.int .i64 (lessV (m j) (rowV m L d j) (wv (L j) d) j)) ∧ SRow w' s (o || lessO (m j) (rowV m L d j) (wv (L j) d) j) ∧ But (· = s) W w') := fun bo cb o W H1 H2 H3 => HLj.out bo cb _ o W H1 H2 H3 bW.out
      obtain ⟨R, hR⟩ : ∃ R, R = lessV (m j) (rowV m L d j) (wv (L j) d) j := ⟨_, rfl⟩
      obtain ⟨q1, hq1⟩ : ∃ q, q = lessO (m j) (rowV m L d j) (wv (L j) d) j := ⟨_, rfl⟩
      rw [← hR] at HQj HLk e3 e4 bR
      rw [← hq1] at HLk e4
      obtain ⟨D, hD⟩ : ∃ D, D = divV R (d j) 30 := ⟨_, rfl⟩
      obtain ⟨q2, hq2⟩ : ∃ q, q = divO R (d j) 30 := ⟨_, rfl⟩
      rw [← hD] at HQj e3
      rw [← hq2] at HQj e4
      obtain ⟨mj, hmj⟩ : ∃ q, q = m j := ⟨_, rfl⟩
      obtain ⟨dj, hdj⟩ : ∃ q, q = d j := ⟨_, rfl⟩
      rw [← hmj] at HLk cm
      rw [← hdj] at HQj cd'
      have HDJ := Hid.mkV hdj
      clear hR hq1 hD hq2 hmj hdj e1 e2 HLj bW
      have cmd : wr.drew.cell? (x.add j) = some (.int .i64 mj) := cm
      have i0 : (0 : Int) ≤ (j : Int) := by omega
      have i1 : (j : Int) < (n : Int) := by omega
      have i2 : (j : Int) ≤ (n : Int) := by omega
      have i3 : (j : Int) ≤ ((36 - p : Nat) : Int) := by omega
      go_wp2
      go_region_held3 (fun w' => w'.cell? (x.add j) = some (.int .i64 mj))
        (first | with_reducible exact cm | with_reducible exact cmd | with_reducible exact cm2 | with_reducible exact cm3)
        (first
          | (go_at_call 66; refine (HWj.out _ _ (CRow.drew fr) (CRow.drew sr)).mono ?_; rintro e w2 ⟨co, cc, rfl, sl2, fr2, s2, k2'⟩
             have k2 : But (· = s) wr w2 := (But.refl _ _).drew.trans k2'
             have cm2 := k2.cell cm (by rw [addr_block]; omega)
             have f2 := crowBut fr k2 (by omega)
             have b2 : But (fun k => k = s ∨ k = g) w w2 := br.trans (k2.mono fun k e => Or.inl e)
             clear k2')
          | (go_at_call 16; refine (HLk.out co cc _ _ f2 s2 sl2).mono ?_; rintro e w3 ⟨rfl, s3, k3⟩
             have cm3 := k3.cell cm2 (by rw [addr_block]; omega)
             have f3 := crowBut f2 k3 (by omega)
             have b3 : But (fun k => k = s ∨ k = g) w w3 := b2.trans (k3.mono fun k e => Or.inl e)))
      have cd3 := FRow.d f3 (k := j) (o := 37 + j) (by omega) (by omega)
      rw [← HDJ.out] at cd3
      clear cd' HW HWi HL HQ HR' HZ HC HD
      go_wp2_with fail
      refine (HQj.out _).mono ?_
      rintro e w4 ⟨rfl, k4⟩
      have s4 := CRow.keep s3 k4
      have f4 := CRow.keep f3 k4
      have b4 := b3.then k4
      go_wp2_with fail
      refine (lnumber_any s D _ q2 _ _ s4).mono ?_
      rintro e w5 ⟨rfl, s5, k5⟩
      have f5 := crowBut f4 k5 (by omega)
      have b5 := b4.trans (k5.mono fun k e => Or.inl e)
      have z5 := FRow.z f5 (k := p + j) (o := p + 1 + j) (by omega) (by omega)
      have y5 := CRow.free f5 (p + 1 + j)
      go_wp2
      go_roundw
      case rel =>
        refine ⟨j + 1, by omega, by go_num, ?_, ?_, b5.set _ (Or.inr rfl)⟩
        · refine (FRow.setz f5 (k := p + j) (o := p + 1 + j) (by omega) (by omega) D).congr (fun k hk => ?_) (fun _ _ => rfl)
          rw [HP.out, mz_put hi (by omega) h36]
          congr 2
          funext b
          rw [e3.out]
        · have e5 := CRow.other s5 (p := ⟨g, p + 1 + j, none⟩) (.int .i64 D) (fun e => hgs e.symm)
          rw [e4.out]
          simp only [Bool.or_assoc] at e5 ⊢
          exact e5
      case measure => simp [intOf]; omega
    · obtain rfl : j = i := by omega
      have cm : wr.cell? (x.add j) = some (.int .i64 (m j)) := br.cell (HC.out j (by omega)) (by rw [addr_block]; omega)
      have HLj := Hid.mkV (HL.out j hj)
      have bW : Hid (B64 (wv (rowV m L d j) d)) := b64_of (wv_bd _ _)
      have HLk : Hid (∀ (bo : Option Addr) (cb : Nat) (o : Bool) W, FRow W g n (mz n n (rowIn L j (rowV m L d j))) d → SRow W s o → Sl W bo j cb (wv (rowV m L d j) d) → Calls Tryd.prog 16 #[.pointer (some ⟨s, 0, none⟩), .int .i64 (m j), .slice (some ⟨g, p + 1, none⟩) j (36 - p), .slice bo j cb] W fun e w' => e = .returned (.int .i64 (lessV (m j) (rowV m L d j) (wv (rowV m L d j) d) j)) ∧ SRow w' s (o || lessO (m j) (rowV m L d j) (wv (rowV m L d j) d) j) ∧ But (· = s) W w') := fun bo cb o W H1 H2 H3 => HLj.out bo cb _ o W H1 H2 H3 bW.out
      have e3 : Hid (midV m (rowV m L d j) d j = lessV (m j) (rowV m L d j) (wv (rowV m L d j) d) j) := rfl
      have e4 : Hid (midO m (rowV m L d j) d j = (anyb (wg (rowV m L d j) d) j || lessO (m j) (rowV m L d j) (wv (rowV m L d j) d) j)) := rfl
      obtain ⟨R, hR⟩ : ∃ R, R = lessV (m j) (rowV m L d j) (wv (rowV m L d j) d) j := ⟨_, rfl⟩
      obtain ⟨q1, hq1⟩ : ∃ q, q = lessO (m j) (rowV m L d j) (wv (rowV m L d j) d) j := ⟨_, rfl⟩
      rw [← hR] at HLk e3
      rw [← hq1] at HLk e4
      obtain ⟨mj, hmj⟩ : ∃ q, q = m j := ⟨_, rfl⟩
      rw [← hmj] at HLk cm
      clear hR hq1 hmj HLj bW
      have cmd : wr.drew.cell? (x.add j) = some (.int .i64 mj) := cm
      have i0 : (0 : Int) ≤ (j : Int) := by omega
      have i1 : (j : Int) < (n : Int) := by omega
      have i2 : (j : Int) ≤ (n : Int) := by omega
      have i3 : (j : Int) ≤ ((36 - p : Nat) : Int) := by omega
      have i4 : (j : Int) < 6 := by omega
      go_wp2
      go_region_held3 (fun w' => w'.cell? (x.add j) = some (.int .i64 mj))
        (first | with_reducible exact cm | with_reducible exact cmd | with_reducible exact cm2 | with_reducible exact cm3 | with_reducible exact cm4 _)
        (first
          | (go_at_call 66; refine (HWi.out _ _ (CRow.drew fr) (CRow.drew sr)).mono ?_; rintro e w2 ⟨co, cc, rfl, sl2, fr2, s2, k2'⟩
             have k2 : But (· = s) wr w2 := (But.refl _ _).drew.trans k2'
             have cm2 := k2.cell cm (by rw [addr_block]; omega)
             have f2 := crowBut fr k2 (by omega)
             have b2 : But (fun k => k = s ∨ k = g) w w2 := br.trans (k2.mono fun k e => Or.inl e)
             clear k2')
          | (go_at_call 16; refine (HLk.out co cc _ _ f2 s2 sl2).mono ?_; rintro e w3 ⟨rfl, s3, k3⟩
             have cm3 := k3.cell cm2 (by rw [addr_block]; omega)
             have f3 := crowBut f2 k3 (by omega)
             have b3 : But (fun k => k = s ∨ k = g) w w3 := b2.trans (k3.mono fun k e => Or.inl e)
             have cd3 := FRow.d f3 (k := j) (o := 37 + j) (by omega) (by omega)
             have yd3 := CRow.free f3 (37 + j)
             have cm4 : ∀ v, (w3.setCell ⟨g, 37 + j, none⟩ v).cell? (x.add j) = some (.int .i64 mj) := fun v => ((But.refl (fun k => k = g) w3).set v rfl).cell cm3 (by rw [addr_block]; omega)))
      have f4 := FRow.setd f3 (k := j) (o := 37 + j) (by omega) R
      have s4 := CRow.other s3 (p := ⟨g, 37 + j, none⟩) (.int .i64 R) (fun e => hgs e.symm)
      have b4 := b3.set (p := ⟨g, 37 + j, none⟩) (.int .i64 R) (Or.inr rfl)
      obtain ⟨w4, hw4⟩ : ∃ W, W = w3.setCell ⟨g, 37 + j, none⟩ (.int .i64 R) := ⟨_, rfl⟩
      rw [← hw4] at f4 s4 b4 ⊢
      have z4 := FRow.z f4 (k := p + j) (o := p + 1 + j) (by omega) (by omega)
      have y4 := CRow.free f4 (p + 1 + j)
      clear hw4 cm4 cd3 yd3 cm3 f3 s3 b3 k3 f2 s2 b2 k2 cm2 HW HWi HL HQ HR' HZ HC HD
      go_wp2
      go_end0
      refine ⟨rfl, ?_, ?_, b4.set _ (Or.inr rfl)⟩
      · refine (FRow.setz f4 (k := p + j) (o := p + 1 + j) (by omega) (by omega) 1073741824).congr (fun k hk => ?_) (fun a ha => ?_)
        · rw [HP.out, mz_put hi hi h36]
        · rw [e3.out]
      · have e5 := CRow.other s4 (p := ⟨g, p + 1 + j, none⟩) (.int .i64 1073741824) (fun e => hgs e.symm)
        rw [e4.out]
        simp only [Bool.or_assoc] at e5 ⊢
        exact e5

end Go.Proofs.YtfgjigkgfflofaaDoorR
