/-
  lower of the document's answer of layer 3: whether a size of eight words is below another one.
-/
import Derived.Test.YtgmagehgnjopcaaDoorBase
import Derived.Test.YtgmagehgnjopcaaDoorPure
set_option linter.unusedSimpArgs false
set_option linter.unusedVariables false
namespace Go.Proofs.YtgmagehgnjopcaaDoor
open Go.RowKit Lg Dec

set_option maxHeartbeats 8000000 in
theorem lower_any (a b : Int) (w : World) (ha : In8 a) (hb : In8 b) :
    Calls Tryd.prog 77 #[.agg #[.int .u64 (wd 0 a), .int .u64 (wd 1 a), .int .u64 (wd 2 a), .int .u64 (wd 3 a), .int .u64 (wd 4 a), .int .u64 (wd 5 a), .int .u64 (wd 6 a), .int .u64 (wd 7 a)], .agg #[.int .u64 (wd 0 b), .int .u64 (wd 1 b), .int .u64 (wd 2 b), .int .u64 (wd 3 b), .int .u64 (wd 4 b), .int .u64 (wd 5 b), .int .u64 (wd 6 b), .int .u64 (wd 7 b)]] w fun e w' => e = .returned (.bool (decide (a < b))) ∧ Below w.heap.size w w' := by
  have WA : Hid (a = wd 0 a + 4294967296 * wd 1 a + 18446744073709551616 * wd 2 a + 79228162514264337593543950336 * wd 3 a + 340282366920938463463374607431768211456 * wd 4 a + 1461501637330902918203684832716283019655932542976 * wd 5 a + 6277101735386680763835789423207666416102355444464034512896 * wd 6 a + 26959946667150639794667015087019630673637144422540572481103610249216 * wd 7 a) := words8 ha
  have WB : Hid (b = wd 0 b + 4294967296 * wd 1 b + 18446744073709551616 * wd 2 b + 79228162514264337593543950336 * wd 3 b + 340282366920938463463374607431768211456 * wd 4 b + 1461501637330902918203684832716283019655932542976 * wd 5 b + 6277101735386680763835789423207666416102355444464034512896 * wd 6 b + 26959946667150639794667015087019630673637144422540572481103610249216 * wd 7 b) := words8 hb
  have a0 := wd_bd 0 a
  have b0 := wd_bd 0 b
  have a1 := wd_bd 1 a
  have b1 := wd_bd 1 b
  have a2 := wd_bd 2 a
  have b2 := wd_bd 2 b
  have a3 := wd_bd 3 a
  have b3 := wd_bd 3 b
  have a4 := wd_bd 4 a
  have b4 := wd_bd 4 b
  have a5 := wd_bd 5 a
  have b5 := wd_bd 5 b
  have a6 := wd_bd 6 a
  have b6 := wd_bd 6 b
  have a7 := wd_bd 7 a
  have b7 := wd_bd 7 b
  go_enter Tryd.func77, Tryd.ntmps77
  go_wp2
  refine wp_loop_rounds 9 ?_
  by_cases h7 : wd 7 a = wd 7 b
  · have h7b : (wd 7 a != wd 7 b) = false := by simpa using h7
    have H7 : Hid (wd 7 a = wd 7 b) := h7
    clear h7
    rw [rounds_succ]; go_wp2
    go_quiet (fail)
    go_wp2
    by_cases h6 : wd 6 a = wd 6 b
    · have h6b : (wd 6 a != wd 6 b) = false := by simpa using h6
      have H6 : Hid (wd 6 a = wd 6 b) := h6
      clear h6
      rw [rounds_succ]; go_wp2
      go_quiet (fail)
      go_wp2
      by_cases h5 : wd 5 a = wd 5 b
      · have h5b : (wd 5 a != wd 5 b) = false := by simpa using h5
        have H5 : Hid (wd 5 a = wd 5 b) := h5
        clear h5
        rw [rounds_succ]; go_wp2
        go_quiet (fail)
        go_wp2
        by_cases h4 : wd 4 a = wd 4 b
        · have h4b : (wd 4 a != wd 4 b) = false := by simpa using h4
          have H4 : Hid (wd 4 a = wd 4 b) := h4
          clear h4
          rw [rounds_succ]; go_wp2
          go_quiet (fail)
          go_wp2
          by_cases h3 : wd 3 a = wd 3 b
          · have h3b : (wd 3 a != wd 3 b) = false := by simpa using h3
            have H3 : Hid (wd 3 a = wd 3 b) := h3
            clear h3
            rw [rounds_succ]; go_wp2
            go_quiet (fail)
            go_wp2
            by_cases h2 : wd 2 a = wd 2 b
            · have h2b : (wd 2 a != wd 2 b) = false := by simpa using h2
              have H2 : Hid (wd 2 a = wd 2 b) := h2
              clear h2
              rw [rounds_succ]; go_wp2
              go_quiet (fail)
              go_wp2
              by_cases h1 : wd 1 a = wd 1 b
              · have h1b : (wd 1 a != wd 1 b) = false := by simpa using h1
                have H1 : Hid (wd 1 a = wd 1 b) := h1
                clear h1
                rw [rounds_succ]; go_wp2
                go_quiet (fail)
                go_wp2
                by_cases h0 : wd 0 a = wd 0 b
                · have h0b : (wd 0 a != wd 0 b) = false := by simpa using h0
                  have H0 : Hid (wd 0 a = wd 0 b) := h0
                  clear h0
                  rw [rounds_succ]; go_wp2
                  go_quiet (fail)
                  go_wp2
                  have K : Hid (false = decide (a < b)) := by
                    unfold Hid
                    have := WA.out
                    have := WB.out
                    have := H0.out
                    have := H1.out
                    have := H2.out
                    have := H3.out
                    have := H4.out
                    have := H5.out
                    have := H6.out
                    have := H7.out
                    symm; rw [decide_eq_false_iff_not]; omega
                  rw [rounds_succ]; go_wp2
                  go_ret
                  exact ⟨ret_bool K.out, by repeat (first | exact below_al (below_al (Below.refl _ _) _) _ | refine below_drewN ?_ _)⟩

                · have h0b : (wd 0 a != wd 0 b) = true := by simpa using h0
                  have K : Hid (decide (wd 0 a < wd 0 b) = decide (a < b)) := by
                    unfold Hid
                    have := WA.out
                    have := WB.out
                    have := H1.out
                    have := H2.out
                    have := H3.out
                    have := H4.out
                    have := H5.out
                    have := H6.out
                    have := H7.out
                    rw [decide_eq_decide]; omega
                  clear h0
                  rw [rounds_succ]; go_wp2
                  go_quiet (fail)
                  go_wp2
                  go_quiet (fail)
                  go_wp2
                  go_ret
                  exact ⟨ret_bool K.out, by repeat (first | exact below_al (below_al (Below.refl _ _) _) _ | refine below_drewN ?_ _)⟩

              · have h1b : (wd 1 a != wd 1 b) = true := by simpa using h1
                have K : Hid (decide (wd 1 a < wd 1 b) = decide (a < b)) := by
                  unfold Hid
                  have := WA.out
                  have := WB.out
                  have := H2.out
                  have := H3.out
                  have := H4.out
                  have := H5.out
                  have := H6.out
                  have := H7.out
                  rw [decide_eq_decide]; omega
                clear h1
                rw [rounds_succ]; go_wp2
                go_quiet (fail)
                go_wp2
                go_quiet (fail)
                go_wp2
                go_ret
                exact ⟨ret_bool K.out, by repeat (first | exact below_al (below_al (Below.refl _ _) _) _ | refine below_drewN ?_ _)⟩

            · have h2b : (wd 2 a != wd 2 b) = true := by simpa using h2
              have K : Hid (decide (wd 2 a < wd 2 b) = decide (a < b)) := by
                unfold Hid
                have := WA.out
                have := WB.out
                have := H3.out
                have := H4.out
                have := H5.out
                have := H6.out
                have := H7.out
                rw [decide_eq_decide]; omega
              clear h2
              rw [rounds_succ]; go_wp2
              go_quiet (fail)
              go_wp2
              go_quiet (fail)
              go_wp2
              go_ret
              exact ⟨ret_bool K.out, by repeat (first | exact below_al (below_al (Below.refl _ _) _) _ | refine below_drewN ?_ _)⟩

          · have h3b : (wd 3 a != wd 3 b) = true := by simpa using h3
            have K : Hid (decide (wd 3 a < wd 3 b) = decide (a < b)) := by
              unfold Hid
              have := WA.out
              have := WB.out
              have := H4.out
              have := H5.out
              have := H6.out
              have := H7.out
              rw [decide_eq_decide]; omega
            clear h3
            rw [rounds_succ]; go_wp2
            go_quiet (fail)
            go_wp2
            go_quiet (fail)
            go_wp2
            go_ret
            exact ⟨ret_bool K.out, by repeat (first | exact below_al (below_al (Below.refl _ _) _) _ | refine below_drewN ?_ _)⟩

        · have h4b : (wd 4 a != wd 4 b) = true := by simpa using h4
          have K : Hid (decide (wd 4 a < wd 4 b) = decide (a < b)) := by
            unfold Hid
            have := WA.out
            have := WB.out
            have := H5.out
            have := H6.out
            have := H7.out
            rw [decide_eq_decide]; omega
          clear h4
          rw [rounds_succ]; go_wp2
          go_quiet (fail)
          go_wp2
          go_quiet (fail)
          go_wp2
          go_ret
          exact ⟨ret_bool K.out, by repeat (first | exact below_al (below_al (Below.refl _ _) _) _ | refine below_drewN ?_ _)⟩

      · have h5b : (wd 5 a != wd 5 b) = true := by simpa using h5
        have K : Hid (decide (wd 5 a < wd 5 b) = decide (a < b)) := by
          unfold Hid
          have := WA.out
          have := WB.out
          have := H6.out
          have := H7.out
          rw [decide_eq_decide]; omega
        clear h5
        rw [rounds_succ]; go_wp2
        go_quiet (fail)
        go_wp2
        go_quiet (fail)
        go_wp2
        go_ret
        exact ⟨ret_bool K.out, by repeat (first | exact below_al (below_al (Below.refl _ _) _) _ | refine below_drewN ?_ _)⟩

    · have h6b : (wd 6 a != wd 6 b) = true := by simpa using h6
      have K : Hid (decide (wd 6 a < wd 6 b) = decide (a < b)) := by
        unfold Hid
        have := WA.out
        have := WB.out
        have := H7.out
        rw [decide_eq_decide]; omega
      clear h6
      rw [rounds_succ]; go_wp2
      go_quiet (fail)
      go_wp2
      go_quiet (fail)
      go_wp2
      go_ret
      exact ⟨ret_bool K.out, by repeat (first | exact below_al (below_al (Below.refl _ _) _) _ | refine below_drewN ?_ _)⟩

  · have h7b : (wd 7 a != wd 7 b) = true := by simpa using h7
    have K : Hid (decide (wd 7 a < wd 7 b) = decide (a < b)) := by
      unfold Hid
      have := WA.out
      have := WB.out
      rw [decide_eq_decide]; omega
    clear h7
    rw [rounds_succ]; go_wp2
    go_quiet (fail)
    go_wp2
    go_quiet (fail)
    go_wp2
    go_ret
    exact ⟨ret_bool K.out, by repeat (first | exact below_al (below_al (Below.refl _ _) _) _ | refine below_drewN ?_ _)⟩

end Go.Proofs.YtgmagehgnjopcaaDoor
