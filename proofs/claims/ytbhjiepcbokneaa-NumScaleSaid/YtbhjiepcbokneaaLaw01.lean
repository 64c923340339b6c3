/- The walks of the laws of num. -/
import Derived.Test.YtbhjiepcbokneaaNumWalks
import Derived.Test.YtbhjiepcbokneaaRef01Walks
import Derived.Test.YtbhjiepcbokneaaLawKit
namespace Go.Proofs.Ytbhjiepcbokneaa
open Go.RowKit Go.WideShapes
set_option linter.unusedVariables false

theorem awake01 (w : World) : Calls Try.prog 18 #[] w fun e w' => e = .returned (.bool true) ∧ Below w.heap.size w w' := by
  have c1 : cmp3 6 7 = -1 := by decide
  have c2 : maskOf 4 = 15 := by decide
  have c3 : scaleOf 9223372036854775808 10 = 5 := by decide
  have c4 : aheadOf 4294967295 1 = 2 := by decide
  have c5 : roundOf (-1) 5 = 4 := by decide
  go_enter Try.func18, Try.ntmps18
  go_wp2_with (first | (go_at_call 6; refine (cross_any _ _ _ _ (by omega) (by omega) (by omega) (by omega) (by omega) (by omega) (by omega) (by omega) _).mono ?_; rintro e w' ⟨rfl, hbl⟩) | (go_at_call 8; refine (mask_any _ _).mono ?_; rintro e w' ⟨rfl, rfl⟩) | (go_at_call 12; refine (scale_any _ _ (by omega) (by omega) _).mono ?_; rintro e w' ⟨rfl, hbl⟩) | (go_at_call 16; refine (ahead_any _ _ _).mono ?_; rintro e w' ⟨rfl, rfl⟩) | (go_at_call 14; refine (round_any _ _ (by omega) (by omega) (by omega) _).mono ?_; rintro e w' ⟨rfl, rfl⟩))
  go_ret
  exact ⟨rfl, by refine Below.trans (by assumption) (Below.mono (by assumption) ?_); exact Below.size (by assumption)⟩

theorem numScale_walk (a0 : Int) (a1 : Int) (a2 : Int) (w0 : (Lit.int .u64 a0).wf = true) (w1 : (Lit.int .u64 a1).wf = true) (w2 : (Lit.int .u16 a2).wf = true) (w : World) :
    Calls Try.prog 5 #[.int .u64 a0, .int .u64 a1, .int .u16 a2] w fun e w' => e = .returned (.bool true) ∧ Below w.heap.size w w' := by
  have hw0 := bounds_u64 w0
  have hw1 := bounds_u64 w1
  have hw2 := bounds_u16 w2
  have s1 := scale_in a0 (1 + a2) (by omega) (by omega) (by omega) (by omega)
  have s2 := scale_in a1 (1 + a2) (by omega) (by omega) (by omega) (by omega)
  have q1 := ahead_bd (a0 % 4294967296) (a1 % 4294967296)
  have q2 := ahead_bd (a1 % 4294967296) (a0 % 4294967296)
  have q3 := ahead_add (a0 % 4294967296) (a1 % 4294967296)
  have e3 : ((a0 + aheadOf (a0 % 4294967296) (a1 % 4294967296)) % 4294967296 == a1 % 4294967296) = true := by unfold aheadOf; simp; omega
  rcases (show a1 < a0 ∨ a0 ≤ a1 by omega) with h1 | h1
  · by_cases h2 : a0 % 4294967296 = a1 % 4294967296
    · obtain ⟨q4, q5⟩ := q3.1 h2
      have e1 : (a0 % 4294967296 == a1 % 4294967296) = true := by simpa using h2
      have g1 : a0 % 4294967296 ≤ a1 % 4294967296 := by omega
      have g2 : a1 % 4294967296 ≤ a0 % 4294967296 := by omega
      clear q3 h2
      go_enter Try.func5, Try.ntmps5
      go_wp2_with (first | (go_at_call 12; refine (scale_any _ _ (by omega) (by omega) _).mono ?_; rintro e w' ⟨rfl, hbl⟩) | (go_at_call 16; refine (ahead_any _ _ _).mono ?_; rintro e w' ⟨rfl, rfl⟩) | (go_at_call 18; refine (awake01 _).mono ?_; rintro e w' ⟨rfl, hbl⟩))
      go_ret
      exact ⟨rfl, below3 (by assumption) (by assumption) (by assumption)⟩
    · obtain ⟨q4, q5⟩ := q3.2 h2 (by omega) (by omega)
      have e1 : (a0 % 4294967296 == a1 % 4294967296) = false := by simpa using h2
      have e2 : (a0 % 4294967296 != a1 % 4294967296) = true := by simpa using h2
      clear q3
      go_enter Try.func5, Try.ntmps5
      go_wp2_with (first | (go_at_call 12; refine (scale_any _ _ (by omega) (by omega) _).mono ?_; rintro e w' ⟨rfl, hbl⟩) | (go_at_call 16; refine (ahead_any _ _ _).mono ?_; rintro e w' ⟨rfl, rfl⟩) | (go_at_call 18; refine (awake01 _).mono ?_; rintro e w' ⟨rfl, hbl⟩))
      go_ret
      exact ⟨rfl, below3 (by assumption) (by assumption) (by assumption)⟩
  · have s3 := scale_mono a0 a1 (1 + a2) h1
    by_cases h2 : a0 % 4294967296 = a1 % 4294967296
    · obtain ⟨q4, q5⟩ := q3.1 h2
      have e1 : (a0 % 4294967296 == a1 % 4294967296) = true := by simpa using h2
      have g1 : a0 % 4294967296 ≤ a1 % 4294967296 := by omega
      have g2 : a1 % 4294967296 ≤ a0 % 4294967296 := by omega
      clear q3 h2
      go_enter Try.func5, Try.ntmps5
      go_wp2_with (first | (go_at_call 12; refine (scale_any _ _ (by omega) (by omega) _).mono ?_; rintro e w' ⟨rfl, hbl⟩) | (go_at_call 16; refine (ahead_any _ _ _).mono ?_; rintro e w' ⟨rfl, rfl⟩) | (go_at_call 18; refine (awake01 _).mono ?_; rintro e w' ⟨rfl, hbl⟩))
      go_ret
      exact ⟨rfl, below3 (by assumption) (by assumption) (by assumption)⟩
    · obtain ⟨q4, q5⟩ := q3.2 h2 (by omega) (by omega)
      have e1 : (a0 % 4294967296 == a1 % 4294967296) = false := by simpa using h2
      have e2 : (a0 % 4294967296 != a1 % 4294967296) = true := by simpa using h2
      clear q3
      go_enter Try.func5, Try.ntmps5
      go_wp2_with (first | (go_at_call 12; refine (scale_any _ _ (by omega) (by omega) _).mono ?_; rintro e w' ⟨rfl, hbl⟩) | (go_at_call 16; refine (ahead_any _ _ _).mono ?_; rintro e w' ⟨rfl, rfl⟩) | (go_at_call 18; refine (awake01 _).mono ?_; rintro e w' ⟨rfl, hbl⟩))
      go_ret
      exact ⟨rfl, below3 (by assumption) (by assumption) (by assumption)⟩

theorem cmp3_neg (x y : Int) : cmp3 y x = -cmp3 x y := by unfold cmp3; repeat' split
                                                          all_goals omega
set_option maxHeartbeats 1000000 in
theorem numCross_walk (a0 : Int) (a1 : Int) (a2 : Int) (a3 : Int) (w0 : (Lit.int .u64 a0).wf = true) (w1 : (Lit.int .u64 a1).wf = true) (w2 : (Lit.int .u64 a2).wf = true) (w3 : (Lit.int .u64 a3).wf = true) (w : World) :
    Calls Try.prog 4 #[.int .u64 a0, .int .u64 a1, .int .u64 a2, .int .u64 a3] w fun e w' => e = .returned (.bool true) ∧ Below w.heap.size w w' := by
  have hw0 := bounds_u64 w0
  have hw1 := bounds_u64 w1
  have hw2 := bounds_u64 w2
  have hw3 := bounds_u64 w3
  have pA := prod_bound (a0 / 4294967296) (a1 / 4294967296) (by omega) (by omega) (by omega) (by omega)
  have pB := prod_bound (a2 / 4294967296) (a3 / 4294967296) (by omega) (by omega) (by omega) (by omega)
  have b1 := cmp3_bd (a0 * a1) (a2 * a3)
  have b2 := cmp3_bd (a2 * a3) (a0 * a1)
  have e1 : (cmp3 (a0 * a1) (a2 * a3) != -cmp3 (a2 * a3) (a0 * a1)) = false := by rw [cmp3_neg (a0 * a1) (a2 * a3)]; simp
  have g0 : cmp3 (a0 * a1) (a1 * a0) = 0 := cmp3_eq (Int.mul_comm _ _)
  have g1 : 0 ≤ cmp3 (a0 * a1) (a1 * a0) := by omega
  have g2 : cmp3 (a0 * a1) (a1 * a0) ≤ 0 := by omega
  have b3 := cmp3_bd (a0 / 4294967296 * (a1 / 4294967296)) (a2 / 4294967296 * (a3 / 4294967296))
  clear g0
  rcases (show a0 / 4294967296 * (a1 / 4294967296) < a2 / 4294967296 * (a3 / 4294967296) ∨ a2 / 4294967296 * (a3 / 4294967296) < a0 / 4294967296 * (a1 / 4294967296) ∨ a0 / 4294967296 * (a1 / 4294967296) = a2 / 4294967296 * (a3 / 4294967296) by omega) with h | h | h
  · have c1 : cmp3 (a0 / 4294967296 * (a1 / 4294967296)) (a2 / 4294967296 * (a3 / 4294967296)) ≤ -1 := by rw [cmp3_lt h]; omega
    have z1 : (cmp3 (a0 / 4294967296 * (a1 / 4294967296)) (a2 / 4294967296 * (a3 / 4294967296)) == 0) = false := by rw [cmp3_lt h]; decide
    have z2 : (a0 / 4294967296 * (a1 / 4294967296) == a2 / 4294967296 * (a3 / 4294967296)) = false := by simp; omega
    go_enter Try.func4, Try.ntmps4
    go_wp2_with (first | (go_at_call 6; refine (cross_any _ _ _ _ (by omega) (by omega) (by omega) (by omega) (by omega) (by omega) (by omega) (by omega) _).mono ?_; rintro e w' ⟨rfl, hbl⟩) | (go_at_call 18; refine (awake01 _).mono ?_; rintro e w' ⟨rfl, hbl⟩))
    go_ret
    exact ⟨rfl, below2 (by assumption) (below2 (by assumption) (below3 (by assumption) (by assumption) (by assumption)))⟩
  · have c1 : 1 ≤ cmp3 (a0 / 4294967296 * (a1 / 4294967296)) (a2 / 4294967296 * (a3 / 4294967296)) := by rw [cmp3_gt h]; omega
    have z1 : (cmp3 (a0 / 4294967296 * (a1 / 4294967296)) (a2 / 4294967296 * (a3 / 4294967296)) == 0) = false := by rw [cmp3_gt h]; decide
    have z2 : (a0 / 4294967296 * (a1 / 4294967296) == a2 / 4294967296 * (a3 / 4294967296)) = false := by simp; omega
    go_enter Try.func4, Try.ntmps4
    go_wp2_with (first | (go_at_call 6; refine (cross_any _ _ _ _ (by omega) (by omega) (by omega) (by omega) (by omega) (by omega) (by omega) (by omega) _).mono ?_; rintro e w' ⟨rfl, hbl⟩) | (go_at_call 18; refine (awake01 _).mono ?_; rintro e w' ⟨rfl, hbl⟩))
    go_ret
    exact ⟨rfl, below2 (by assumption) (below2 (by assumption) (below3 (by assumption) (by assumption) (by assumption)))⟩
  · have c1 : 0 ≤ cmp3 (a0 / 4294967296 * (a1 / 4294967296)) (a2 / 4294967296 * (a3 / 4294967296)) := by rw [cmp3_eq h]; omega
    have z1 : (cmp3 (a0 / 4294967296 * (a1 / 4294967296)) (a2 / 4294967296 * (a3 / 4294967296)) == 0) = true := by rw [cmp3_eq h]; decide
    have z2 : (a0 / 4294967296 * (a1 / 4294967296) == a2 / 4294967296 * (a3 / 4294967296)) = true := by simpa using h
    have c2 : cmp3 (a0 / 4294967296 * (a1 / 4294967296)) (a2 / 4294967296 * (a3 / 4294967296)) ≤ 0 := by rw [cmp3_eq h]; omega
    have k1 : a0 / 4294967296 * (a1 / 4294967296) ≤ a2 / 4294967296 * (a3 / 4294967296) := by omega
    have k2 : a2 / 4294967296 * (a3 / 4294967296) ≤ a0 / 4294967296 * (a1 / 4294967296) := by omega
    clear h
    go_enter Try.func4, Try.ntmps4
    go_wp2_with (first | (go_at_call 6; refine (cross_any _ _ _ _ (by omega) (by omega) (by omega) (by omega) (by omega) (by omega) (by omega) (by omega) _).mono ?_; rintro e w' ⟨rfl, hbl⟩) | (go_at_call 18; refine (awake01 _).mono ?_; rintro e w' ⟨rfl, hbl⟩))
    go_ret
    exact ⟨rfl, below2 (by assumption) (below2 (by assumption) (below3 (by assumption) (by assumption) (by assumption)))⟩

set_option maxHeartbeats 1000000 in
theorem numTells_walk (a0 : Int) (a1 : Int) (a2 : Int) (a3 : Int) (a4 : Int) (a5 : Int) (w0 : (Lit.int .u64 a0).wf = true) (w1 : (Lit.int .u64 a1).wf = true) (w2 : (Lit.int .u64 a2).wf = true) (w3 : (Lit.int .u64 a3).wf = true) (w4 : (Lit.int .i64 a4).wf = true) (w5 : (Lit.int .i64 a5).wf = true) (w : World) :
    Calls Try.prog 3 #[.int .u64 a0, .int .u64 a1, .int .u64 a2, .int .u64 a3, .int .i64 a4, .int .i64 a5] w fun e w' => e = .returned (.bool true) ∧ Below w.heap.size w w' := by
  have hw0 := bounds_u64 w0
  have hw1 := bounds_u64 w1
  have hw2 := bounds_u64 w2
  have hw3 := bounds_u64 w3
  have hw4 := bounds_i64 w4
  have hw5 := bounds_i64 w5
  go_enter Try.func3, Try.ntmps3
  go_wp2_with (first | (go_at_call 6; refine (cross_any _ _ _ _ (by omega) (by omega) (by omega) (by omega) (by omega) (by omega) (by omega) (by omega) _).mono ?_; rintro e w' ⟨rfl, hbl⟩) | (go_at_call 7; refine (R01.cross_any _ _ _ _ (by omega) (by omega) (by omega) (by omega) (by omega) (by omega) (by omega) (by omega) _).mono ?_; rintro e w' ⟨rfl, rfl⟩) | (go_at_call 8; refine (mask_any _ _).mono ?_; rintro e w' ⟨rfl, rfl⟩) | (go_at_call 9; refine (R01.mask_any _ _).mono ?_; rintro e w' ⟨rfl, rfl⟩) | (go_at_call 10; refine (width_any _ (by omega) (by omega) _).mono ?_; rintro e w' ⟨rfl, rfl⟩) | (go_at_call 11; refine (R01.width_any _ (by omega) (by omega) _).mono ?_; rintro e w' ⟨rfl, rfl⟩) | (go_at_call 12; refine (scale_any _ _ (by omega) (by omega) _).mono ?_; rintro e w' ⟨rfl, hbl⟩) | (go_at_call 13; refine (R01.scale_any _ _ (by omega) (by omega) _).mono ?_; rintro e w' ⟨rfl, rfl⟩) | (go_at_call 14; refine (round_any _ _ (by omega) (by omega) (by omega) _).mono ?_; rintro e w' ⟨rfl, rfl⟩) | (go_at_call 15; refine (R01.round_any _ _ (by omega) (by omega) (by omega) _).mono ?_; rintro e w' ⟨rfl, rfl⟩) | (go_at_call 16; refine (ahead_any _ _ _).mono ?_; rintro e w' ⟨rfl, rfl⟩) | (go_at_call 17; refine (R01.ahead_any _ _ (by omega) (by omega) (by omega) (by omega) _).mono ?_; rintro e w' ⟨rfl, rfl⟩) | (go_at_call 18; refine (awake01  _).mono ?_; rintro e w' ⟨rfl, hbl⟩))
  go_ret
  exact ⟨rfl, below3 (by assumption) (by assumption) (by assumption)⟩
end Go.Proofs.Ytbhjiepcbokneaa
