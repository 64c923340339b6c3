/- The contracts of cloakroomref07: num, in, Right, Stamped, Small. -/
import Derived.Test.YtbnhneompibilaaRef05Pseudo
import Derived.Test.YtbnhneompibilaaRef03Turned
import Derived.Test.YtbnhneompibilaaSevenCells
namespace Go.Proofs.Ytbnhneompibilaa.R07
open Go.RowKit
set_option linter.unusedVariables false
attribute [local go_sem ↓] Go.wp_at_zero Go.wp_at_succ

theorem num_any (n k : Int) (w : World) :
    Calls Try.prog 27 #[.int .i64 n, .int .i64 k] w fun e w' => e = .returned (.string ⟨(numL n k).toArray⟩) ∧ Below w.heap.size w w' := by
  obtain ⟨h0, h1⟩ := wrapU_bd n
  go_enter Try.func27, Try.ntmps27
  go_wp2_with (go_at_call 49; refine (R02.put_any _ k h0 h1 _).mono ?_; rintro e w' ⟨rfl, hb⟩)
  go_ret
  exact ⟨rfl, hb⟩
theorem num_is {n k : Int} {p : List UInt8} (hp : numL n k = p) (w : World) :
    Calls Try.prog 27 #[.int .i64 n, .int .i64 k] w fun e w' => e = .returned (.string ⟨p.toArray⟩) ∧ Below w.heap.size w w' := by
  subst hp; exact num_any n k w
theorem in_any (n m : Int) (w : World) :
    Calls Try.prog 48 #[.int .i64 n, .int .i64 m] w fun e w' => e = .returned (.bool (inB n m)) ∧ w = w' := by
  by_cases h : 0 ≤ n
  · by_cases h2 : n ≤ m
    · have hr : Hid (inB n m = true) := Lib.hid (decide_eq_true ⟨h, h2⟩)
      go_enter Try.func48, Try.ntmps48
      go_wp2
      go_ret
      exact ⟨ret_bool hr.out.symm, rfl⟩
    · have hr : Hid (inB n m = false) := Lib.hid (decide_eq_false (fun hh => h2 hh.2))
      go_enter Try.func48, Try.ntmps48
      go_wp2
      go_ret
      exact ⟨ret_bool hr.out.symm, rfl⟩
  · have hr : Hid (inB n m = false) := Lib.hid (decide_eq_false (fun hh => h hh.1))
    go_enter Try.func48, Try.ntmps48
    go_wp2
    go_ret
    exact ⟨ret_bool hr.out.symm, rfl⟩
theorem right_any (h : T7) (w : World) :
    Calls Try.prog 26 #[.agg #[.int .i64 h.sp, .int .i64 h.dp, .int .u32 h.sq, .int .u32 h.ak, .int .i64 h.fl, .int .i64 h.wn, .int .i64 h.ur, .string h.op]] w fun e w' => e = .returned (.bool (valid7 h)) ∧ Below w.heap.size w w' := by
  have hq : Below w.heap.size w (w.alloc (.cells #[.int .i64 h.sp, .int .i64 h.dp, .int .u32 h.sq, .int .u32 h.ak, .int .i64 h.fl, .int .i64 h.wn, .int .i64 h.ur, .string h.op] 24)) := (Below.refl _ _).alloc (Nat.le_refl _) _
  cases hv : valid7 h with
  | true =>
    obtain ⟨v1, v2, v3, v4, v5, v7, v8⟩ := valid7_is hv
    have v7i : (h.op.size : Int) ≤ 40 := by omega
    have v8i : (h.op.size : Int).tmod 4 = 0 := by rw [Int.tmod_eq_emod_of_nonneg (by omega)]; omega
    go_enter Try.func26, Try.ntmps26
    go_wp2_with (first | (go_at_call 48; refine (in_any _ _ _).mono ?_; rintro e w1 ⟨rfl, rfl⟩) | fail)
    go_ret
    exact ⟨rfl, hq⟩
  | false =>
    rcases valid7_false hv with v1 | ⟨v1, v2⟩ | ⟨v1, v2, v3⟩ | ⟨v1, v2, v3, v4⟩ | ⟨v1, v2, v3, v4, v5⟩ | ⟨v1, v2, v3, v4, v5, v7⟩ | ⟨v1, v2, v3, v4, v5, v7, v8⟩
    case inr.inr.inr.inr.inr.inl =>
      have v7i : ¬ (h.op.size : Int) ≤ 40 := by omega
      go_enter Try.func26, Try.ntmps26
      go_wp2_with (first | (go_at_call 48; refine (in_any _ _ _).mono ?_; rintro e w1 ⟨rfl, rfl⟩) | fail)
      go_ret
      exact ⟨rfl, hq⟩
    case inr.inr.inr.inr.inr.inr =>
      have v7i : (h.op.size : Int) ≤ 40 := by omega
      have v8i : ((h.op.size : Int) % 4 == 0) = false := by simp; omega
      go_enter Try.func26, Try.ntmps26
      go_wp2_with (first | (go_at_call 48; refine (in_any _ _ _).mono ?_; rintro e w1 ⟨rfl, rfl⟩) | fail)
      go_ret
      exact ⟨rfl, hq⟩
    all_goals
      go_enter Try.func26, Try.ntmps26
      go_wp2_with (first | (go_at_call 48; refine (in_any _ _ _).mono ?_; rintro e w1 ⟨rfl, rfl⟩) | fail)
      go_ret
      exact ⟨rfl, hq⟩
theorem stamped_cat (a b : List UInt8) : (⟨#[1, 1, 8, 10]⟩ : ByteArray) ++ ⟨a.toArray⟩ ++ ⟨b.toArray⟩ = ⟨([1, 1, 8, 10] ++ a ++ b).toArray⟩ := by
  apply ext_eq
  simp
theorem stamped_any (v e : Int) (v0 : 0 ≤ v) (v1 : v < 4294967296) (e0 : 0 ≤ e) (e1 : e < 4294967296) (w : World) :
    Calls Try.prog 19 #[.int .u32 v, .int .u32 e] w fun x w' => x = .returned (.string ⟨(stampB v e).toArray⟩) ∧ Below w.heap.size w w' := by
  obtain ⟨p1, h1, l1⟩ : ∃ p, numL v 4 = p ∧ p.length = 4 := ⟨_, rfl, numL_len _ _ (by omega) (by omega)⟩
  obtain ⟨p2, h2, l2⟩ : ∃ p, numL e 4 = p ∧ p.length = 4 := ⟨_, rfl, numL_len _ _ (by omega) (by omega)⟩
  have HS : Hid (stampB v e = [1, 1, 8, 10] ++ p1 ++ p2) := Lib.hid (by unfold stampB; rw [h1, h2])
  have HC := Lib.hid (stamped_cat p1 p2)
  have C1 := Lib.hid (num_is h1)
  have C2 := Lib.hid (num_is h2)
  clear h1 h2
  have hq : Below w.heap.size w w := Below.refl _ _
  go_enter Try.func19, Try.ntmps19
  go_wp2_with (first | (go_at_call 27; (with_reducible refine (C1.out _).mono ?_); rintro e wa ⟨rfl, hb⟩; replace hq := hq.trans (hb.mono hq.size); clear hb) | (go_at_call 27; (with_reducible refine (C2.out _).mono ?_); rintro e wa ⟨rfl, hb⟩; replace hq := hq.trans (hb.mono hq.size); clear hb) | fail)
  go_ret
  exact ⟨by rw [HS.out, ← HC.out]; rfl, hq⟩
end Go.Proofs.Ytbnhneompibilaa.R07
