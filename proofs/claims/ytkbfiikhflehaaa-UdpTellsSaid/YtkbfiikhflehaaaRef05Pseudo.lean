/- The contract of cloakroomref05: Pseudo. -/
import Derived.Test.YtkbfiikhflehaaaRef05Num
import Derived.Test.YtkbfiikhflehaaaRef04Bytes
import Derived.Test.YtkbfiikhflehaaaPseudoMath
import Derived.Test.YtkbfiikhflehaaaHeld
import Derived.Deep.RegionHeld3
import Derived.Deep.DrawnRows
namespace Go.Proofs.Ytkbfiikhflehaaa.R05
open Go.RowKit
set_option linter.unusedVariables false
attribute [local go_sem ↓] Go.wp_at_zero Go.wp_at_succ

theorem putA_is {v : Bool} {hi lo : Int} {p : List UInt8} (hp : addrB v hi lo = p) (h0 : 0 ≤ hi) (h1 : hi < 18446744073709551616) (l0 : 0 ≤ lo) (l1 : lo < 18446744073709551616) (w : World) :
    Calls Try.prog 34 #[.agg #[.bool v, .int .u64 hi, .int .u64 lo]] w fun e w' => e = .returned (.string ⟨p.toArray⟩) ∧ Below w.heap.size w w' := by
  subst hp; exact R04.put_addr _ _ _ h0 h1 l0 l1 w
set_option maxHeartbeats 1000000 in
theorem pseudo_any (v : Bool) (hi lo : Int) (v' : Bool) (hi' lo' : Int) (pr n : Int) (h0 : 0 ≤ hi) (h1 : hi < 18446744073709551616) (l0 : 0 ≤ lo) (l1 : lo < 18446744073709551616) (h0' : 0 ≤ hi') (h1' : hi' < 18446744073709551616) (l0' : 0 ≤ lo') (l1' : lo' < 18446744073709551616) (w : World) :
    Calls Try.prog 15 #[.agg #[.bool v, .int .u64 hi, .int .u64 lo], .agg #[.bool v', .int .u64 hi', .int .u64 lo'], .int .i64 pr, .int .i64 n] w fun e w' => e = .returned (.string ⟨(pseudoL v hi lo v' hi' lo' pr n).toArray⟩) ∧ Below w.heap.size w w' := by
  have HX : Hid (Held2 w.heap.size w.heap.size 26 #[.bool v, .int .u64 hi, .int .u64 lo] (w.heap.size + 1) 26 #[.bool v', .int .u64 hi', .int .u64 lo'] w ((w.alloc (.cells #[.bool v, .int .u64 hi, .int .u64 lo] 26)).alloc (.cells #[.bool v', .int .u64 hi', .int .u64 lo'] 26))) := Lib.hid ⟨(HasB.new w _ _).alloc _, by have := HasB.new (w.alloc (.cells #[.bool v, .int .u64 hi, .int .u64 lo] 26)) 26 #[.bool v', .int .u64 hi', .int .u64 lo']; simpa using this, ((Below.refl _ _).alloc (Nat.le_refl _) _).alloc (by simp) _, by simp; omega⟩
  cases hr : rightA v hi lo with
  | false =>
    have HP := Lib.hid (pseudoL_no (v := v) (hi := hi) (lo := lo) (v' := v') (hi' := hi') (lo' := lo') (pr := pr) (n := n) (.inr (.inl hr)))
    go_enter Try.func15, Try.ntmps15
    go_wp2_with (first | (go_at_call 33; (with_reducible refine (R04.right_any v hi lo _).mono ?_); rintro e wa ⟨rfl, hb⟩; replace HX := Lib.hid (HX.out.next hb); clear hb; obtain ⟨c0, c1, c2, d0, d1, d2⟩ := HX.out.cells) | fail)
    go_ret
    exact ⟨ret_str HP.out.symm, HX.out.2.2.1⟩
  | true =>
    cases hr' : rightA v' hi' lo' with
    | false =>
      have HP := Lib.hid (pseudoL_no (v := v) (hi := hi) (lo := lo) (v' := v') (hi' := hi') (lo' := lo') (pr := pr) (n := n) (.inr (.inr hr')))
      go_enter Try.func15, Try.ntmps15
      go_wp2_with (first | (go_at_call 33; (with_reducible refine (R04.right_any v hi lo _).mono ?_); rintro e wa ⟨rfl, hb⟩; replace HX := Lib.hid (HX.out.next hb); clear hb; obtain ⟨c0, c1, c2, d0, d1, d2⟩ := HX.out.cells) | (go_at_call 33; (with_reducible refine (R04.right_any v' hi' lo' _).mono ?_); rintro e wa ⟨rfl, hb⟩; replace HX := Lib.hid (HX.out.next hb); clear hb; obtain ⟨c0, c1, c2, d0, d1, d2⟩ := HX.out.cells) | fail)
      go_ret
      exact ⟨ret_str HP.out.symm, HX.out.2.2.1⟩
    | true =>
      by_cases hv : v = v'
      · subst hv
        obtain ⟨p1, e1, x1⟩ : ∃ p, addrB v hi lo = p ∧ p.length ≤ 16 := ⟨_, rfl, by rw [addrB_len _ _ _ hr]; cases v <;> simp⟩
        obtain ⟨p2, e2, x2⟩ : ∃ p, addrB v hi' lo' = p ∧ p.length ≤ 16 := ⟨_, rfl, by rw [addrB_len _ _ _ hr']; cases v <;> simp⟩
        have P1 := Lib.hid (putA_is e1 h0 h1 l0 l1)
        have P2 := Lib.hid (putA_is e2 h0' h1' l0' l1')
        have f1 : (9223372036854775807 < p1.length + p2.length) = False := eq_false (by omega)
        cases v with
        | true =>
          obtain ⟨p3, e3, x3⟩ : ∃ p, numL n 4 = p ∧ p.length = 4 := ⟨_, rfl, numL_len _ _ (by omega) (by omega)⟩
          obtain ⟨p4, e4, x4⟩ : ∃ p, numL 0 3 = p ∧ p.length = 3 := ⟨_, rfl, numL_len _ _ (by omega) (by omega)⟩
          obtain ⟨p5, e5, x5⟩ : ∃ p, numL pr 1 = p ∧ p.length = 1 := ⟨_, rfl, numL_len _ _ (by omega) (by omega)⟩
          have HP := Lib.hid (pseudoL_6 e1 e2 e3 e4 e5)
          have HC := Lib.hid (cat5 p1 p2 p3 p4 p5)
          have N3 := Lib.hid (num_is e3)
          have N4 := Lib.hid (num_is e4)
          have N5 := Lib.hid (num_is e5)
          have f2 : (9223372036854775807 < p1.length + p2.length + 4) = False := eq_false (by omega)
          have f3 : (9223372036854775807 < p1.length + p2.length + 4 + 3) = False := eq_false (by omega)
          have f4 : (9223372036854775807 < p1.length + p2.length + 4 + 3 + 1) = False := eq_false (by omega)
          clear e1 e2 e3 e4 e5 h0 h1 l0 l1 h0' h1' l0' l1'
          go_enter Try.func15, Try.ntmps15
          go_wp2_with (first | (go_at_call 33; (with_reducible refine (R04.right_any true hi lo _).mono ?_); rintro e wa ⟨rfl, hb⟩; replace HX := Lib.hid (HX.out.next hb); clear hb; obtain ⟨c0, c1, c2, d0, d1, d2⟩ := HX.out.cells) | (go_at_call 33; (with_reducible refine (R04.right_any true hi' lo' _).mono ?_); rintro e wa ⟨rfl, hb⟩; replace HX := Lib.hid (HX.out.next hb); clear hb; obtain ⟨c0, c1, c2, d0, d1, d2⟩ := HX.out.cells) | fail)
          clear c0 c1 c2 d0 d1 d2
          replace HX := Lib.hid HX.out.drew
          go_region_held3 (fun w' => w'.cell? ⟨w.heap.size, 0, none⟩ = some (.bool true) ∧ w'.cell? ⟨w.heap.size, 1, none⟩ = some (.int .u64 hi) ∧ w'.cell? ⟨w.heap.size, 2, none⟩ = some (.int .u64 lo) ∧ w'.cell? ⟨w.heap.size + 1, 0, none⟩ = some (.bool true) ∧ w'.cell? ⟨w.heap.size + 1, 1, none⟩ = some (.int .u64 hi') ∧ w'.cell? ⟨w.heap.size + 1, 2, none⟩ = some (.int .u64 lo')) (exact HX.out.cells) (first | (go_at_call 34; (with_reducible refine (P1.out _).mono ?_); rintro e wa ⟨rfl, hb⟩; replace HX := Lib.hid (HX.out.next hb); clear hb) | (go_at_call 34; (with_reducible refine (P2.out _).mono ?_); rintro e wa ⟨rfl, hb⟩; replace HX := Lib.hid (HX.out.next hb); clear hb) | (go_at_call 35; (with_reducible refine (N3.out _).mono ?_); rintro e wa ⟨rfl, hb⟩; replace HX := Lib.hid (HX.out.next hb); clear hb) | (go_at_call 35; (with_reducible refine (N4.out _).mono ?_); rintro e wa ⟨rfl, hb⟩; replace HX := Lib.hid (HX.out.next hb); clear hb) | (go_at_call 35; (with_reducible refine (N5.out _).mono ?_); rintro e wa ⟨rfl, hb⟩; replace HX := Lib.hid (HX.out.next hb); clear hb))
          all_goals
            have HD := Lib.hid HX.out.2.2.1
            clear HX
            go_wp2
            go_ret
            exact ⟨by rw [HP.out, ← HC.out]; rfl, HD.out⟩
        | false =>
          obtain ⟨p3, e3, x3⟩ : ∃ p, numL 0 1 = p ∧ p.length = 1 := ⟨_, rfl, numL_len _ _ (by omega) (by omega)⟩
          obtain ⟨p4, e4, x4⟩ : ∃ p, numL pr 1 = p ∧ p.length = 1 := ⟨_, rfl, numL_len _ _ (by omega) (by omega)⟩
          obtain ⟨p5, e5, x5⟩ : ∃ p, numL n 2 = p ∧ p.length = 2 := ⟨_, rfl, numL_len _ _ (by omega) (by omega)⟩
          have HP := Lib.hid (pseudoL_4 hr hr' e1 e2 e3 e4 e5)
          have HC := Lib.hid (cat5 p1 p2 p3 p4 p5)
          have N3 := Lib.hid (num_is e3)
          have N4 := Lib.hid (num_is e4)
          have N5 := Lib.hid (num_is e5)
          have f2 : (9223372036854775807 < p1.length + p2.length + 1) = False := eq_false (by omega)
          have f3 : (9223372036854775807 < p1.length + p2.length + 1 + 1) = False := eq_false (by omega)
          have f4 : (9223372036854775807 < p1.length + p2.length + 1 + 1 + 2) = False := eq_false (by omega)
          clear e1 e2 e3 e4 e5 h0 h1 l0 l1 h0' h1' l0' l1'
          go_enter Try.func15, Try.ntmps15
          go_wp2_with (first | (go_at_call 33; (with_reducible refine (R04.right_any false hi lo _).mono ?_); rintro e wa ⟨rfl, hb⟩; replace HX := Lib.hid (HX.out.next hb); clear hb; obtain ⟨c0, c1, c2, d0, d1, d2⟩ := HX.out.cells) | (go_at_call 33; (with_reducible refine (R04.right_any false hi' lo' _).mono ?_); rintro e wa ⟨rfl, hb⟩; replace HX := Lib.hid (HX.out.next hb); clear hb; obtain ⟨c0, c1, c2, d0, d1, d2⟩ := HX.out.cells) | fail)
          clear c0 c1 c2 d0 d1 d2
          replace HX := Lib.hid HX.out.drew
          go_region_held3 (fun w' => w'.cell? ⟨w.heap.size, 0, none⟩ = some (.bool false) ∧ w'.cell? ⟨w.heap.size, 1, none⟩ = some (.int .u64 hi) ∧ w'.cell? ⟨w.heap.size, 2, none⟩ = some (.int .u64 lo) ∧ w'.cell? ⟨w.heap.size + 1, 0, none⟩ = some (.bool false) ∧ w'.cell? ⟨w.heap.size + 1, 1, none⟩ = some (.int .u64 hi') ∧ w'.cell? ⟨w.heap.size + 1, 2, none⟩ = some (.int .u64 lo')) (exact HX.out.cells) (first | (go_at_call 34; (with_reducible refine (P1.out _).mono ?_); rintro e wa ⟨rfl, hb⟩; replace HX := Lib.hid (HX.out.next hb); clear hb) | (go_at_call 34; (with_reducible refine (P2.out _).mono ?_); rintro e wa ⟨rfl, hb⟩; replace HX := Lib.hid (HX.out.next hb); clear hb) | (go_at_call 35; (with_reducible refine (N3.out _).mono ?_); rintro e wa ⟨rfl, hb⟩; replace HX := Lib.hid (HX.out.next hb); clear hb) | (go_at_call 35; (with_reducible refine (N4.out _).mono ?_); rintro e wa ⟨rfl, hb⟩; replace HX := Lib.hid (HX.out.next hb); clear hb) | (go_at_call 35; (with_reducible refine (N5.out _).mono ?_); rintro e wa ⟨rfl, hb⟩; replace HX := Lib.hid (HX.out.next hb); clear hb))
          all_goals
            have HD := Lib.hid HX.out.2.2.1
            clear HX
            go_wp2
            go_ret
            exact ⟨by rw [HP.out, ← HC.out]; rfl, HD.out⟩
      · have HP := Lib.hid (pseudoL_no (v := v) (hi := hi) (lo := lo) (v' := v') (hi' := hi') (lo' := lo') (pr := pr) (n := n) (.inl hv))
        obtain rfl : v' = !v := by cases v <;> cases v' <;> simp at hv ⊢
        clear hv
        cases v
        all_goals
          simp only [Bool.not_true, Bool.not_false] at HX HP hr' ⊢
          go_enter Try.func15, Try.ntmps15
          go_wp2_with (first | (go_at_call 33; (with_reducible refine (R04.right_any _ hi lo _).mono ?_); rintro e wa ⟨rfl, hb⟩; replace HX := Lib.hid (HX.out.next hb); clear hb; obtain ⟨c0, c1, c2, d0, d1, d2⟩ := HX.out.cells) | (go_at_call 33; (with_reducible refine (R04.right_any _ hi' lo' _).mono ?_); rintro e wa ⟨rfl, hb⟩; replace HX := Lib.hid (HX.out.next hb); clear hb; obtain ⟨c0, c1, c2, d0, d1, d2⟩ := HX.out.cells) | fail)
          go_ret
          exact ⟨ret_str HP.out.symm, HX.out.2.2.1⟩
end Go.Proofs.Ytkbfiikhflehaaa.R05
