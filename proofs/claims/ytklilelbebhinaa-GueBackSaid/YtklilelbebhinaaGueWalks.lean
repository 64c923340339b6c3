/- The contracts of package gue: number, within, isProto, encode. -/
import Derived.Test.YtklilelbebhinaaTenCells
import Derived.Test.YtklilelbebhinaaOctetWalks
import Derived.Test.YtklilelbebhinaaCheckSet
import Derived.Test.YtklilelbebhinaaCheckTurned
import Derived.Test.YtklilelbebhinaaHeld
import Derived.Deep.RegionHeld3
import Derived.Deep.DrawnRows
namespace Go.Proofs.Ytklilelbebhinaa
open Go.RowKit
set_option linter.unusedVariables false
attribute [local go_sem ↓] ldCV stCV
attribute [local go_sem] rowAt_p rowOkAt_p setAt_p aggOf_a rowOk_new rowOf_new setRow_new aggCV aggCT
attribute [local go_sem ↓] Go.wp_at_zero Go.wp_at_succ

theorem number10_any (n k : Int) (w : World) :
    Calls Try.prog 23 #[.int .i64 n, .int .i64 k] w fun e w' => e = .returned (.string ⟨(numL n k).toArray⟩) ∧ Below w.heap.size w w' := by
  obtain ⟨h0, h1⟩ := wrapU_bd n
  go_enter Try.func23, Try.ntmps23
  go_wp2_with (go_at_call 24; refine (put_any _ k h0 h1 _).mono ?_; rintro e w' ⟨rfl, hb⟩)
  go_ret
  exact ⟨rfl, hb⟩
theorem number10_is {n k : Int} {p : List UInt8} (hp : numL n k = p) (w : World) :
    Calls Try.prog 23 #[.int .i64 n, .int .i64 k] w fun e w' => e = .returned (.string ⟨p.toArray⟩) ∧ Below w.heap.size w w' := by
  subst hp; exact number10_any n k w
theorem putG_is {n k : Int} {p : List UInt8} (hp : numL n k = p) (h0 : 0 ≤ n) (h1 : n < 18446744073709551616) (w : World) :
    Calls Try.prog 24 #[.int .u64 n, .int .i64 k] w fun e w' => e = .returned (.string ⟨p.toArray⟩) ∧ Below w.heap.size w w' := by
  subst hp
  have h := put_any n k h0 h1 w
  unfold numL
  rw [wrapU n h0 h1]
  exact h
theorem within10_any (n m : Int) (w : World) :
    Calls Try.prog 10 #[.int .i64 n, .int .i64 m] w fun e w' => e = .returned (.bool (inB n m)) ∧ w = w' := by
  by_cases h : 0 ≤ n
  · by_cases h2 : n ≤ m
    · have hr : Hid (inB n m = true) := Lib.hid (decide_eq_true ⟨h, h2⟩)
      go_enter Try.func10, Try.ntmps10
      go_wp2
      go_ret
      exact ⟨ret_bool hr.out.symm, rfl⟩
    · have hr : Hid (inB n m = false) := Lib.hid (decide_eq_false (fun hh => h2 hh.2))
      go_enter Try.func10, Try.ntmps10
      go_wp2
      go_ret
      exact ⟨ret_bool hr.out.symm, rfl⟩
  · have hr : Hid (inB n m = false) := Lib.hid (decide_eq_false (fun hh => h hh.1))
    go_enter Try.func10, Try.ntmps10
    go_wp2
    go_ret
    exact ⟨ret_bool hr.out.symm, rfl⟩
theorem isProto10_any (x : Nat) (w : World) :
    Calls Try.prog 18 #[.int .i64 (x : Nat)] w fun e w' => e = .returned (.bool (decide (x = 4 ∨ x = 41))) ∧ w = w' := by
  by_cases h : x = 4
  · have hr : Hid (decide (x = 4 ∨ x = 41) = true) := Lib.hid (decide_eq_true (.inl h))
    have h1 : (((x : Nat) : Int) == 4) = true := by simp; omega
    clear h
    go_enter Try.func18, Try.ntmps18
    go_wp2
    go_ret
    exact ⟨ret_bool hr.out.symm, rfl⟩
  · have h1 : (((x : Nat) : Int) == 4) = false := by simp; omega
    by_cases h2 : x = 41
    · have hr : Hid (decide (x = 4 ∨ x = 41) = true) := Lib.hid (decide_eq_true (.inr h2))
      have h3 : (((x : Nat) : Int) == 41) = true := by simp; omega
      clear h h2
      go_enter Try.func18, Try.ntmps18
      go_wp2
      go_ret
      exact ⟨ret_bool hr.out.symm, rfl⟩
    · have hr : Hid (decide (x = 4 ∨ x = 41) = false) := Lib.hid (decide_eq_false (by omega))
      have h3 : (((x : Nat) : Int) == 41) = false := by simp; omega
      clear h h2
      go_enter Try.func18, Try.ntmps18
      go_wp2
      go_ret
      exact ⟨ret_bool hr.out.symm, rfl⟩
theorem catG (a b c d z e : List UInt8) : (⟨#[71, 85, 1]⟩ : ByteArray) ++ ⟨a.toArray⟩ ++ ⟨b.toArray⟩ ++ ⟨c.toArray⟩ ++ ⟨d.toArray⟩ ++ ⟨z.toArray⟩ ++ ⟨e.toArray⟩ = ⟨([71, 85, 1] ++ a ++ b ++ c ++ d ++ z ++ e).toArray⟩ := by
  apply ext_eq
  simp
set_option maxHeartbeats 4000000 in
theorem encode10_ok (v : Bool) (b k : Int) (f : Bool) (i : Int) (L : List UInt8) (hL : L = cover10 ⟨v, b, k, f, i⟩) (hb : BC ⟨v, b, k, f, i⟩) (w : World) : Calls Try.prog 11 #[.agg #[.bool (v), .int .i64 (b), .int .u64 (k), .bool (f), .int .i64 (i)]] w fun e w' => e = .returned (.string ⟨L.toArray⟩) ∧ Below w.heap.size w w' := by
  obtain ⟨k0, k1⟩ := hb
  dsimp only at k0 k1
  obtain ⟨p1, e1, l1⟩ : ∃ p, numL (kindC ⟨v, b, k, f, i⟩ : Int) 1 = p ∧ p.length = 1 := ⟨_, rfl, numL_len _ _ (by omega) (by omega)⟩
  obtain ⟨p2, e2, l2⟩ : ∃ p, numL b 2 = p ∧ p.length = 2 := ⟨_, rfl, numL_len _ _ (by omega) (by omega)⟩
  obtain ⟨p3, e3, l3⟩ : ∃ p, numL (firstC ⟨v, b, k, f, i⟩ : Int) 1 = p ∧ p.length = 1 := ⟨_, rfl, numL_len _ _ (by omega) (by omega)⟩
  obtain ⟨p4, e4, l4⟩ : ∃ p, numL i 1 = p ∧ p.length = 1 := ⟨_, rfl, numL_len _ _ (by omega) (by omega)⟩
  obtain ⟨p0, e0, l0⟩ : ∃ p, numL 0 2 = p ∧ p.length = 2 := ⟨_, rfl, numL_len _ _ (by omega) (by omega)⟩
  obtain ⟨p5, e5, l5⟩ : ∃ p, numL k 8 = p ∧ p.length = 8 := ⟨_, rfl, numL_len _ _ (by omega) (by omega)⟩
  have C1 := number10_is e1
  have C2 := Lib.hid (number10_is e2)
  have C3 := number10_is e3
  have C4 := Lib.hid (number10_is e4)
  have C0 := Lib.hid (number10_is e0)
  have C5P := Lib.hid (putG_is e5 (by omega) (by omega))
  have z0 : p0 = [0, 0] := by rw [← e0]; decide
  have hHL : L = [71, 85, 1] ++ p1 ++ p2 ++ p3 ++ p4 ++ p0 ++ p5 := by
    rw [hL]
    unfold cover10 headC
    rw [e1, e2, e3, e4, e5, z0]
  have hC := catG p1 p2 p3 p4 p0 p5
  rw [← hHL] at hC
  have HC := Lib.hid hC
  have hK : kindC ⟨v, b, k, f, i⟩ = if v then 41 else 4 := rfl
  have hF : firstC ⟨v, b, k, f, i⟩ = if f then 1 else 0 := rfl
  rw [hK] at C1
  rw [hF] at C3
  clear e1 e2 e3 e4 e5 e0 hL hHL hC z0 hK hF k0 k1
  cases v with
  | true =>
    replace C1 := Lib.hid (show ∀ w : World, Calls Try.prog 23 #[.int .i64 41, .int .i64 1] w fun e w' => e = .returned (.string ⟨p1.toArray⟩) ∧ Below w.heap.size w w' from C1)
    cases f with
    | true =>
      replace C3 := Lib.hid (show ∀ w : World, Calls Try.prog 23 #[.int .i64 1, .int .i64 1] w fun e w' => e = .returned (.string ⟨p3.toArray⟩) ∧ Below w.heap.size w w' from C3)
      have HX : Hid (Held w.heap.size w.heap.size 24 #[.bool (true), .int .i64 (b), .int .u64 (k), .bool (true), .int .i64 (i)] w (w.alloc (.cells #[.bool (true), .int .i64 (b), .int .u64 (k), .bool (true), .int .i64 (i)] 24))) := Lib.hid ⟨HasB.new w _ _, (Below.refl _ _).alloc (Nat.le_refl _) _, by simp⟩
      have c0 := HasB.cell HX.out.1 0 (.bool true) rfl
      have c3 := HasB.cell HX.out.1 3 (.bool true) rfl
      go_enter Try.func11, Try.ntmps11
      go_wp2_with fail
      clear c0 c3
      replace HX := Lib.hid HX.out.drew
      go_region_held3 (fun w' => w'.cell? ⟨w.heap.size, 0, none⟩ = some (.bool (true)) ∧ w'.cell? ⟨w.heap.size, 1, none⟩ = some (.int .i64 (b)) ∧ w'.cell? ⟨w.heap.size, 2, none⟩ = some (.int .u64 (k)) ∧ w'.cell? ⟨w.heap.size, 3, none⟩ = some (.bool (true)) ∧ w'.cell? ⟨w.heap.size, 4, none⟩ = some (.int .i64 (i))) (exact cells5 HX.out.1) (first | (go_at_call 23; (with_reducible refine (C1.out _).mono ?_); rintro e wa ⟨rfl, hb⟩; replace HX := Lib.hid (HX.out.next hb); clear hb) | (go_at_call 23; (with_reducible refine (C2.out _).mono ?_); rintro e wa ⟨rfl, hb⟩; replace HX := Lib.hid (HX.out.next hb); clear hb) | (go_at_call 23; (with_reducible refine (C3.out _).mono ?_); rintro e wa ⟨rfl, hb⟩; replace HX := Lib.hid (HX.out.next hb); clear hb) | (go_at_call 23; (with_reducible refine (C4.out _).mono ?_); rintro e wa ⟨rfl, hb⟩; replace HX := Lib.hid (HX.out.next hb); clear hb) | (go_at_call 23; (with_reducible refine (C0.out _).mono ?_); rintro e wa ⟨rfl, hb⟩; replace HX := Lib.hid (HX.out.next hb); clear hb) | (go_at_call 24; (with_reducible refine (C5P.out _).mono ?_); rintro e wa ⟨rfl, hb⟩; replace HX := Lib.hid (HX.out.next hb); clear hb))
      all_goals
        rw [HC.out]
        clear HC
        have HD := Lib.hid HX.out.2.1
        clear HX
        go_wp2_with fail
        go_ret
        exact ⟨rfl, HD.out⟩
    | false =>
      replace C3 := Lib.hid (show ∀ w : World, Calls Try.prog 23 #[.int .i64 0, .int .i64 1] w fun e w' => e = .returned (.string ⟨p3.toArray⟩) ∧ Below w.heap.size w w' from C3)
      have HX : Hid (Held w.heap.size w.heap.size 24 #[.bool (true), .int .i64 (b), .int .u64 (k), .bool (false), .int .i64 (i)] w (w.alloc (.cells #[.bool (true), .int .i64 (b), .int .u64 (k), .bool (false), .int .i64 (i)] 24))) := Lib.hid ⟨HasB.new w _ _, (Below.refl _ _).alloc (Nat.le_refl _) _, by simp⟩
      have c0 := HasB.cell HX.out.1 0 (.bool true) rfl
      have c3 := HasB.cell HX.out.1 3 (.bool false) rfl
      go_enter Try.func11, Try.ntmps11
      go_wp2_with fail
      clear c0 c3
      replace HX := Lib.hid HX.out.drew
      go_region_held3 (fun w' => w'.cell? ⟨w.heap.size, 0, none⟩ = some (.bool (true)) ∧ w'.cell? ⟨w.heap.size, 1, none⟩ = some (.int .i64 (b)) ∧ w'.cell? ⟨w.heap.size, 2, none⟩ = some (.int .u64 (k)) ∧ w'.cell? ⟨w.heap.size, 3, none⟩ = some (.bool (false)) ∧ w'.cell? ⟨w.heap.size, 4, none⟩ = some (.int .i64 (i))) (exact cells5 HX.out.1) (first | (go_at_call 23; (with_reducible refine (C1.out _).mono ?_); rintro e wa ⟨rfl, hb⟩; replace HX := Lib.hid (HX.out.next hb); clear hb) | (go_at_call 23; (with_reducible refine (C2.out _).mono ?_); rintro e wa ⟨rfl, hb⟩; replace HX := Lib.hid (HX.out.next hb); clear hb) | (go_at_call 23; (with_reducible refine (C3.out _).mono ?_); rintro e wa ⟨rfl, hb⟩; replace HX := Lib.hid (HX.out.next hb); clear hb) | (go_at_call 23; (with_reducible refine (C4.out _).mono ?_); rintro e wa ⟨rfl, hb⟩; replace HX := Lib.hid (HX.out.next hb); clear hb) | (go_at_call 23; (with_reducible refine (C0.out _).mono ?_); rintro e wa ⟨rfl, hb⟩; replace HX := Lib.hid (HX.out.next hb); clear hb) | (go_at_call 24; (with_reducible refine (C5P.out _).mono ?_); rintro e wa ⟨rfl, hb⟩; replace HX := Lib.hid (HX.out.next hb); clear hb))
      all_goals
        rw [HC.out]
        clear HC
        have HD := Lib.hid HX.out.2.1
        clear HX
        go_wp2_with fail
        go_ret
        exact ⟨rfl, HD.out⟩
  | false =>
    replace C1 := Lib.hid (show ∀ w : World, Calls Try.prog 23 #[.int .i64 4, .int .i64 1] w fun e w' => e = .returned (.string ⟨p1.toArray⟩) ∧ Below w.heap.size w w' from C1)
    cases f with
    | true =>
      replace C3 := Lib.hid (show ∀ w : World, Calls Try.prog 23 #[.int .i64 1, .int .i64 1] w fun e w' => e = .returned (.string ⟨p3.toArray⟩) ∧ Below w.heap.size w w' from C3)
      have HX : Hid (Held w.heap.size w.heap.size 24 #[.bool (false), .int .i64 (b), .int .u64 (k), .bool (true), .int .i64 (i)] w (w.alloc (.cells #[.bool (false), .int .i64 (b), .int .u64 (k), .bool (true), .int .i64 (i)] 24))) := Lib.hid ⟨HasB.new w _ _, (Below.refl _ _).alloc (Nat.le_refl _) _, by simp⟩
      have c0 := HasB.cell HX.out.1 0 (.bool false) rfl
      have c3 := HasB.cell HX.out.1 3 (.bool true) rfl
      go_enter Try.func11, Try.ntmps11
      go_wp2_with fail
      clear c0 c3
      replace HX := Lib.hid HX.out.drew
      go_region_held3 (fun w' => w'.cell? ⟨w.heap.size, 0, none⟩ = some (.bool (false)) ∧ w'.cell? ⟨w.heap.size, 1, none⟩ = some (.int .i64 (b)) ∧ w'.cell? ⟨w.heap.size, 2, none⟩ = some (.int .u64 (k)) ∧ w'.cell? ⟨w.heap.size, 3, none⟩ = some (.bool (true)) ∧ w'.cell? ⟨w.heap.size, 4, none⟩ = some (.int .i64 (i))) (exact cells5 HX.out.1) (first | (go_at_call 23; (with_reducible refine (C1.out _).mono ?_); rintro e wa ⟨rfl, hb⟩; replace HX := Lib.hid (HX.out.next hb); clear hb) | (go_at_call 23; (with_reducible refine (C2.out _).mono ?_); rintro e wa ⟨rfl, hb⟩; replace HX := Lib.hid (HX.out.next hb); clear hb) | (go_at_call 23; (with_reducible refine (C3.out _).mono ?_); rintro e wa ⟨rfl, hb⟩; replace HX := Lib.hid (HX.out.next hb); clear hb) | (go_at_call 23; (with_reducible refine (C4.out _).mono ?_); rintro e wa ⟨rfl, hb⟩; replace HX := Lib.hid (HX.out.next hb); clear hb) | (go_at_call 23; (with_reducible refine (C0.out _).mono ?_); rintro e wa ⟨rfl, hb⟩; replace HX := Lib.hid (HX.out.next hb); clear hb) | (go_at_call 24; (with_reducible refine (C5P.out _).mono ?_); rintro e wa ⟨rfl, hb⟩; replace HX := Lib.hid (HX.out.next hb); clear hb))
      all_goals
        rw [HC.out]
        clear HC
        have HD := Lib.hid HX.out.2.1
        clear HX
        go_wp2_with fail
        go_ret
        exact ⟨rfl, HD.out⟩
    | false =>
      replace C3 := Lib.hid (show ∀ w : World, Calls Try.prog 23 #[.int .i64 0, .int .i64 1] w fun e w' => e = .returned (.string ⟨p3.toArray⟩) ∧ Below w.heap.size w w' from C3)
      have HX : Hid (Held w.heap.size w.heap.size 24 #[.bool (false), .int .i64 (b), .int .u64 (k), .bool (false), .int .i64 (i)] w (w.alloc (.cells #[.bool (false), .int .i64 (b), .int .u64 (k), .bool (false), .int .i64 (i)] 24))) := Lib.hid ⟨HasB.new w _ _, (Below.refl _ _).alloc (Nat.le_refl _) _, by simp⟩
      have c0 := HasB.cell HX.out.1 0 (.bool false) rfl
      have c3 := HasB.cell HX.out.1 3 (.bool false) rfl
      go_enter Try.func11, Try.ntmps11
      go_wp2_with fail
      clear c0 c3
      replace HX := Lib.hid HX.out.drew
      go_region_held3 (fun w' => w'.cell? ⟨w.heap.size, 0, none⟩ = some (.bool (false)) ∧ w'.cell? ⟨w.heap.size, 1, none⟩ = some (.int .i64 (b)) ∧ w'.cell? ⟨w.heap.size, 2, none⟩ = some (.int .u64 (k)) ∧ w'.cell? ⟨w.heap.size, 3, none⟩ = some (.bool (false)) ∧ w'.cell? ⟨w.heap.size, 4, none⟩ = some (.int .i64 (i))) (exact cells5 HX.out.1) (first | (go_at_call 23; (with_reducible refine (C1.out _).mono ?_); rintro e wa ⟨rfl, hb⟩; replace HX := Lib.hid (HX.out.next hb); clear hb) | (go_at_call 23; (with_reducible refine (C2.out _).mono ?_); rintro e wa ⟨rfl, hb⟩; replace HX := Lib.hid (HX.out.next hb); clear hb) | (go_at_call 23; (with_reducible refine (C3.out _).mono ?_); rintro e wa ⟨rfl, hb⟩; replace HX := Lib.hid (HX.out.next hb); clear hb) | (go_at_call 23; (with_reducible refine (C4.out _).mono ?_); rintro e wa ⟨rfl, hb⟩; replace HX := Lib.hid (HX.out.next hb); clear hb) | (go_at_call 23; (with_reducible refine (C0.out _).mono ?_); rintro e wa ⟨rfl, hb⟩; replace HX := Lib.hid (HX.out.next hb); clear hb) | (go_at_call 24; (with_reducible refine (C5P.out _).mono ?_); rintro e wa ⟨rfl, hb⟩; replace HX := Lib.hid (HX.out.next hb); clear hb))
      all_goals
        rw [HC.out]
        clear HC
        have HD := Lib.hid HX.out.2.1
        clear HX
        go_wp2_with fail
        go_ret
        exact ⟨rfl, HD.out⟩
theorem encode10_any (c : CV) (hb : BC c) (w : World) :
    Calls Try.prog 11 #[.agg #[.bool c.v6, .int .i64 c.bk, .int .u64 c.ck, .bool c.fi, .int .i64 c.ins]] w fun e w' => e = .returned (.string ⟨(cover10 c).toArray⟩) ∧ Below w.heap.size w w' := by
  obtain ⟨v, b, k, f, i⟩ := c
  exact encode10_ok v b k f i _ rfl hb w
end Go.Proofs.Ytklilelbebhinaa
