/- The contract of cloakroomref10: Put. -/
import Derived.Test.YtklilelbebhinaaTenCells
import Derived.Test.YtklilelbebhinaaRef02Walks
import Derived.Test.YtklilelbebhinaaRef03Turned
import Derived.Test.YtklilelbebhinaaHeld
import Derived.Deep.RegionHeld3
import Derived.Deep.DrawnRows
namespace Go.Proofs.Ytklilelbebhinaa.R10
open Go.RowKit
set_option linter.unusedVariables false
attribute [local go_sem ↓] ldCV stCV
attribute [local go_sem] rowAt_p rowOkAt_p setAt_p aggOf_a rowOk_new rowOf_new setRow_new aggCV aggCT
attribute [local go_sem ↓] Go.wp_at_zero Go.wp_at_succ

theorem put02_is {n k : Int} {p : List UInt8} (hp : numL n k = p) (h0 : 0 ≤ n) (h1 : n < 18446744073709551616) (w : World) :
    Calls Try.prog 14 #[.int .u64 n, .int .i64 k] w fun e w' => e = .returned (.string ⟨p.toArray⟩) ∧ Below w.heap.size w w' := by
  subst hp
  have h := R02.put_any n k h0 h1 w
  unfold numL
  rw [wrapU n h0 h1]
  exact h
theorem catC (a b c d e : List UInt8) : (⟨#[71, 85, 1]⟩ : ByteArray) ++ ⟨a.toArray⟩ ++ ⟨b.toArray⟩ ++ ⟨c.toArray⟩ ++ ⟨d.toArray⟩ ++ ⟨#[0, 0]⟩ ++ ⟨e.toArray⟩ = ⟨([71, 85, 1] ++ a ++ b ++ c ++ d ++ [0, 0] ++ e).toArray⟩ := by
  apply ext_eq
  simp
theorem inB_no {n m : Int} (h : inB n m = false) : n < 0 ∨ m < n := by
  have := of_decide_eq_false h
  omega
theorem put_arg (c : CV) (p : ByteArray) (O : ByteArray) (E : Int) (HO : Hid (O = ⟨#[]⟩)) (HE : Hid (E = 1)) (h : okC c = false) (w : World) : Calls Try.prog 7 #[.agg #[.bool c.v6, .int .i64 c.bk, .int .u64 c.ck, .bool c.fi, .int .i64 c.ins], .string p] w fun e w' => e = .returned (.tuple #[.string O, .int .i64 E]) ∧ Below w.heap.size w w' := by
  have HX : Hid (Held w.heap.size w.heap.size 24 #[.bool c.v6, .int .i64 c.bk, .int .u64 c.ck, .bool c.fi, .int .i64 c.ins] w (w.alloc (.cells #[.bool c.v6, .int .i64 c.bk, .int .u64 c.ck, .bool c.fi, .int .i64 c.ins] 24))) := Lib.hid ⟨HasB.new w _ _, (Below.refl _ _).alloc (Nat.le_refl _) _, by simp⟩
  cases h1 : inB c.bk 65535 with
  | false =>
    rcases inB_no h1 with y1 | y2
    · clear h h1
      (go_enter Try.func7, Try.ntmps7; go_wp2_with fail)
      (go_ret2; exact ⟨ret_si HO.out.symm HE.out.symm, HX.out.2.1⟩)
    · have y1 : ¬ c.bk < 0 := by omega
      clear h h1
      (go_enter Try.func7, Try.ntmps7; go_wp2_with fail)
      (go_ret2; exact ⟨ret_si HO.out.symm HE.out.symm, HX.out.2.1⟩)
  | true =>
    have h2 : inB c.ins 255 = false := by
      unfold okC at h
      rw [h1] at h
      simpa using h
    have b1 := inB_is h1
    have y1 : ¬ c.bk < 0 := by omega
    have y2 : ¬ 65535 < c.bk := by omega
    rcases inB_no h2 with y3 | y4
    · clear h h1 h2 b1
      (go_enter Try.func7, Try.ntmps7; go_wp2_with fail)
      (go_ret2; exact ⟨ret_si HO.out.symm HE.out.symm, HX.out.2.1⟩)
    · have y3 : ¬ c.ins < 0 := by omega
      clear h h1 h2 b1
      (go_enter Try.func7, Try.ntmps7; go_wp2_with fail)
      (go_ret2; exact ⟨ret_si HO.out.symm HE.out.symm, HX.out.2.1⟩)
theorem put_long (c : CV) (p : ByteArray) (O : ByteArray) (E : Int) (HO : Hid (O = ⟨#[]⟩)) (HE : Hid (E = 5)) (h : okC c = true) (hl : 9000 < p.size) (w : World) : Calls Try.prog 7 #[.agg #[.bool c.v6, .int .i64 c.bk, .int .u64 c.ck, .bool c.fi, .int .i64 c.ins], .string p] w fun e w' => e = .returned (.tuple #[.string O, .int .i64 E]) ∧ Below w.heap.size w w' := by
  have HX : Hid (Held w.heap.size w.heap.size 24 #[.bool c.v6, .int .i64 c.bk, .int .u64 c.ck, .bool c.fi, .int .i64 c.ins] w (w.alloc (.cells #[.bool c.v6, .int .i64 c.bk, .int .u64 c.ck, .bool c.fi, .int .i64 c.ins] 24))) := Lib.hid ⟨HasB.new w _ _, (Below.refl _ _).alloc (Nat.le_refl _) _, by simp⟩
  have hh := h
  unfold okC at hh
  rw [Bool.and_eq_true] at hh
  have b1 := inB_is hh.1
  have b2 := inB_is hh.2
  try dsimp only at b1 b2
  have y1 : ¬ c.bk < 0 := by omega
  have y2 : ¬ 65535 < c.bk := by omega
  have y3 : ¬ c.ins < 0 := by omega
  have y4 : ¬ 255 < c.ins := by omega
  have y5 : (9000 : Int) < p.size := by omega
  clear h hh b1 b2 hl
  (go_enter Try.func7, Try.ntmps7; go_wp2_with fail)
  (go_ret2; exact ⟨ret_si HO.out.symm HE.out.symm, HX.out.2.1⟩)
set_option maxHeartbeats 4000000 in
theorem put_ok (v : Bool) (b k : Int) (f : Bool) (i : Int) (p : ByteArray) (O : ByteArray) (E : Int) (hO : O = ⟨(setL ⟨(cover10 ⟨v, b, k, f, i⟩).toArray⟩ 8 2 (ck10 ⟨v, b, k, f, i⟩)).toArray⟩ ++ p) (HE : Hid (E = 0)) (h : okC ⟨v, b, k, f, i⟩ = true) (hb : BC ⟨v, b, k, f, i⟩) (hl : p.size ≤ 9000) (w : World) : Calls Try.prog 7 #[.agg #[.bool (v), .int .i64 (b), .int .u64 (k), .bool (f), .int .i64 (i)], .string p] w fun e w' => e = .returned (.tuple #[.string O, .int .i64 E]) ∧ Below w.heap.size w w' := by
  have hh := h
  unfold okC at hh
  rw [Bool.and_eq_true] at hh
  have b1 := inB_is hh.1
  have b2 := inB_is hh.2
  try dsimp only at b1 b2
  obtain ⟨k0, k1⟩ := hb
  dsimp only at k0 k1
  have y1 : ¬ b < 0 := by omega
  have y2 : ¬ 65535 < b := by omega
  have y3 : ¬ i < 0 := by omega
  have y4 : ¬ 255 < i := by omega
  have y5 : ¬ (9000 : Int) < p.size := by omega
  have x1 : IntKind.u64.wrap (41 : Int) = 41 := by decide
  have x2 : IntKind.u64.wrap (4 : Int) = 4 := by decide
  have x3 : IntKind.u64.wrap (1 : Int) = 1 := by decide
  have x4 : IntKind.u64.wrap (0 : Int) = 0 := by decide
  have x5 : IntKind.u64.wrap b = b := wrapU _ (by omega) (by omega)
  have x6 : IntKind.u64.wrap i = i := wrapU _ (by omega) (by omega)
  obtain ⟨p1, e1, l1⟩ : ∃ p, numL (kindC ⟨v, b, k, f, i⟩ : Int) 1 = p ∧ p.length = 1 := ⟨_, rfl, numL_len _ _ (by omega) (by omega)⟩
  obtain ⟨p2, e2, l2⟩ : ∃ p, numL b 2 = p ∧ p.length = 2 := ⟨_, rfl, numL_len _ _ (by omega) (by omega)⟩
  obtain ⟨p3, e3, l3⟩ : ∃ p, numL (firstC ⟨v, b, k, f, i⟩ : Int) 1 = p ∧ p.length = 1 := ⟨_, rfl, numL_len _ _ (by omega) (by omega)⟩
  obtain ⟨p4, e4, l4⟩ : ∃ p, numL i 1 = p ∧ p.length = 1 := ⟨_, rfl, numL_len _ _ (by omega) (by omega)⟩
  obtain ⟨p5, e5, l5⟩ : ∃ p, numL k 8 = p ∧ p.length = 8 := ⟨_, rfl, numL_len _ _ (by omega) (by omega)⟩
  have hK : kindC ⟨v, b, k, f, i⟩ = if v then 41 else 4 := rfl
  have hF : firstC ⟨v, b, k, f, i⟩ = if f then 1 else 0 := rfl
  have C1 := put02_is e1 (by omega) (by rw [hK]; split <;> omega)
  have C2 := Lib.hid (put02_is e2 (by omega) (by omega))
  have C3 := put02_is e3 (by omega) (by rw [hF]; split <;> omega)
  have C4 := Lib.hid (put02_is e4 (by omega) (by omega))
  have C5P := Lib.hid (put02_is e5 (by omega) (by omega))
  obtain ⟨L, hL, hLl⟩ : ∃ L, L = cover10 ⟨v, b, k, f, i⟩ ∧ L.length = 18 := ⟨_, rfl, cover10_len _⟩
  have hHL : L = [71, 85, 1] ++ p1 ++ p2 ++ p3 ++ p4 ++ [0, 0] ++ p5 := by
    rw [hL]
    unfold cover10 headC
    rw [e1, e2, e3, e4, e5]
  have hC := catC p1 p2 p3 p4 p5
  rw [← hHL] at hC
  have HC := Lib.hid hC
  have HO1 := R03.of_any ⟨L.toArray⟩ (by show L.length ≤ _; omega)
  rw [show (⟨L.toArray⟩ : ByteArray).data.toList = L by simp] at HO1
  have hb0 := sumL_le L
  obtain ⟨c, hc, hc1⟩ : ∃ c : Nat, (c : Int) = 65535 - (sumL L : Nat) ∧ c = 65535 - sumL L := ⟨65535 - sumL L, by omega, rfl⟩
  have hck : ck10 ⟨v, b, k, f, i⟩ = c := by unfold ck10; rw [← hL, hc1]
  rw [← hc] at HO1
  have HO1 := Lib.hid HO1
  have HS1 := Lib.hid (R03.set_any ⟨L.toArray⟩ 8 2 c (by show L.length ≤ maxLen; unfold maxLen; omega) (by omega) (by omega) (by omega) (by omega))
  have cw : IntKind.u64.wrap (c : Int) = c := wrapU _ (by omega) (by omega)
  have sl : (setL ⟨L.toArray⟩ 8 2 c).length = L.length := by rw [setL_len']; rfl
  rw [hck, ← hL] at hO
  generalize setL ⟨L.toArray⟩ 8 2 c = Z at *
  have f1 : (9223372036854775807 < 18 + p.size) = False := eq_false (by omega)
  rw [hLl] at sl
  have HO := Lib.hid hO
  rw [hK] at C1
  rw [hF] at C3
  clear e1 e2 e3 e4 e5 hL hc hc1 hb0 hLl hHL hC hO hck hK hF h hh b1 b2 hl k0 k1
  cases v with
  | true =>
    cases f with
    | true =>
      replace C1 := Lib.hid (show ∀ w : World, Calls Try.prog 14 #[.int .u64 41, .int .i64 1] w fun e w' => e = .returned (.string ⟨p1.toArray⟩) ∧ Below w.heap.size w w' from C1)
      replace C3 := Lib.hid (show ∀ w : World, Calls Try.prog 14 #[.int .u64 1, .int .i64 1] w fun e w' => e = .returned (.string ⟨p3.toArray⟩) ∧ Below w.heap.size w w' from C3)
      have HX : Hid (Held w.heap.size w.heap.size 24 #[.bool (true), .int .i64 (b), .int .u64 (k), .bool (true), .int .i64 (i)] w (w.alloc (.cells #[.bool (true), .int .i64 (b), .int .u64 (k), .bool (true), .int .i64 (i)] 24))) := Lib.hid ⟨HasB.new w _ _, (Below.refl _ _).alloc (Nat.le_refl _) _, by simp⟩
      (go_enter Try.func7, Try.ntmps7; go_wp2_with fail)
      replace HX := Lib.hid HX.out.drew
      go_region_held3 (fun w' => w'.cell? ⟨w.heap.size, 0, none⟩ = some (.bool (true)) ∧ w'.cell? ⟨w.heap.size, 1, none⟩ = some (.int .i64 (b)) ∧ w'.cell? ⟨w.heap.size, 2, none⟩ = some (.int .u64 (k)) ∧ w'.cell? ⟨w.heap.size, 3, none⟩ = some (.bool (true)) ∧ w'.cell? ⟨w.heap.size, 4, none⟩ = some (.int .i64 (i))) (exact cells5 HX.out.1) (first | (go_at_call 14; (with_reducible refine (C1.out _).mono ?_); rintro e wa ⟨rfl, hb⟩; replace HX := Lib.hid (HX.out.next hb); clear hb) | (go_at_call 14; (with_reducible refine (C2.out _).mono ?_); rintro e wa ⟨rfl, hb⟩; replace HX := Lib.hid (HX.out.next hb); clear hb) | (go_at_call 14; (with_reducible refine (C3.out _).mono ?_); rintro e wa ⟨rfl, hb⟩; replace HX := Lib.hid (HX.out.next hb); clear hb) | (go_at_call 14; (with_reducible refine (C4.out _).mono ?_); rintro e wa ⟨rfl, hb⟩; replace HX := Lib.hid (HX.out.next hb); clear hb) | (go_at_call 14; (with_reducible refine (C5P.out _).mono ?_); rintro e wa ⟨rfl, hb⟩; replace HX := Lib.hid (HX.out.next hb); clear hb))
      all_goals
        rw [HC.out]
        clear HC
        go_wp2_with (first | (go_at_call 16; (with_reducible refine (HO1.out _).mono ?_); rintro e wa ⟨rfl, hb⟩; replace HX := Lib.hid (HX.out.next hb); clear hb) | (go_at_call 15; (with_reducible refine (HS1.out _).mono ?_); rintro e wa ⟨rfl, hb⟩; replace HX := Lib.hid (HX.out.next hb); clear hb) | fail)
        (go_ret2; exact ⟨ret_si HO.out.symm HE.out.symm, HX.out.2.1⟩)
    | false =>
      replace C1 := Lib.hid (show ∀ w : World, Calls Try.prog 14 #[.int .u64 41, .int .i64 1] w fun e w' => e = .returned (.string ⟨p1.toArray⟩) ∧ Below w.heap.size w w' from C1)
      replace C3 := Lib.hid (show ∀ w : World, Calls Try.prog 14 #[.int .u64 0, .int .i64 1] w fun e w' => e = .returned (.string ⟨p3.toArray⟩) ∧ Below w.heap.size w w' from C3)
      have HX : Hid (Held w.heap.size w.heap.size 24 #[.bool (true), .int .i64 (b), .int .u64 (k), .bool (false), .int .i64 (i)] w (w.alloc (.cells #[.bool (true), .int .i64 (b), .int .u64 (k), .bool (false), .int .i64 (i)] 24))) := Lib.hid ⟨HasB.new w _ _, (Below.refl _ _).alloc (Nat.le_refl _) _, by simp⟩
      (go_enter Try.func7, Try.ntmps7; go_wp2_with fail)
      replace HX := Lib.hid HX.out.drew
      go_region_held3 (fun w' => w'.cell? ⟨w.heap.size, 0, none⟩ = some (.bool (true)) ∧ w'.cell? ⟨w.heap.size, 1, none⟩ = some (.int .i64 (b)) ∧ w'.cell? ⟨w.heap.size, 2, none⟩ = some (.int .u64 (k)) ∧ w'.cell? ⟨w.heap.size, 3, none⟩ = some (.bool (false)) ∧ w'.cell? ⟨w.heap.size, 4, none⟩ = some (.int .i64 (i))) (exact cells5 HX.out.1) (first | (go_at_call 14; (with_reducible refine (C1.out _).mono ?_); rintro e wa ⟨rfl, hb⟩; replace HX := Lib.hid (HX.out.next hb); clear hb) | (go_at_call 14; (with_reducible refine (C2.out _).mono ?_); rintro e wa ⟨rfl, hb⟩; replace HX := Lib.hid (HX.out.next hb); clear hb) | (go_at_call 14; (with_reducible refine (C3.out _).mono ?_); rintro e wa ⟨rfl, hb⟩; replace HX := Lib.hid (HX.out.next hb); clear hb) | (go_at_call 14; (with_reducible refine (C4.out _).mono ?_); rintro e wa ⟨rfl, hb⟩; replace HX := Lib.hid (HX.out.next hb); clear hb) | (go_at_call 14; (with_reducible refine (C5P.out _).mono ?_); rintro e wa ⟨rfl, hb⟩; replace HX := Lib.hid (HX.out.next hb); clear hb))
      all_goals
        rw [HC.out]
        clear HC
        go_wp2_with (first | (go_at_call 16; (with_reducible refine (HO1.out _).mono ?_); rintro e wa ⟨rfl, hb⟩; replace HX := Lib.hid (HX.out.next hb); clear hb) | (go_at_call 15; (with_reducible refine (HS1.out _).mono ?_); rintro e wa ⟨rfl, hb⟩; replace HX := Lib.hid (HX.out.next hb); clear hb) | fail)
        (go_ret2; exact ⟨ret_si HO.out.symm HE.out.symm, HX.out.2.1⟩)
  | false =>
    cases f with
    | true =>
      replace C1 := Lib.hid (show ∀ w : World, Calls Try.prog 14 #[.int .u64 4, .int .i64 1] w fun e w' => e = .returned (.string ⟨p1.toArray⟩) ∧ Below w.heap.size w w' from C1)
      replace C3 := Lib.hid (show ∀ w : World, Calls Try.prog 14 #[.int .u64 1, .int .i64 1] w fun e w' => e = .returned (.string ⟨p3.toArray⟩) ∧ Below w.heap.size w w' from C3)
      have HX : Hid (Held w.heap.size w.heap.size 24 #[.bool (false), .int .i64 (b), .int .u64 (k), .bool (true), .int .i64 (i)] w (w.alloc (.cells #[.bool (false), .int .i64 (b), .int .u64 (k), .bool (true), .int .i64 (i)] 24))) := Lib.hid ⟨HasB.new w _ _, (Below.refl _ _).alloc (Nat.le_refl _) _, by simp⟩
      (go_enter Try.func7, Try.ntmps7; go_wp2_with fail)
      replace HX := Lib.hid HX.out.drew
      go_region_held3 (fun w' => w'.cell? ⟨w.heap.size, 0, none⟩ = some (.bool (false)) ∧ w'.cell? ⟨w.heap.size, 1, none⟩ = some (.int .i64 (b)) ∧ w'.cell? ⟨w.heap.size, 2, none⟩ = some (.int .u64 (k)) ∧ w'.cell? ⟨w.heap.size, 3, none⟩ = some (.bool (true)) ∧ w'.cell? ⟨w.heap.size, 4, none⟩ = some (.int .i64 (i))) (exact cells5 HX.out.1) (first | (go_at_call 14; (with_reducible refine (C1.out _).mono ?_); rintro e wa ⟨rfl, hb⟩; replace HX := Lib.hid (HX.out.next hb); clear hb) | (go_at_call 14; (with_reducible refine (C2.out _).mono ?_); rintro e wa ⟨rfl, hb⟩; replace HX := Lib.hid (HX.out.next hb); clear hb) | (go_at_call 14; (with_reducible refine (C3.out _).mono ?_); rintro e wa ⟨rfl, hb⟩; replace HX := Lib.hid (HX.out.next hb); clear hb) | (go_at_call 14; (with_reducible refine (C4.out _).mono ?_); rintro e wa ⟨rfl, hb⟩; replace HX := Lib.hid (HX.out.next hb); clear hb) | (go_at_call 14; (with_reducible refine (C5P.out _).mono ?_); rintro e wa ⟨rfl, hb⟩; replace HX := Lib.hid (HX.out.next hb); clear hb))
      all_goals
        rw [HC.out]
        clear HC
        go_wp2_with (first | (go_at_call 16; (with_reducible refine (HO1.out _).mono ?_); rintro e wa ⟨rfl, hb⟩; replace HX := Lib.hid (HX.out.next hb); clear hb) | (go_at_call 15; (with_reducible refine (HS1.out _).mono ?_); rintro e wa ⟨rfl, hb⟩; replace HX := Lib.hid (HX.out.next hb); clear hb) | fail)
        (go_ret2; exact ⟨ret_si HO.out.symm HE.out.symm, HX.out.2.1⟩)
    | false =>
      replace C1 := Lib.hid (show ∀ w : World, Calls Try.prog 14 #[.int .u64 4, .int .i64 1] w fun e w' => e = .returned (.string ⟨p1.toArray⟩) ∧ Below w.heap.size w w' from C1)
      replace C3 := Lib.hid (show ∀ w : World, Calls Try.prog 14 #[.int .u64 0, .int .i64 1] w fun e w' => e = .returned (.string ⟨p3.toArray⟩) ∧ Below w.heap.size w w' from C3)
      have HX : Hid (Held w.heap.size w.heap.size 24 #[.bool (false), .int .i64 (b), .int .u64 (k), .bool (false), .int .i64 (i)] w (w.alloc (.cells #[.bool (false), .int .i64 (b), .int .u64 (k), .bool (false), .int .i64 (i)] 24))) := Lib.hid ⟨HasB.new w _ _, (Below.refl _ _).alloc (Nat.le_refl _) _, by simp⟩
      (go_enter Try.func7, Try.ntmps7; go_wp2_with fail)
      replace HX := Lib.hid HX.out.drew
      go_region_held3 (fun w' => w'.cell? ⟨w.heap.size, 0, none⟩ = some (.bool (false)) ∧ w'.cell? ⟨w.heap.size, 1, none⟩ = some (.int .i64 (b)) ∧ w'.cell? ⟨w.heap.size, 2, none⟩ = some (.int .u64 (k)) ∧ w'.cell? ⟨w.heap.size, 3, none⟩ = some (.bool (false)) ∧ w'.cell? ⟨w.heap.size, 4, none⟩ = some (.int .i64 (i))) (exact cells5 HX.out.1) (first | (go_at_call 14; (with_reducible refine (C1.out _).mono ?_); rintro e wa ⟨rfl, hb⟩; replace HX := Lib.hid (HX.out.next hb); clear hb) | (go_at_call 14; (with_reducible refine (C2.out _).mono ?_); rintro e wa ⟨rfl, hb⟩; replace HX := Lib.hid (HX.out.next hb); clear hb) | (go_at_call 14; (with_reducible refine (C3.out _).mono ?_); rintro e wa ⟨rfl, hb⟩; replace HX := Lib.hid (HX.out.next hb); clear hb) | (go_at_call 14; (with_reducible refine (C4.out _).mono ?_); rintro e wa ⟨rfl, hb⟩; replace HX := Lib.hid (HX.out.next hb); clear hb) | (go_at_call 14; (with_reducible refine (C5P.out _).mono ?_); rintro e wa ⟨rfl, hb⟩; replace HX := Lib.hid (HX.out.next hb); clear hb))
      all_goals
        rw [HC.out]
        clear HC
        go_wp2_with (first | (go_at_call 16; (with_reducible refine (HO1.out _).mono ?_); rintro e wa ⟨rfl, hb⟩; replace HX := Lib.hid (HX.out.next hb); clear hb) | (go_at_call 15; (with_reducible refine (HS1.out _).mono ?_); rintro e wa ⟨rfl, hb⟩; replace HX := Lib.hid (HX.out.next hb); clear hb) | fail)
        (go_ret2; exact ⟨ret_si HO.out.symm HE.out.symm, HX.out.2.1⟩)
theorem put_any (c : CV) (p : ByteArray) (hb : BC c) (hp : p.size ≤ 1099511627776) (w : World) :
    Calls Try.prog 7 #[.agg #[.bool c.v6, .int .i64 c.bk, .int .u64 c.ck, .bool c.fi, .int .i64 c.ins], .string p] w fun e w' => e = .returned (.tuple #[.string (out10 c p), .int .i64 (err10 c p)]) ∧ Below w.heap.size w w' := by
  rcases err10_cases c p with ⟨h, he⟩ | ⟨h, hl, he⟩ | ⟨h, hl, he⟩
  · exact put_arg c p _ _ (Lib.hid (if_neg (by omega))) (Lib.hid he) h w
  · exact put_long c p _ _ (Lib.hid (if_neg (by omega))) (Lib.hid he) h hl w
  · have hO : out10 c p = ⟨(setL ⟨(cover10 c).toArray⟩ 8 2 (ck10 c)).toArray⟩ ++ p := if_pos he
    obtain ⟨v, b, k, f, i⟩ := c
    exact put_ok v b k f i p _ _ hO (Lib.hid he) h hb hl w
end Go.Proofs.Ytklilelbebhinaa.R10
