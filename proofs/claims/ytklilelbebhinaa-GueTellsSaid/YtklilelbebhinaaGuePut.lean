/- The contract of package gue: Put. -/
import Derived.Test.YtklilelbebhinaaGueWalks
namespace Go.Proofs.Ytklilelbebhinaa
open Go.RowKit
set_option linter.unusedVariables false
attribute [local go_sem ↓] ldCV stCV
attribute [local go_sem] rowAt_p rowOkAt_p setAt_p aggOf_a rowOk_new rowOf_new setRow_new aggCV aggCT
attribute [local go_sem ↓] Go.wp_at_zero Go.wp_at_succ

theorem put10_no (c : CV) (p : ByteArray) (O : ByteArray) (E : Int) (HO : Hid (O = ⟨#[]⟩)) (HE : Hid (E = 1)) (h : okC c = false) (w : World) : Calls Try.prog 6 #[.agg #[.bool c.v6, .int .i64 c.bk, .int .u64 c.ck, .bool c.fi, .int .i64 c.ins], .string p] w fun e w' => e = .returned (.tuple #[.string O, .int .i64 E]) ∧ Below w.heap.size w w' := by
  have W1 := within10_any c.bk 65535
  have W2 := within10_any c.ins 255
  unfold okC at h
  cases h1 : inB c.bk 65535 with
  | false =>
    rw [h1] at W1
    replace W1 := Lib.hid W1
    replace W2 := Lib.hid W2
    (have HX : Hid (Held w.heap.size w.heap.size 24 #[.bool c.v6, .int .i64 c.bk, .int .u64 c.ck, .bool c.fi, .int .i64 c.ins] w (w.alloc (.cells #[.bool c.v6, .int .i64 c.bk, .int .u64 c.ck, .bool c.fi, .int .i64 c.ins] 24))) := Lib.hid ⟨HasB.new w _ _, (Below.refl _ _).alloc (Nat.le_refl _) _, by simp⟩; have c1 := HasB.cell HX.out.1 1 _ rfl; have c4 := HasB.cell HX.out.1 4 _ rfl; have hro := HasB.rowOk HX.out.1 (n := 5) rfl; have hrw := HasB.rowOf HX.out.1)
    clear h h1
    (go_enter Try.func6, Try.ntmps6; go_wp2_with (first | (go_at_call 10; (with_reducible refine (W1.out _).mono ?_); rintro e wz ⟨rfl, rfl⟩) | (go_at_call 10; (with_reducible refine (W2.out _).mono ?_); rintro e wz ⟨rfl, rfl⟩) | fail | fail))
    (go_ret2; exact ⟨ret_si HO.out.symm HE.out.symm, HX.out.2.1⟩)
  | true =>
    rw [h1, Bool.true_and] at h
    rw [h1] at W1
    rw [h] at W2
    replace W1 := Lib.hid W1
    replace W2 := Lib.hid W2
    (have HX : Hid (Held w.heap.size w.heap.size 24 #[.bool c.v6, .int .i64 c.bk, .int .u64 c.ck, .bool c.fi, .int .i64 c.ins] w (w.alloc (.cells #[.bool c.v6, .int .i64 c.bk, .int .u64 c.ck, .bool c.fi, .int .i64 c.ins] 24))) := Lib.hid ⟨HasB.new w _ _, (Below.refl _ _).alloc (Nat.le_refl _) _, by simp⟩; have c1 := HasB.cell HX.out.1 1 _ rfl; have c4 := HasB.cell HX.out.1 4 _ rfl; have hro := HasB.rowOk HX.out.1 (n := 5) rfl; have hrw := HasB.rowOf HX.out.1)
    clear h h1
    (go_enter Try.func6, Try.ntmps6; go_wp2_with (first | (go_at_call 10; (with_reducible refine (W1.out _).mono ?_); rintro e wz ⟨rfl, rfl⟩) | (go_at_call 10; (with_reducible refine (W2.out _).mono ?_); rintro e wz ⟨rfl, rfl⟩) | fail | fail))
    (go_ret2; exact ⟨ret_si HO.out.symm HE.out.symm, HX.out.2.1⟩)
theorem put10_long (c : CV) (p : ByteArray) (O : ByteArray) (E : Int) (HO : Hid (O = ⟨#[]⟩)) (HE : Hid (E = 5)) (h : okC c = true) (hl : 9000 < p.size) (w : World) : Calls Try.prog 6 #[.agg #[.bool c.v6, .int .i64 c.bk, .int .u64 c.ck, .bool c.fi, .int .i64 c.ins], .string p] w fun e w' => e = .returned (.tuple #[.string O, .int .i64 E]) ∧ Below w.heap.size w w' := by
  have W1 := within10_any c.bk 65535
  have W2 := within10_any c.ins 255
  unfold okC at h
  rw [Bool.and_eq_true] at h
  rw [h.1] at W1
  rw [h.2] at W2
  replace W1 := Lib.hid W1
  replace W2 := Lib.hid W2
  (have HX : Hid (Held w.heap.size w.heap.size 24 #[.bool c.v6, .int .i64 c.bk, .int .u64 c.ck, .bool c.fi, .int .i64 c.ins] w (w.alloc (.cells #[.bool c.v6, .int .i64 c.bk, .int .u64 c.ck, .bool c.fi, .int .i64 c.ins] 24))) := Lib.hid ⟨HasB.new w _ _, (Below.refl _ _).alloc (Nat.le_refl _) _, by simp⟩; have c1 := HasB.cell HX.out.1 1 _ rfl; have c4 := HasB.cell HX.out.1 4 _ rfl; have hro := HasB.rowOk HX.out.1 (n := 5) rfl; have hrw := HasB.rowOf HX.out.1)
  have y5 : (9000 : Int) < p.size := by omega
  clear h hl
  (go_enter Try.func6, Try.ntmps6; go_wp2_with (first | (go_at_call 10; (with_reducible refine (W1.out _).mono ?_); rintro e wz ⟨rfl, rfl⟩) | (go_at_call 10; (with_reducible refine (W2.out _).mono ?_); rintro e wz ⟨rfl, rfl⟩) | fail | fail))
  (go_ret2; exact ⟨ret_si HO.out.symm HE.out.symm, HX.out.2.1⟩)
set_option maxHeartbeats 1000000 in
theorem put10_ok (c : CV) (p : ByteArray) (O : ByteArray) (E : Int) (hO : O = ⟨(setL ⟨(cover10 c).toArray⟩ 8 2 (ck10 c)).toArray⟩ ++ p) (HE : Hid (E = 0)) (h : okC c = true) (hb : BC c) (hl : p.size ≤ 9000) (w : World) : Calls Try.prog 6 #[.agg #[.bool c.v6, .int .i64 c.bk, .int .u64 c.ck, .bool c.fi, .int .i64 c.ins], .string p] w fun e w' => e = .returned (.tuple #[.string O, .int .i64 E]) ∧ Below w.heap.size w w' := by
  have W1 := within10_any c.bk 65535
  have W2 := within10_any c.ins 255
  unfold okC at h
  rw [Bool.and_eq_true] at h
  rw [h.1] at W1
  rw [h.2] at W2
  replace W1 := Lib.hid W1
  replace W2 := Lib.hid W2
  (have HX : Hid (Held w.heap.size w.heap.size 24 #[.bool c.v6, .int .i64 c.bk, .int .u64 c.ck, .bool c.fi, .int .i64 c.ins] w (w.alloc (.cells #[.bool c.v6, .int .i64 c.bk, .int .u64 c.ck, .bool c.fi, .int .i64 c.ins] 24))) := Lib.hid ⟨HasB.new w _ _, (Below.refl _ _).alloc (Nat.le_refl _) _, by simp⟩; have c1 := HasB.cell HX.out.1 1 _ rfl; have c4 := HasB.cell HX.out.1 4 _ rfl; have hro := HasB.rowOk HX.out.1 (n := 5) rfl; have hrw := HasB.rowOf HX.out.1)
  have y5 : ¬ (9000 : Int) < p.size := by omega
  have HM := encode10_any c hb
  obtain ⟨L, hL, hLl⟩ : ∃ L, L = cover10 c ∧ L.length = 18 := ⟨_, rfl, cover10_len _⟩
  rw [← hL] at HM
  replace HM := Lib.hid HM
  have HO1 := of_any ⟨L.toArray⟩ (by show L.length ≤ _; omega)
  rw [show (⟨L.toArray⟩ : ByteArray).data.toList = L by simp] at HO1
  have hb0 := sumL_le L
  obtain ⟨x, hc, hc1⟩ : ∃ x : Nat, (x : Int) = 65535 - (sumL L : Nat) ∧ x = 65535 - sumL L := ⟨65535 - sumL L, by omega, rfl⟩
  have hck : ck10 c = x := by unfold ck10; rw [← hL, hc1]
  rw [← hc] at HO1
  replace HO1 := Lib.hid HO1
  have HS1 := Lib.hid (set_any ⟨L.toArray⟩ 8 2 x (by show L.length ≤ maxLen; unfold maxLen; omega) (by omega) (by omega) (by omega) (by omega))
  have cw : IntKind.u64.wrap (x : Int) = x := wrapU _ (by omega) (by omega)
  have sl : (setL ⟨L.toArray⟩ 8 2 x).length = L.length := by rw [setL_len']; rfl
  rw [hck, ← hL] at hO
  generalize setL ⟨L.toArray⟩ 8 2 x = Z at *
  have f1 : (9223372036854775807 < 18 + p.size) = False := eq_false (by omega)
  rw [hLl] at sl
  have HO := Lib.hid hO
  clear hL hc hc1 hb0 hLl hO hck h hl hb
  (go_enter Try.func6, Try.ntmps6; go_wp2_with (first | (go_at_call 10; (with_reducible refine (W1.out _).mono ?_); rintro e wz ⟨rfl, rfl⟩) | (go_at_call 10; (with_reducible refine (W2.out _).mono ?_); rintro e wz ⟨rfl, rfl⟩) | (go_at_call 11; (with_reducible refine (HM.out _).mono ?_); rintro e wa ⟨rfl, hb⟩; replace HX := Lib.hid (HX.out.next hb); clear hb) | (go_at_call 13; (with_reducible refine (HO1.out _).mono ?_); rintro e wa ⟨rfl, hb⟩; replace HX := Lib.hid (HX.out.next hb); clear hb) | (go_at_call 12; (with_reducible refine (HS1.out _).mono ?_); rintro e wa ⟨rfl, hb⟩; replace HX := Lib.hid (HX.out.next hb); clear hb) | fail))
  (go_ret2; exact ⟨ret_si HO.out.symm HE.out.symm, HX.out.2.1⟩)
theorem put10_any (c : CV) (p : ByteArray) (hb : BC c) (w : World) :
    Calls Try.prog 6 #[.agg #[.bool c.v6, .int .i64 c.bk, .int .u64 c.ck, .bool c.fi, .int .i64 c.ins], .string p] w fun e w' => e = .returned (.tuple #[.string (out10 c p), .int .i64 (err10 c p)]) ∧ Below w.heap.size w w' := by
  rcases err10_cases c p with ⟨h, he⟩ | ⟨h, hl, he⟩ | ⟨h, hl, he⟩
  · exact put10_no c p _ _ (Lib.hid (if_neg (by omega))) (Lib.hid he) h w
  · exact put10_long c p _ _ (Lib.hid (if_neg (by omega))) (Lib.hid he) h hl w
  · exact put10_ok c p _ _ (if_pos he) (Lib.hid he) h hb hl w
end Go.Proofs.Ytklilelbebhinaa
