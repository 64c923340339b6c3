/- The contracts of cloakroomref06: in, num, Right, Put. -/
import Derived.Test.YtnlinfdfgalmjaaRef04Bytes
import Derived.Test.YtnlinfdfgalmjaaSixEnc
namespace Go.Proofs.Ytnlinfdfgalmjaa.R06
open Go.RowKit
set_option linter.unusedVariables false
attribute [local go_sem ↓] ldH6 stH6 ldR6 stR6
attribute [local go_sem] rowAt_p rowOkAt_p setAt_p aggOf_a rowOk_new rowOf_new setRow_new agg10 aggH6
attribute [local go_sem ↓] Go.wp_at_zero Go.wp_at_succ

theorem num_any (n k : Int) (w : World) :
    Calls Try.prog 15 #[.int .i64 n, .int .i64 k] w fun e w' => e = .returned (.string ⟨(numL n k).toArray⟩) ∧ Below w.heap.size w w' := by
  obtain ⟨h0, h1⟩ := wrapU_bd n
  go_enter Try.func15, Try.ntmps15
  go_wp2_with (go_at_call 28; refine (R02.put_any _ k h0 h1 _).mono ?_; rintro e w' ⟨rfl, hb⟩)
  go_ret
  exact ⟨rfl, hb⟩
theorem in_any (n m : Int) (w : World) :
    Calls Try.prog 27 #[.int .i64 n, .int .i64 m] w fun e w' => e = .returned (.bool (inB n m)) ∧ w = w' := by
  by_cases h : 0 ≤ n
  · by_cases h2 : n ≤ m
    · have hr : Hid (inB n m = true) := Lib.hid (decide_eq_true ⟨h, h2⟩)
      go_enter Try.func27, Try.ntmps27
      go_wp2
      go_ret
      exact ⟨ret_bool hr.out.symm, rfl⟩
    · have hr : Hid (inB n m = false) := Lib.hid (decide_eq_false (fun hh => h2 hh.2))
      go_enter Try.func27, Try.ntmps27
      go_wp2
      go_ret
      exact ⟨ret_bool hr.out.symm, rfl⟩
  · have hr : Hid (inB n m = false) := Lib.hid (decide_eq_false (fun hh => h hh.1))
    go_enter Try.func27, Try.ntmps27
    go_wp2
    go_ret
    exact ⟨ret_bool hr.out.symm, rfl⟩
theorem right_any (h : H6) (w : World) :
    Calls Try.prog 14 #[.agg #[.int .i64 h.cl, .int .i64 h.lb, .int .i64 h.nx, .int .i64 h.hp, .bool h.sv, .int .u64 h.sh, .int .u64 h.sl, .bool h.dv, .int .u64 h.dh, .int .u64 h.dl]] w fun e w' => e = .returned (.bool (valid6 h)) ∧ Below w.heap.size w w' := by
  cases hv : valid6 h with
  | true =>
    obtain ⟨v1, v2, v3, v4, v5, v6⟩ := valid6_is hv
    go_enter Try.func14, Try.ntmps14
    go_wp2_with (first | (go_at_call 27; refine (in_any _ _ _).mono ?_; rintro e w1 ⟨rfl, rfl⟩) | fail)
    go_ret
    refine ⟨ret_bool ?_, (Below.refl _ _).alloc (Nat.le_refl _) _⟩
    first | rfl | simp [*]
  | false =>
    rcases valid6_false hv with v1 | ⟨v1, v2⟩ | ⟨v1, v2, v3⟩ | ⟨v1, v2, v3, v4⟩ | ⟨v1, v2, v3, v4, v5⟩ | ⟨v1, v2, v3, v4, v5, v6⟩
    all_goals
      go_enter Try.func14, Try.ntmps14
      go_wp2_with (first | (go_at_call 27; refine (in_any _ _ _).mono ?_; rintro e w1 ⟨rfl, rfl⟩) | fail)
      go_ret
      refine ⟨ret_bool ?_, (Below.refl _ _).alloc (Nat.le_refl _) _⟩
      first | rfl | simp [*]
theorem num_is {n k : Int} {p : List UInt8} (hp : numL n k = p) (w : World) :
    Calls Try.prog 15 #[.int .i64 n, .int .i64 k] w fun e w' => e = .returned (.string ⟨p.toArray⟩) ∧ Below w.heap.size w w' := by
  subst hp; exact num_any n k w
theorem put_is {hi lo : Int} {p : List UInt8} (hp : addrB true hi lo = p) (h0 : 0 ≤ hi) (h1 : hi < 18446744073709551616) (l0 : 0 ≤ lo) (l1 : lo < 18446744073709551616) (w : World) :
    Calls Try.prog 16 #[.agg #[.bool true, .int .u64 hi, .int .u64 lo]] w fun e w' => e = .returned (.string ⟨p.toArray⟩) ∧ Below w.heap.size w w' := by
  subst hp; exact R04.put_addr _ _ _ h0 h1 l0 l1 w
theorem right_v (h : H6) (hv : valid6 h = true) (w : World) :
    Calls Try.prog 14 #[.agg #[.int .i64 h.cl, .int .i64 h.lb, .int .i64 h.nx, .int .i64 h.hp, .bool true, .int .u64 h.sh, .int .u64 h.sl, .bool true, .int .u64 h.dh, .int .u64 h.dl]] w fun e w' => e = .returned (.bool true) ∧ Below w.heap.size w w' := by
  obtain ⟨v1, v2, v3, v4, v5, v6⟩ := valid6_is hv
  have h1 := right_any h w
  rw [hv, v5, v6] at h1
  exact h1
set_option maxHeartbeats 2000000 in
theorem put_ok (h : H6) (p : ByteArray) (hb : B6 h) (hv : valid6 h = true) (hl : p.size ≤ 65535) (w : World) :
    Calls Try.prog 8 #[.agg #[.int .i64 h.cl, .int .i64 h.lb, .int .i64 h.nx, .int .i64 h.hp, .bool h.sv, .int .u64 h.sh, .int .u64 h.sl, .bool h.dv, .int .u64 h.dh, .int .u64 h.dl], .string p] w fun e w' => e = .returned (.tuple #[.string (out6 h p), .int .i64 (err6 h p)]) ∧ Below w.heap.size w w' := by
  obtain ⟨v1, v2, v3, v4, v5, v6⟩ := valid6_is hv
  have he := err6_is hv hl
  have HO : Hid (out6 h p = ⟨(head6 h (p.size : Int)).toArray⟩ ++ p) := Lib.hid (if_pos he)
  have HE := Lib.hid he
  have b1 := inB_is v1
  have b2 := inB_is v2
  obtain ⟨p1, e1, l1⟩ : ∃ p, numL (1610612736 + h.cl * 1048576 + h.lb) 4 = p ∧ p.length = 4 := ⟨_, rfl, numL_len _ _ (by omega) (by omega)⟩
  obtain ⟨p2, e2, l2⟩ : ∃ q, numL (p.size : Int) 2 = q ∧ q.length = 2 := ⟨_, rfl, numL_len _ _ (by omega) (by omega)⟩
  obtain ⟨p3, e3, l3⟩ : ∃ p, numL h.nx 1 = p ∧ p.length = 1 := ⟨_, rfl, numL_len _ _ (by omega) (by omega)⟩
  obtain ⟨p4, e4, l4⟩ : ∃ p, numL h.hp 1 = p ∧ p.length = 1 := ⟨_, rfl, numL_len _ _ (by omega) (by omega)⟩
  obtain ⟨p5, e5, l5⟩ : ∃ p, addrB true h.sh h.sl = p ∧ p.length = 16 := ⟨_, rfl, addr6_len _ _⟩
  obtain ⟨p6, e6, l6⟩ : ∃ p, addrB true h.dh h.dl = p ∧ p.length = 16 := ⟨_, rfl, addr6_len _ _⟩
  have HP := Lib.hid (head6_parts h (p.size : Int) (p5 := p5) (p6 := p6) e1 e2 e3 e4 (by rw [v5]; exact e5) (by rw [v6]; exact e6))
  have HC := Lib.hid (cat6 p1 p2 p3 p4 p5 p6)
  have C1 := Lib.hid (num_is e1)
  have C2 := Lib.hid (num_is e2)
  have C3 := Lib.hid (num_is e3)
  have C4 := Lib.hid (num_is e4)
  have C5 := Lib.hid (put_is e5 hb.a0 hb.a1 hb.b0 hb.b1)
  have C6 := Lib.hid (put_is e6 hb.c0 hb.c1 hb.d0 hb.d1)
  have CR := Lib.hid (right_v h hv)
  have w1 : IntKind.i64.wrap (h.cl * 1048576) = h.cl * 1048576 := IntWalk.i64_in _ (by omega)
  have w2 : IntKind.i64.wrap (1610612736 + h.cl * 1048576) = 1610612736 + h.cl * 1048576 := IntWalk.i64_in _ (by omega)
  have w3 : IntKind.i64.wrap (1610612736 + h.cl * 1048576 + h.lb) = 1610612736 + h.cl * 1048576 + h.lb := IntWalk.i64_in _ (by omega)
  have hli : ¬ (65535 : Int) < p.size := by omega
  have f1 : (9223372036854775807 < 40 + p.size) = False := eq_false (by omega)
  show Calls Try.prog 8 #[.agg #[.int .i64 h.cl, .int .i64 h.lb, .int .i64 h.nx, .int .i64 h.hp, .bool h.sv, .int .u64 h.sh, .int .u64 h.sl, .bool h.dv, .int .u64 h.dh, .int .u64 h.dl], .string p] w fun e w' => e = .returned (.tuple #[.string (out6 h p), .int .i64 (err6 h p)]) ∧ Below w.heap.size w w'
  rw [v5, v6]
  have hX0 := HasB.new w 26 #[.int .i64 h.cl, .int .i64 h.lb, .int .i64 h.nx, .int .i64 h.hp, .bool true, .int .u64 h.sh, .int .u64 h.sl, .bool true, .int .u64 h.dh, .int .u64 h.dl]
  have HX : Hid (Held w.heap.size w.heap.size 26 #[.int .i64 h.cl, .int .i64 h.lb, .int .i64 h.nx, .int .i64 h.hp, .bool true, .int .u64 h.sh, .int .u64 h.sl, .bool true, .int .u64 h.dh, .int .u64 h.dl] w (w.alloc (.cells #[.int .i64 h.cl, .int .i64 h.lb, .int .i64 h.nx, .int .i64 h.hp, .bool true, .int .u64 h.sh, .int .u64 h.sl, .bool true, .int .u64 h.dh, .int .u64 h.dl] 26))) := Lib.hid ⟨hX0, (Below.refl _ _).alloc (Nat.le_refl _) _, by simp⟩
  clear hX0 e1 e2 e3 e4 e5 e6 v1 v2 v3 v4 v5 v6 hv hb he
  go_enter Try.func8, Try.ntmps8
  go_wp2_with (first | (go_at_call 14; (with_reducible refine (CR.out _).mono ?_); rintro e wa ⟨rfl, hb⟩; replace HX := Lib.hid (HX.out.next hb); clear hb) | fail)
  replace HX := Lib.hid HX.out.drew
  go_region_held3 (fun w' => w'.cell? ⟨w.heap.size, 0, none⟩ = some (.int .i64 h.cl) ∧ w'.cell? ⟨w.heap.size, 1, none⟩ = some (.int .i64 h.lb) ∧ w'.cell? ⟨w.heap.size, 2, none⟩ = some (.int .i64 h.nx) ∧ w'.cell? ⟨w.heap.size, 3, none⟩ = some (.int .i64 h.hp) ∧ w'.cell? ⟨w.heap.size, 4, none⟩ = some (.bool true) ∧ w'.cell? ⟨w.heap.size, 5, none⟩ = some (.int .u64 h.sh) ∧ w'.cell? ⟨w.heap.size, 6, none⟩ = some (.int .u64 h.sl) ∧ w'.cell? ⟨w.heap.size, 7, none⟩ = some (.bool true) ∧ w'.cell? ⟨w.heap.size, 8, none⟩ = some (.int .u64 h.dh) ∧ w'.cell? ⟨w.heap.size, 9, none⟩ = some (.int .u64 h.dl)) (exact cellsV HX.out.1) (first | (go_at_call 15; (with_reducible refine (C1.out _).mono ?_); rintro e wa ⟨rfl, hb⟩; replace HX := Lib.hid (HX.out.next hb); clear hb) | (go_at_call 15; (with_reducible refine (C2.out _).mono ?_); rintro e wa ⟨rfl, hb⟩; replace HX := Lib.hid (HX.out.next hb); clear hb) | (go_at_call 15; (with_reducible refine (C3.out _).mono ?_); rintro e wa ⟨rfl, hb⟩; replace HX := Lib.hid (HX.out.next hb); clear hb) | (go_at_call 15; (with_reducible refine (C4.out _).mono ?_); rintro e wa ⟨rfl, hb⟩; replace HX := Lib.hid (HX.out.next hb); clear hb) | (go_at_call 16; (with_reducible refine (C5.out _).mono ?_); rintro e wa ⟨rfl, hb⟩; replace HX := Lib.hid (HX.out.next hb); clear hb) | (go_at_call 16; (with_reducible refine (C6.out _).mono ?_); rintro e wa ⟨rfl, hb⟩; replace HX := Lib.hid (HX.out.next hb); clear hb))
  all_goals
    have HD := Lib.hid HX.out.2.1
    clear HX
    go_wp2
    go_ret2
    exact ⟨ret_si (by rw [HO.out, HP.out, ← HC.out]) HE.out.symm, HD.out⟩
theorem put6_any (h : H6) (p : ByteArray) (hb : B6 h) (hp : p.size ≤ 1099511627776) (w : World) :
    Calls Try.prog 8 #[.agg #[.int .i64 h.cl, .int .i64 h.lb, .int .i64 h.nx, .int .i64 h.hp, .bool h.sv, .int .u64 h.sh, .int .u64 h.sl, .bool h.dv, .int .u64 h.dh, .int .u64 h.dl], .string p] w fun e w' => e = .returned (.tuple #[.string (out6 h p), .int .i64 (err6 h p)]) ∧ Below w.heap.size w w' := by
  rcases err6_cases h p with ⟨hv, he⟩ | ⟨hv, hl, he⟩ | ⟨hv, hl, he⟩
  · have HO := Lib.hid (out6_no (h := h) (p := p) (by omega))
    have HE := Lib.hid he
    have CR := right_any h
    rw [hv] at CR
    have CR := Lib.hid CR
    clear he
    have hq : Below w.heap.size w (w.alloc (.cells #[.int .i64 h.cl, .int .i64 h.lb, .int .i64 h.nx, .int .i64 h.hp, .bool h.sv, .int .u64 h.sh, .int .u64 h.sl, .bool h.dv, .int .u64 h.dh, .int .u64 h.dl] 26)) := (Below.refl _ _).alloc (Nat.le_refl _) _
    go_enter Try.func8, Try.ntmps8
    go_wp2_with (first | (go_at_call 14; (with_reducible refine (CR.out _).mono ?_); rintro e wa ⟨rfl, hb⟩; replace hq := hq.trans (hb.mono hq.size); clear hb) | fail)
    go_ret2
    exact ⟨ret_si HO.out.symm HE.out.symm, hq⟩
  · have HO := Lib.hid (out6_no (h := h) (p := p) (by omega))
    have HE := Lib.hid he
    have hli : (65535 : Int) < p.size := by omega
    have CR := right_any h
    rw [hv] at CR
    have CR := Lib.hid CR
    clear he hl
    have hq : Below w.heap.size w (w.alloc (.cells #[.int .i64 h.cl, .int .i64 h.lb, .int .i64 h.nx, .int .i64 h.hp, .bool h.sv, .int .u64 h.sh, .int .u64 h.sl, .bool h.dv, .int .u64 h.dh, .int .u64 h.dl] 26)) := (Below.refl _ _).alloc (Nat.le_refl _) _
    go_enter Try.func8, Try.ntmps8
    go_wp2_with (first | (go_at_call 14; (with_reducible refine (CR.out _).mono ?_); rintro e wa ⟨rfl, hb⟩; replace hq := hq.trans (hb.mono hq.size); clear hb) | fail)
    go_ret2
    exact ⟨ret_si HO.out.symm HE.out.symm, hq⟩
  · exact put_ok h p hb hv hl w
end Go.Proofs.Ytnlinfdfgalmjaa.R06
