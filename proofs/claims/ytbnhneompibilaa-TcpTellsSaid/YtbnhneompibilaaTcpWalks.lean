/- The contracts of package tcp: number, within, valid, Stamped, stampOf. -/
import Derived.Test.YtbnhneompibilaaFourPseudo
import Derived.Test.YtbnhneompibilaaCheckTurned
import Derived.Test.YtbnhneompibilaaSevenCells
import Derived.Test.YtbnhneompibilaaSevenVisit
import Derived.Test.YtbnhneompibilaaReadAt
namespace Go.Proofs.Ytbnhneompibilaa
open Go.RowKit
set_option linter.unusedVariables false
attribute [local go_sem ↓] Go.wp_at_zero Go.wp_at_succ

theorem number7_any (n k : Int) (w : World) :
    Calls Try.prog 37 #[.int .i64 n, .int .i64 k] w fun e w' => e = .returned (.string ⟨(numL n k).toArray⟩) ∧ Below w.heap.size w w' := by
  obtain ⟨h0, h1⟩ := wrapU_bd n
  go_enter Try.func37, Try.ntmps37
  go_wp2_with (go_at_call 43; refine (put_any _ k h0 h1 _).mono ?_; rintro e w' ⟨rfl, hb⟩)
  go_ret
  exact ⟨rfl, hb⟩
theorem number7_is {n k : Int} {p : List UInt8} (hp : numL n k = p) (w : World) :
    Calls Try.prog 37 #[.int .i64 n, .int .i64 k] w fun e w' => e = .returned (.string ⟨p.toArray⟩) ∧ Below w.heap.size w w' := by
  subst hp; exact number7_any n k w
theorem within7_any (n m : Int) (w : World) :
    Calls Try.prog 41 #[.int .i64 n, .int .i64 m] w fun e w' => e = .returned (.bool (inB n m)) ∧ w = w' := by
  by_cases h : 0 ≤ n
  · by_cases h2 : n ≤ m
    · have hr : Hid (inB n m = true) := Lib.hid (decide_eq_true ⟨h, h2⟩)
      go_enter Try.func41, Try.ntmps41
      go_wp2
      go_ret
      exact ⟨ret_bool hr.out.symm, rfl⟩
    · have hr : Hid (inB n m = false) := Lib.hid (decide_eq_false (fun hh => h2 hh.2))
      go_enter Try.func41, Try.ntmps41
      go_wp2
      go_ret
      exact ⟨ret_bool hr.out.symm, rfl⟩
  · have hr : Hid (inB n m = false) := Lib.hid (decide_eq_false (fun hh => h hh.1))
    go_enter Try.func41, Try.ntmps41
    go_wp2
    go_ret
    exact ⟨ret_bool hr.out.symm, rfl⟩
theorem valid7_any (h : T7) (w : World) :
    Calls Try.prog 21 #[.agg #[.int .i64 h.sp, .int .i64 h.dp, .int .u32 h.sq, .int .u32 h.ak, .int .i64 h.fl, .int .i64 h.wn, .int .i64 h.ur, .string h.op]] w fun e w' => e = .returned (.bool (valid7 h)) ∧ Below w.heap.size w w' := by
  have hq : Below w.heap.size w (w.alloc (.cells #[.int .i64 h.sp, .int .i64 h.dp, .int .u32 h.sq, .int .u32 h.ak, .int .i64 h.fl, .int .i64 h.wn, .int .i64 h.ur, .string h.op] 34)) := (Below.refl _ _).alloc (Nat.le_refl _) _
  cases hv : valid7 h with
  | true =>
    obtain ⟨v1, v2, v3, v4, v5, v7, v8⟩ := valid7_is hv
    have v7i : (h.op.size : Int) ≤ 40 := by omega
    have v8i : (h.op.size : Int).tmod 4 = 0 := by rw [Int.tmod_eq_emod_of_nonneg (by omega)]; omega
    go_enter Try.func21, Try.ntmps21
    go_wp2_with (first | (go_at_call 41; refine (within7_any _ _ _).mono ?_; rintro e w1 ⟨rfl, rfl⟩) | fail)
    go_ret
    exact ⟨rfl, hq⟩
  | false =>
    rcases valid7_false hv with v1 | ⟨v1, v2⟩ | ⟨v1, v2, v3⟩ | ⟨v1, v2, v3, v4⟩ | ⟨v1, v2, v3, v4, v5⟩ | ⟨v1, v2, v3, v4, v5, v7⟩ | ⟨v1, v2, v3, v4, v5, v7, v8⟩
    case inr.inr.inr.inr.inr.inl =>
      have v7i : ¬ (h.op.size : Int) ≤ 40 := by omega
      go_enter Try.func21, Try.ntmps21
      go_wp2_with (first | (go_at_call 41; refine (within7_any _ _ _).mono ?_; rintro e w1 ⟨rfl, rfl⟩) | fail)
      go_ret
      exact ⟨rfl, hq⟩
    case inr.inr.inr.inr.inr.inr =>
      have v7i : (h.op.size : Int) ≤ 40 := by omega
      have v8i : ((h.op.size : Int) % 4 == 0) = false := by simp; omega
      go_enter Try.func21, Try.ntmps21
      go_wp2_with (first | (go_at_call 41; refine (within7_any _ _ _).mono ?_; rintro e w1 ⟨rfl, rfl⟩) | fail)
      go_ret
      exact ⟨rfl, hq⟩
    all_goals
      go_enter Try.func21, Try.ntmps21
      go_wp2_with (first | (go_at_call 41; refine (within7_any _ _ _).mono ?_; rintro e w1 ⟨rfl, rfl⟩) | fail)
      go_ret
      exact ⟨rfl, hq⟩
theorem stamped7_cat (a b : List UInt8) : (⟨#[1, 1, 8, 10]⟩ : ByteArray) ++ ⟨a.toArray⟩ ++ ⟨b.toArray⟩ = ⟨([1, 1, 8, 10] ++ a ++ b).toArray⟩ := by
  apply ext_eq
  simp
theorem stamped7_any (v e : Int) (v0 : 0 ≤ v) (v1 : v < 4294967296) (e0 : 0 ≤ e) (e1 : e < 4294967296) (w : World) :
    Calls Try.prog 18 #[.int .u32 v, .int .u32 e] w fun x w' => x = .returned (.string ⟨(stampB v e).toArray⟩) ∧ Below w.heap.size w w' := by
  obtain ⟨p1, h1, l1⟩ : ∃ p, numL v 4 = p ∧ p.length = 4 := ⟨_, rfl, numL_len _ _ (by omega) (by omega)⟩
  obtain ⟨p2, h2, l2⟩ : ∃ p, numL e 4 = p ∧ p.length = 4 := ⟨_, rfl, numL_len _ _ (by omega) (by omega)⟩
  have HS : Hid (stampB v e = [1, 1, 8, 10] ++ p1 ++ p2) := Lib.hid (by unfold stampB; rw [h1, h2])
  have HC := Lib.hid (stamped7_cat p1 p2)
  have C1 := Lib.hid (number7_is h1)
  have C2 := Lib.hid (number7_is h2)
  clear h1 h2
  have hq : Below w.heap.size w w := Below.refl _ _
  go_enter Try.func18, Try.ntmps18
  go_wp2_with (first | (go_at_call 37; (with_reducible refine (C1.out _).mono ?_); rintro e wa ⟨rfl, hb⟩; replace hq := hq.trans (hb.mono hq.size); clear hb) | (go_at_call 37; (with_reducible refine (C2.out _).mono ?_); rintro e wa ⟨rfl, hb⟩; replace hq := hq.trans (hb.mono hq.size); clear hb) | fail)
  go_ret
  exact ⟨by rw [HS.out, ← HC.out]; rfl, hq⟩
theorem wrapT32 {x : Nat} (h : x < 4294967296) : IntKind.u32.wrap (x : Int) = x := by rw [IntKind.wrap_u32]; omega
theorem ret_uui7 {a b c a' b' c' : Int} (h1 : a = a') (h2 : b = b') (h3 : c = c') : Ending.returned (.tuple #[.int .u32 a, .int .u32 b, .int .i64 c]) = .returned (.tuple #[.int .u32 a', .int .u32 b', .int .i64 c']) := by rw [h1, h2, h3]
theorem stampOf_any (x : VX) (w : World) :
    Calls Try.prog 36 #[.string x.da, .int .i64 x.pl] w fun e w' => e = .returned (.tuple #[.int .u32 (stampV x).1, .int .u32 (stampV x).2.1, .int .i64 (stampV x).2.2]) ∧ Below w.heap.size w w' := by
  by_cases hz : x.da.size = 8
  · have nz : (((x.da.size : Nat) : Int) != 8) = false := by simp; omega
    have HV : Hid (stampV x = (((seg x.da 0 4 : Nat) : Int), ((seg x.da 4 4 : Nat) : Int), x.pl)) := Lib.hid (by unfold stampV; rw [if_pos hz])
    have hm : x.da.size ≤ maxLen := by unfold maxLen; omega
    have u1 : IntKind.u32.wrap (seg x.da 0 4 : Nat) = (seg x.da 0 4 : Nat) := wrapT32 (seg_lt x.da 0 4)
    have u2 : IntKind.u32.wrap (seg x.da 4 4 : Nat) = (seg x.da 4 4 : Nat) := wrapT32 (seg_lt x.da 4 4)
    have hz8 := Lib.hid hz
    clear hz
    go_enter Try.func36, Try.ntmps36
    go_wp2_with fail
    refine (new_any x.da _).mono ?_
    rintro e w1 ⟨rfl, rfl⟩
    have HX : Hid (Rd ((w.alloc (.cells #[.string x.da] 9)).alloc (.cells #[.pointer (some ⟨w.heap.size, 0, none⟩)] 98)) (w.heap.size + 1) w.heap.size (some (x.da.extract 0 x.da.size))) := by
      refine Lib.hid ⟨?_, ?_, by omega⟩
      · have := HasB.new (w.alloc (.cells #[.string x.da] 9)) 98 #[.pointer (some ⟨w.heap.size, 0, none⟩)]
        simpa using this
      · have := (HasB.new w 9 #[.string x.da]).alloc (.cells #[.pointer (some ⟨w.heap.size, 0, none⟩)] 98)
        rw [show x.da.extract 0 x.da.size = x.da by apply ext_eq; rw [ext_str', List.drop_zero, Nat.sub_zero, size_list, List.take_length]]
        simpa using this
    have HB : Hid (Below w.heap.size w ((w.alloc (.cells #[.string x.da] 9)).alloc (.cells #[.pointer (some ⟨w.heap.size, 0, none⟩)] 98))) := Lib.hid (((Below.refl _ w).alloc (Nat.le_refl _) _).alloc (by simp) _)
    go_wp2_with fail
    (with_reducible refine (num_at (w.heap.size + 1) w.heap.size x.da 0 4 4 rfl _ HX.out hm (by have := hz8.out; omega) (by omega) (by omega)).mono ?_)
    rintro e wa ⟨rfl, hr, hk⟩
    replace HX := Lib.hid hr
    replace HB := Lib.hid (HB.out.trans (hk.below HB.out.size (by omega)))
    clear hr hk
    go_wp2_with fail
    (with_reducible refine (num_at (w.heap.size + 1) w.heap.size x.da (0 + 4) 4 4 rfl _ HX.out hm (by have := hz8.out; omega) (by omega) (by omega)).mono ?_)
    rintro e wa ⟨rfl, hr, hk⟩
    replace HX := Lib.hid hr
    replace HB := Lib.hid (HB.out.trans (hk.below HB.out.size (by omega)))
    clear hr hk
    go_wp2_with fail
    go_ret3
    exact ⟨ret_uui7 (by rw [HV.out]) (by rw [HV.out]) (by rw [HV.out]), HB.out⟩
  · have nz : (((x.da.size : Nat) : Int) != 8) = true := by simp; omega
    have HV : Hid (stampV x = (0, 0, -1)) := Lib.hid (by unfold stampV; rw [if_neg hz])
    clear hz
    go_enter Try.func36, Try.ntmps36
    go_wp2
    go_ret3
    exact ⟨ret_uui7 (by rw [HV.out]) (by rw [HV.out]) (by rw [HV.out]), Below.refl _ _⟩
end Go.Proofs.Ytbnhneompibilaa
