/- The contracts of package ipfour: number, within, isFour, valid. -/
import Derived.Test.YtdcmjmgpcpeacaaOctetWalks
import Derived.Test.YtdcmjmgpcpeacaaAddrPut
import Derived.Test.YtdcmjmgpcpeacaaAddrGet
import Derived.Test.YtdcmjmgpcpeacaaFourMath
namespace Go.Proofs.Ytdcmjmgpcpeacaa
open Go.RowKit
set_option linter.unusedVariables false

theorem number4_any (n k : Int) (w : World) :
    Calls Try.prog 31 #[.int .i64 n, .int .i64 k] w fun e w' => e = .returned (.string ⟨(numL n k).toArray⟩) ∧ Below w.heap.size w w' := by
  obtain ⟨h0, h1⟩ := wrapU_bd n
  go_enter Try.func31, Try.ntmps31
  go_wp2_with (go_at_call 36; refine (put_any _ k h0 h1 _).mono ?_; rintro e w' ⟨rfl, hb⟩)
  go_ret
  exact ⟨rfl, hb⟩
theorem within4_any (n m : Int) (w : World) :
    Calls Try.prog 33 #[.int .i64 n, .int .i64 m] w fun e w' => e = .returned (.bool (inB n m)) ∧ w = w' := by
  by_cases h : 0 ≤ n
  · by_cases h2 : n ≤ m
    · have hr : Hid (inB n m = true) := Lib.hid (decide_eq_true ⟨h, h2⟩)
      go_enter Try.func33, Try.ntmps33
      go_wp2
      go_ret
      exact ⟨ret_bool hr.out.symm, rfl⟩
    · have hr : Hid (inB n m = false) := Lib.hid (decide_eq_false (fun hh => h2 hh.2))
      go_enter Try.func33, Try.ntmps33
      go_wp2
      go_ret
      exact ⟨ret_bool hr.out.symm, rfl⟩
  · have hr : Hid (inB n m = false) := Lib.hid (decide_eq_false (fun hh => h hh.1))
    go_enter Try.func33, Try.ntmps33
    go_wp2
    go_ret
    exact ⟨ret_bool hr.out.symm, rfl⟩
theorem isFour_any (v : Bool) (hi lo : Int) (w : World) :
    Calls Try.prog 34 #[.agg #[.bool v, .int .u64 hi, .int .u64 lo]] w fun e w' => e = .returned (.bool (four v hi lo)) ∧ Below w.heap.size w w' := by
  have hq : Below w.heap.size w (w.alloc (.cells #[.bool v, .int .u64 hi, .int .u64 lo] 24)) := (Below.refl _ _).alloc (Nat.le_refl _) _
  cases v with
  | true =>
    have HR : Hid (four true hi lo = false) := Lib.hid rfl
    go_enter Try.func34, Try.ntmps34
    go_wp2
    go_ret
    exact ⟨ret_bool HR.out.symm, hq⟩
  | false =>
    have HR : Hid (four false hi lo = rightA false hi lo) := Lib.hid rfl
    go_enter Try.func34, Try.ntmps34
    go_wp2_with (go_at_call 29; refine (right_any false hi lo _).mono ?_; rintro e w' ⟨rfl, hb⟩)
    go_ret
    exact ⟨ret_bool HR.out.symm, hq.trans (hb.mono hq.size)⟩
theorem validH_false {h : Hd} (hv : validH h = false) :
    inB h.cl 255 = false ∨ (inB h.cl 255 = true ∧ inB h.id 65535 = false) ∨ (inB h.cl 255 = true ∧ inB h.id 65535 = true ∧ inB h.tt 255 = false) ∨ (inB h.cl 255 = true ∧ inB h.id 65535 = true ∧ inB h.tt 255 = true ∧ inB h.pr 255 = false) ∨
    (inB h.cl 255 = true ∧ inB h.id 65535 = true ∧ inB h.tt 255 = true ∧ inB h.pr 255 = true ∧ four h.sv h.sh h.sl = false) ∨ (inB h.cl 255 = true ∧ inB h.id 65535 = true ∧ inB h.tt 255 = true ∧ inB h.pr 255 = true ∧ four h.sv h.sh h.sl = true ∧ four h.dv h.dh h.dl = false) ∨
    (inB h.cl 255 = true ∧ inB h.id 65535 = true ∧ inB h.tt 255 = true ∧ inB h.pr 255 = true ∧ four h.sv h.sh h.sl = true ∧ four h.dv h.dh h.dl = true ∧ ¬ h.op.size ≤ 40) ∨
    (inB h.cl 255 = true ∧ inB h.id 65535 = true ∧ inB h.tt 255 = true ∧ inB h.pr 255 = true ∧ four h.sv h.sh h.sl = true ∧ four h.dv h.dh h.dl = true ∧ h.op.size ≤ 40 ∧ ¬ h.op.size % 4 = 0) := by
  unfold validH at hv
  cases c1 : inB h.cl 255 <;> cases c2 : inB h.id 65535 <;> cases c3 : inB h.tt 255 <;> cases c4 : inB h.pr 255 <;> cases c5 : four h.sv h.sh h.sl <;> cases c6 : four h.dv h.dh h.dl <;> simp [c1, c2, c3, c4, c5, c6] at hv ⊢ <;> omega
theorem valid4_any (h : Hd) (w : World) :
    Calls Try.prog 15 #[.agg #[.int .i64 h.cl, .int .i64 h.id, .bool h.wh, .int .i64 h.tt, .int .i64 h.pr, .bool h.sv, .int .u64 h.sh, .int .u64 h.sl, .bool h.dv, .int .u64 h.dh, .int .u64 h.dl, .string h.op]] w fun e w' => e = .returned (.bool (validH h)) ∧ Below w.heap.size w w' := by
  have hX := HasB.new w 31 #[.int .i64 h.cl, .int .i64 h.id, .bool h.wh, .int .i64 h.tt, .int .i64 h.pr, .bool h.sv, .int .u64 h.sh, .int .u64 h.sl, .bool h.dv, .int .u64 h.dh, .int .u64 h.dl, .string h.op]
  have hq : Below w.heap.size w (w.alloc (.cells #[.int .i64 h.cl, .int .i64 h.id, .bool h.wh, .int .i64 h.tt, .int .i64 h.pr, .bool h.sv, .int .u64 h.sh, .int .u64 h.sl, .bool h.dv, .int .u64 h.dh, .int .u64 h.dl, .string h.op] 31)) := (Below.refl _ _).alloc (Nat.le_refl _) _
  cases hv : validH h with
  | true =>
    obtain ⟨v1, v2, v3, v4, v5, v6, v7, v8⟩ := valid_is hv
    have v7i : (h.op.size : Int) ≤ 40 := by omega
    have v8i : (h.op.size : Int).tmod 4 = 0 := by rw [Int.tmod_eq_emod_of_nonneg (by omega)]; omega
    go_enter Try.func15, Try.ntmps15
    go_wp2_with (first | (go_at_call 33; refine (within4_any _ _ _).mono ?_; rintro e w1 ⟨rfl, rfl⟩) | (go_at_call 34; with_reducible refine (isFour_any h.sv h.sh h.sl _).mono ?_; rintro e w1 ⟨rfl, hb⟩; replace hq := hq.trans (hb.mono hq.size); replace hX := HasB.below hX hb hX.lt; have c8 := HasB.cell hX 8 (.bool h.dv) rfl; have c9 := HasB.cell hX 9 (.int .u64 h.dh) rfl; have c10 := HasB.cell hX 10 (.int .u64 h.dl) rfl; have c11 := HasB.cell hX 11 (.string h.op) rfl; clear hb) | (go_at_call 34; with_reducible refine (isFour_any h.dv h.dh h.dl _).mono ?_; rintro e w1 ⟨rfl, hb⟩; replace hq := hq.trans (hb.mono hq.size); replace hX := HasB.below hX hb hX.lt; have c11 := HasB.cell hX 11 (.string h.op) rfl; clear hb) | fail)
    go_ret
    exact ⟨rfl, hq⟩
  | false =>
    rcases validH_false hv with v1 | ⟨v1, v2⟩ | ⟨v1, v2, v3⟩ | ⟨v1, v2, v3, v4⟩ | ⟨v1, v2, v3, v4, v5⟩ | ⟨v1, v2, v3, v4, v5, v6⟩ | ⟨v1, v2, v3, v4, v5, v6, v7⟩ | ⟨v1, v2, v3, v4, v5, v6, v7, v8⟩
    case inr.inr.inr.inr.inr.inr.inl =>
      have v7i : ¬ (h.op.size : Int) ≤ 40 := by omega
      go_enter Try.func15, Try.ntmps15
      go_wp2_with (first | (go_at_call 33; refine (within4_any _ _ _).mono ?_; rintro e w1 ⟨rfl, rfl⟩) | (go_at_call 34; with_reducible refine (isFour_any h.sv h.sh h.sl _).mono ?_; rintro e w1 ⟨rfl, hb⟩; replace hq := hq.trans (hb.mono hq.size); replace hX := HasB.below hX hb hX.lt; have c8 := HasB.cell hX 8 (.bool h.dv) rfl; have c9 := HasB.cell hX 9 (.int .u64 h.dh) rfl; have c10 := HasB.cell hX 10 (.int .u64 h.dl) rfl; have c11 := HasB.cell hX 11 (.string h.op) rfl; clear hb) | (go_at_call 34; with_reducible refine (isFour_any h.dv h.dh h.dl _).mono ?_; rintro e w1 ⟨rfl, hb⟩; replace hq := hq.trans (hb.mono hq.size); replace hX := HasB.below hX hb hX.lt; have c11 := HasB.cell hX 11 (.string h.op) rfl; clear hb) | fail)
      go_ret
      exact ⟨rfl, hq⟩
    case inr.inr.inr.inr.inr.inr.inr =>
      have v7i : (h.op.size : Int) ≤ 40 := by omega
      have v8i : ((h.op.size : Int) % 4 == 0) = false := by simp; omega
      go_enter Try.func15, Try.ntmps15
      go_wp2_with (first | (go_at_call 33; refine (within4_any _ _ _).mono ?_; rintro e w1 ⟨rfl, rfl⟩) | (go_at_call 34; with_reducible refine (isFour_any h.sv h.sh h.sl _).mono ?_; rintro e w1 ⟨rfl, hb⟩; replace hq := hq.trans (hb.mono hq.size); replace hX := HasB.below hX hb hX.lt; have c8 := HasB.cell hX 8 (.bool h.dv) rfl; have c9 := HasB.cell hX 9 (.int .u64 h.dh) rfl; have c10 := HasB.cell hX 10 (.int .u64 h.dl) rfl; have c11 := HasB.cell hX 11 (.string h.op) rfl; clear hb) | (go_at_call 34; with_reducible refine (isFour_any h.dv h.dh h.dl _).mono ?_; rintro e w1 ⟨rfl, hb⟩; replace hq := hq.trans (hb.mono hq.size); replace hX := HasB.below hX hb hX.lt; have c11 := HasB.cell hX 11 (.string h.op) rfl; clear hb) | fail)
      go_ret
      exact ⟨rfl, hq⟩
    all_goals
      go_enter Try.func15, Try.ntmps15
      go_wp2_with (first | (go_at_call 33; refine (within4_any _ _ _).mono ?_; rintro e w1 ⟨rfl, rfl⟩) | (go_at_call 34; with_reducible refine (isFour_any h.sv h.sh h.sl _).mono ?_; rintro e w1 ⟨rfl, hb⟩; replace hq := hq.trans (hb.mono hq.size); replace hX := HasB.below hX hb hX.lt; have c8 := HasB.cell hX 8 (.bool h.dv) rfl; have c9 := HasB.cell hX 9 (.int .u64 h.dh) rfl; have c10 := HasB.cell hX 10 (.int .u64 h.dl) rfl; have c11 := HasB.cell hX 11 (.string h.op) rfl; clear hb) | (go_at_call 34; with_reducible refine (isFour_any h.dv h.dh h.dl _).mono ?_; rintro e w1 ⟨rfl, hb⟩; replace hq := hq.trans (hb.mono hq.size); replace hX := HasB.below hX hb hX.lt; have c11 := HasB.cell hX 11 (.string h.op) rfl; clear hb) | fail)
      go_ret
      exact ⟨rfl, hq⟩
end Go.Proofs.Ytdcmjmgpcpeacaa
