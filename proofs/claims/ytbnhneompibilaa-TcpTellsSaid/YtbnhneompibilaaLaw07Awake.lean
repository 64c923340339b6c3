/- The laws of tcp: awake. -/
import Derived.Test.YtbnhneompibilaaLaw07
namespace Go.Proofs.Ytbnhneompibilaa
open Go.RowKit Go.WideShapes
set_option linter.unusedVariables false
attribute [local go_sem ↓] ldH7 stH7 ldR7 stR7
attribute [local go_sem] rowAt_p rowOkAt_p setAt_p aggOf_a rowOk_new rowOf_new setRow_new agg7 aggT7
attribute [local go_sem ↓] Go.wp_at_zero Go.wp_at_succ

def awk7 : T7 := ⟨1, 2, 0, 0, 0, 0, 0, ⟨#[]⟩⟩
def awk7P : List UInt8 := pseudoL false 0 1 false 0 2 6 21
theorem awk7_ba : BA 0 1 0 2 := ⟨by decide, by decide, by decide, by decide, by decide, by decide, by decide, by decide⟩
theorem awk7_b7 : B7 awk7 := ⟨by decide, by decide, by decide, by decide⟩
theorem awk7_P : awk7P.length % 2 = 0 ∧ awk7P ≠ [] := ⟨(pseudoL_len _ _ _ _ _ _ _ _).2, fun h => by have := (pseudoL_nil false 0 1 false 0 2 6 21).1 h; revert this; decide⟩
theorem awk7_ok : err7 awk7 awk7P ⟨#[97]⟩ = 0 := err7_is (by decide) awk7_P.2 (by decide)
theorem awk7Put (K : TcpOK) : ∃ t : ByteArray, t.size = 21 ∧ (∀ w, Calls Try.prog 8 #[.agg #[.int .i64 1, .int .i64 2, .int .u32 0, .int .u32 0, .int .i64 0, .int .i64 0, .int .i64 0, .string ⟨#[]⟩], .agg #[.bool false, .int .u64 0, .int .u64 1], .agg #[.bool false, .int .u64 0, .int .u64 2], .string ⟨#[97]⟩] w fun e w' => e = .returned (.tuple #[.string t, .int .i64 0]) ∧ Below w.heap.size w w') ∧
    ∃ g : T7, ∀ w, Calls Try.prog 11 #[.string t, .agg #[.bool false, .int .u64 0, .int .u64 1], .agg #[.bool false, .int .u64 0, .int .u64 2]] w fun e w' => e = .returned (.tuple #[.agg #[.int .i64 g.sp, .int .i64 g.dp, .int .u32 g.sq, .int .u32 g.ak, .int .i64 g.fl, .int .i64 g.wn, .int .i64 g.ur, .string g.op], .string ⟨#[97]⟩, .int .i64 0]) ∧ Below w.heap.size w w' := by
  obtain ⟨h1, _, _, h4⟩ := back7_ok awk7_ok awk7_b7 awk7_P.1
  obtain ⟨h5, h6, h7⟩ := h4 (by show optsL ⟨#[]⟩ 0 ≠ none; rw [opts_nil]; simp)
  refine ⟨out7 awk7 awk7P ⟨#[97]⟩, h1, fun w => ?_, headG7 (out7 awk7 awk7P ⟨#[97]⟩) awk7P, fun w => ?_⟩
  · have h := K.put awk7 false 0 1 false 0 2 ⟨#[97]⟩ awk7_b7 awk7_ba (by decide) (by decide) awk7P rfl w
    rw [awk7_ok] at h
    exact h
  · have hz : ((out7 awk7 awk7P ⟨#[97]⟩).size : Int) = 21 := by rw [h1]; rfl
    have h := K.get (out7 awk7 awk7P ⟨#[97]⟩) false 0 1 false 0 2 awk7_ba (by rw [h1]; decide) awk7P (by rw [hz]; rfl) w
    rw [h5, h7] at h
    exact h
theorem awake07 (K : TcpOK) (w : World) : Calls Try.prog 7 #[] w fun e w' => e = .returned (.bool true) ∧ Below w.heap.size w w' := by
  obtain ⟨t, h1, hp, g, hg⟩ := awk7Put K
  have HP := Lib.hid hp
  have HG := Lib.hid hg
  obtain ⟨S, hS⟩ : ∃ S, (⟨(stampB 5 6).toArray⟩ : ByteArray) = S := ⟨_, rfl⟩
  have HD := K.stamped 5 6 (by decide) (by decide) (by decide) (by decide)
  have hz : S.size ≤ 1000000 := by rw [← hS]; show (stampB 5 6).length ≤ _; decide
  have hT := K.stamp S hz
  rw [show stampS S = (5, 6, 4) by rw [← hS]; exact stamp_back 5 6 (by decide) (by decide) (by decide) (by decide)] at hT
  rw [hS] at HD
  have HD := Lib.hid HD
  have HT := Lib.hid hT
  have hL := K.list ⟨#[5]⟩ (by decide)
  rw [(opts_none opts_five).2] at hL
  have HL := Lib.hid hL
  clear hp hg hS hz hT hL
  have hq : Below w.heap.size w w := Below.refl _ _
  go_enter Try.func7, Try.ntmps7
  go_wp2_with (first | (go_at_call 18; (with_reducible refine (HD.out _).mono ?_); rintro e wa ⟨rfl, hb⟩; replace hq := hq.trans (hb.mono hq.size); clear hb) | (go_at_call 16; (with_reducible refine (HT.out _).mono ?_); rintro e wa ⟨rfl, hb⟩; replace hq := hq.trans (hb.mono hq.size); clear hb) | (go_at_call 8; (with_reducible refine (HP.out _).mono ?_); rintro e wa ⟨rfl, hb⟩; replace hq := hq.trans (hb.mono hq.size); clear hb) | (go_at_call 11; (with_reducible refine (HG.out _).mono ?_); rintro e wb ⟨rfl, hb⟩; replace hq := (hq.trans (hb.mono hq.size)).alloc (Nat.le_trans hq.size hb.size) (.cells #[.int .i64 g.sp, .int .i64 g.dp, .int .u32 g.sq, .int .u32 g.ak, .int .i64 g.fl, .int .i64 g.wn, .int .i64 g.ur, .string g.op] 34); clear hb) | (go_at_call 14; (with_reducible refine (HL.out _).mono ?_); rintro e wc ⟨l, rfl, _, hb⟩; replace hq := hq.trans (hb.mono hq.size); clear hb) | fail)
  go_ret
  exact ⟨rfl, hq⟩
end Go.Proofs.Ytbnhneompibilaa
