/- The contract of package quic: With. -/
import Derived.Test.YtniaelmloealbaaQuicGet
import Derived.Test.YtniaelmloealbaaQuicPut
namespace Go.Proofs.Ytniaelmloealbaa.Q09
open Go.RowKit
set_option linter.unusedVariables false
attribute [local go_sem ↓] ldH9 stH9 ldR9 stR9
attribute [local go_sem] rowAt_p rowOkAt_p setAt_p aggOf_a rowOk_new rowOf_new setRow_new agg9 aggT9
attribute [local go_sem ↓] Go.wp_at_zero Go.wp_at_succ

theorem with_bad (s c : ByteArray) (hs : s.size ≤ 1000000) (w : World) (he : errG9 s ≠ 0) : Calls Try.prog 12 #[.string s, .string c] w fun e w' => e = .returned (.tuple #[.string (withO s c), .int .i64 (withE s c)]) ∧ Below w.heap.size w w' := by
  obtain ⟨e1, e2⟩ := Proofs.Ytniaelmloealbaa.with_bad (c := c) he
  have hG := get9_any s hs
  rw [headG9_no he] at hG
  rw [e1, e2]
  have n1 : (errG9 s != 0) = true := by simpa using he
  generalize errG9 s = E at *
  have G := Lib.hid hG
  clear hG he e1 e2
  have hq : Below w.heap.size w w := Below.refl _ _
  go_enter Try.func12, Try.ntmps12
  go_wp2_with (first | (go_at_call 10; (with_reducible refine (G.out _).mono ?_); rintro e wa ⟨rfl, hb⟩; have HX := HasB.new wa 31 #[.bool zero9.lg, .int .i64 zero9.bi, .int .u32 zero9.ve, .string zero9.dc, .string zero9.sc, .string zero9.re]; replace hq := (hq.trans (hb.mono hq.size)).alloc (Nat.le_trans hq.size hb.size) (.cells #[.bool zero9.lg, .int .i64 zero9.bi, .int .u32 zero9.ve, .string zero9.dc, .string zero9.sc, .string zero9.re] 31); have c0 := HasB.cell HX 0 _ rfl; clear hb) | fail)
  go_ret2
  exact ⟨rfl, hq⟩
theorem with_arg (s c : ByteArray) (hs : s.size ≤ 1000000) (w : World) (he : errG9 s = 0) (hc : c.size ≠ 8) : Calls Try.prog 12 #[.string s, .string c] w fun e w' => e = .returned (.tuple #[.string (withO s c), .int .i64 (withE s c)]) ∧ Below w.heap.size w w' := by
  obtain ⟨e1, e2⟩ := Proofs.Ytniaelmloealbaa.with_arg he hc
  have hG := get9_any s hs
  rw [he] at hG
  rw [e1, e2]
  have n1 : ((c.size : Int) != 8) = true := by simp; omega
  generalize headG9 s = h at *
  have G := Lib.hid hG
  clear hG he hc e1 e2
  have hq : Below w.heap.size w w := Below.refl _ _
  go_enter Try.func12, Try.ntmps12
  go_wp2_with (first | (go_at_call 10; (with_reducible refine (G.out _).mono ?_); rintro e wa ⟨rfl, hb⟩; have HX := HasB.new wa 31 #[.bool h.lg, .int .i64 h.bi, .int .u32 h.ve, .string h.dc, .string h.sc, .string h.re]; replace hq := (hq.trans (hb.mono hq.size)).alloc (Nat.le_trans hq.size hb.size) (.cells #[.bool h.lg, .int .i64 h.bi, .int .u32 h.ve, .string h.dc, .string h.sc, .string h.re] 31); have c0 := HasB.cell HX 0 _ rfl; clear hb) | fail)
  go_ret2
  exact ⟨rfl, hq⟩
theorem with_ok (s c : ByteArray) (hs : s.size ≤ 1000000) (w : World) (he : errG9 s = 0) (hc : c.size = 8) : Calls Try.prog 12 #[.string s, .string c] w fun e w' => e = .returned (.tuple #[.string (withO s c), .int .i64 (withE s c)]) ∧ Below w.heap.size w w' := by
  obtain ⟨e1, e2, _⟩ := Proofs.Ytniaelmloealbaa.with_ok he hc
  obtain ⟨f1, f2, _, f4, f5, f6⟩ := fwd9 he
  have o1 := swap9_ok f1 hc
  have hG := get9_any s hs
  rw [he] at hG
  rw [e1, e2]
  have n1 : ((c.size : Int) != 8) = false := by simp; omega
  generalize headG9 s = h at *
  have G := Lib.hid hG
  obtain ⟨lg, b, v, d, x, r⟩ := h
  dsimp only at f4 f5 f6 G
  have hq : Below w.heap.size w w := Below.refl _ _
  cases lg with
  | true =>
    have P := put9_any ⟨true, b, v, d, c, r⟩ ⟨f2.a0, f2.a1⟩ (by simp only; omega)
    rw [err9_is (show ok9 ⟨true, b, v, d, c, r⟩ = true from o1)] at P
    show Calls _ _ _ _ fun e w' => e = .returned (.tuple #[.string (out9 ⟨true, b, v, d, c, r⟩), .int .i64 0]) ∧ Below w.heap.size w w'
    generalize out9 ⟨true, b, v, d, c, r⟩ = O at *
    dsimp only at P
    have P := Lib.hid P
    clear hG he hc e1 e2 f1 f2 f4 f5 f6 o1
    go_enter Try.func12, Try.ntmps12
    go_wp2_with (first | (go_at_call 10; (with_reducible refine (G.out _).mono ?_); rintro e wa ⟨rfl, hb⟩; replace hq := (hq.trans (hb.mono hq.size)).alloc (Nat.le_trans hq.size hb.size) (.cells #[.bool true, .int .i64 (b), .int .u32 (v), .string (d), .string (c), .string (r)] 31); clear hb) | (go_at_call 7; (with_reducible refine (P.out _).mono ?_); rintro e wb ⟨rfl, hb⟩; have hf := hq.trans (hb.mono hq.size); clear hb) | fail)
    go_ret2
    exact ⟨rfl, hf⟩
  | false =>
    have P := put9_any ⟨false, b, v, c, x, r⟩ ⟨f2.a0, f2.a1⟩ (by simp only; omega)
    rw [err9_is (show ok9 ⟨false, b, v, c, x, r⟩ = true from o1)] at P
    show Calls _ _ _ _ fun e w' => e = .returned (.tuple #[.string (out9 ⟨false, b, v, c, x, r⟩), .int .i64 0]) ∧ Below w.heap.size w w'
    generalize out9 ⟨false, b, v, c, x, r⟩ = O at *
    dsimp only at P
    have P := Lib.hid P
    clear hG he hc e1 e2 f1 f2 f4 f5 f6 o1
    go_enter Try.func12, Try.ntmps12
    go_wp2_with (first | (go_at_call 10; (with_reducible refine (G.out _).mono ?_); rintro e wa ⟨rfl, hb⟩; replace hq := (hq.trans (hb.mono hq.size)).alloc (Nat.le_trans hq.size hb.size) (.cells #[.bool false, .int .i64 (b), .int .u32 (v), .string (c), .string (x), .string (r)] 31); clear hb) | (go_at_call 7; (with_reducible refine (P.out _).mono ?_); rintro e wb ⟨rfl, hb⟩; have hf := hq.trans (hb.mono hq.size); clear hb) | fail)
    go_ret2
    exact ⟨rfl, hf⟩
theorem with_any (s c : ByteArray) (hs : s.size ≤ 1000000) (w : World) : Calls Try.prog 12 #[.string s, .string c] w fun e w' => e = .returned (.tuple #[.string (withO s c), .int .i64 (withE s c)]) ∧ Below w.heap.size w w' := by
  by_cases he : errG9 s = 0
  · by_cases hc : c.size = 8
    · exact with_ok s c hs w he hc
    · exact with_arg s c hs w he hc
  · exact with_bad s c hs w he
end Go.Proofs.Ytniaelmloealbaa.Q09
