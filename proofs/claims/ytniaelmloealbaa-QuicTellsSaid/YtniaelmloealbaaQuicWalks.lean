/- The contracts of package quic: valid, firstByte, counted. -/
import Derived.Test.YtniaelmloealbaaNineCells
import Derived.Test.YtniaelmloealbaaOctetWalks
import Derived.Test.YtniaelmloealbaaHeld
import Derived.Deep.RegionHeld3
import Derived.Deep.DrawnRows
namespace Go.Proofs.Ytniaelmloealbaa
open Go.RowKit
set_option linter.unusedVariables false
attribute [local go_sem ↓] Go.wp_at_zero Go.wp_at_succ

theorem putQ_is {n k : Int} {p : List UInt8} (hp : numL n k = p) (h0 : 0 ≤ n) (h1 : n < 18446744073709551616) (w : World) :
    Calls Try.prog 17 #[.int .u64 n, .int .i64 k] w fun e w' => e = .returned (.string ⟨p.toArray⟩) ∧ Below w.heap.size w w' := by
  subst hp
  have h := put_any n k h0 h1 w
  unfold numL
  rw [wrapU n h0 h1]
  exact h
theorem orK (k z : Int) (hk : k = 64 ∨ k = 192) (h0 : 0 ≤ z) (h1 : z ≤ 63) : bits .or .i64 k z = k + z := by
  rcases hk with rfl | rfl
  · have := bits_join .i64 62 (by decide) (fun n h0 h1 => by rw [IntKind.wrap_i64]; omega) 6 64 z (by omega) (by omega) (by omega) h0 (by omega) (by omega)
    exact this
  · have := bits_join .i64 62 (by decide) (fun n h0 h1 => by rw [IntKind.wrap_i64]; omega) 6 192 z (by omega) (by omega) (by omega) h0 (by omega) (by omega)
    exact this
theorem valid9_any (h : H9) (w : World) : Calls Try.prog 15 #[.agg #[.bool h.lg, .int .i64 h.bi, .int .u32 h.ve, .string h.dc, .string h.sc, .string h.re]] w fun e w' => e = .returned (.bool (ok9 h)) ∧ Below w.heap.size w w' := by
  obtain ⟨lg, b, v, d, c, r⟩ := h
  show Calls Try.prog 15 #[.agg #[.bool lg, .int .i64 (b), .int .u32 (v), .string (d), .string (c), .string (r)]] w fun e w' => e = .returned (.bool (ok9 ⟨lg, b, v, d, c, r⟩)) ∧ Below w.heap.size w w'
  have HQ : Hid (Below w.heap.size w (w.alloc (.cells #[.bool lg, .int .i64 (b), .int .u32 (v), .string (d), .string (c), .string (r)] 31))) := Lib.hid ((Below.refl _ _).alloc (Nat.le_refl _) _)
  cases hi : inB b 63 with
  | false =>
    have HO : Hid (ok9 ⟨lg, b, v, d, c, r⟩ = false) := Lib.hid (by unfold ok9; simp [hi])
    by_cases h0 : b < 0
    · clear hi
      (go_enter Try.func15, Try.ntmps15; go_wp2_with fail; go_ret; exact ⟨ret_bool HO.out.symm, HQ.out⟩)
    · have h1 : 63 < b := by
        unfold inB at hi
        have := of_decide_eq_false hi
        omega
      clear hi
      (go_enter Try.func15, Try.ntmps15; go_wp2_with fail; go_ret; exact ⟨ret_bool HO.out.symm, HQ.out⟩)
  | true =>
    have hb := inB_is hi
    have y1 : ¬ b < 0 := by omega
    have y2 : ¬ 63 < b := by omega
    cases lg with
    | true =>
      by_cases h2 : d.size ≤ 20
      · have y3 : (d.size : Int) ≤ 20 := by omega
        by_cases h3 : c.size ≤ 20
        · have y4 : (c.size : Int) ≤ 20 := by omega
          have HO : Hid (ok9 ⟨true, b, v, d, c, r⟩ = true) := Lib.hid (ok9_isL hi h2 h3)
          clear hi hb h2 h3
          (go_enter Try.func15, Try.ntmps15; go_wp2_with fail; go_ret; exact ⟨ret_bool HO.out.symm, HQ.out⟩)
        · have y4 : ¬ (c.size : Int) ≤ 20 := by omega
          have HO : Hid (ok9 ⟨true, b, v, d, c, r⟩ = false) := Lib.hid (by unfold ok9; simp [h3])
          clear hi hb h2 h3
          (go_enter Try.func15, Try.ntmps15; go_wp2_with fail; go_ret; exact ⟨ret_bool HO.out.symm, HQ.out⟩)
      · have y3 : ¬ (d.size : Int) ≤ 20 := by omega
        have HO : Hid (ok9 ⟨true, b, v, d, c, r⟩ = false) := Lib.hid (by unfold ok9; simp [h2])
        clear hi hb h2
        (go_enter Try.func15, Try.ntmps15; go_wp2_with fail; go_ret; exact ⟨ret_bool HO.out.symm, HQ.out⟩)
    | false =>
      by_cases h2 : d.size = 8
      · have y3 : ((d.size : Int) == 8) = true := by simp; omega
        by_cases h3 : c.size = 0
        · have HO : Hid (ok9 ⟨false, b, v, d, c, r⟩ = decide (v = 0)) := Lib.hid (by unfold ok9; simp [hi, h2, h3])
          obtain rfl := size_0 h3
          by_cases h4 : v = 0
          · subst h4
            clear hi hb h2 h3
            (go_enter Try.func15, Try.ntmps15; go_wp2_with fail; go_ret; exact ⟨ret_bool HO.out.symm, HQ.out⟩)
          · have y5 : (v == 0) = false := by simp; omega
            have HO2 : Hid (ok9 ⟨false, b, v, d, ⟨#[]⟩, r⟩ = false) := Lib.hid (by rw [HO.out]; simp; omega)
            replace HO := HO2
            clear hi hb h2 h3 h4
            (go_enter Try.func15, Try.ntmps15; go_wp2_with fail; go_ret; exact ⟨ret_bool HO.out.symm, HQ.out⟩)
        · have y4 : (c.toList == []) = false := by
            rw [ByteArray.toList_eq]
            cases hl : c.data.toList with
            | nil => exact absurd (show c.size = 0 by rw [size_list, hl]; rfl) h3
            | cons x l => rfl
          have HO : Hid (ok9 ⟨false, b, v, d, c, r⟩ = false) := Lib.hid (by unfold ok9; simp [h3])
          clear hi hb h2 h3
          (go_enter Try.func15, Try.ntmps15; go_wp2_with fail; go_ret; exact ⟨ret_bool HO.out.symm, HQ.out⟩)
      · have y3 : ((d.size : Int) == 8) = false := by simp; omega
        have HO : Hid (ok9 ⟨false, b, v, d, c, r⟩ = false) := Lib.hid (by unfold ok9; simp [h2])
        clear hi hb h2
        (go_enter Try.func15, Try.ntmps15; go_wp2_with fail; go_ret; exact ⟨ret_bool HO.out.symm, HQ.out⟩)
theorem first9_any {k b : Int} {p : List UInt8} (hk : k = 1 ∨ k = 3) (h0 : 0 ≤ b) (h1 : b ≤ 63) (hp : numL (64 * k + b) 1 = p) (w : World) :
    Calls Try.prog 16 #[.int .i64 k, .int .i64 b] w fun e w' => e = .returned (.string ⟨p.toArray⟩) ∧ Below w.heap.size w w' := by
  have HP := Lib.hid (putQ_is hp (by omega) (by omega))
  have h2 := orK (64 * k) b (by omega) h0 h1
  have x2 : IntKind.u64.wrap (64 * k + b) = 64 * k + b := wrapU _ (by omega) (by omega)
  rcases hk with rfl | rfl
  all_goals
    simp only [Int.reduceMul] at HP h2 x2
    clear hp
    go_enter Try.func16, Try.ntmps16
    go_wp2_with (first | (go_at_call 17; (with_reducible refine (HP.out _).mono ?_); rintro e wa ⟨rfl, hb⟩) | fail)
    go_ret
    exact ⟨rfl, hb⟩
theorem cat2Q (a : List UInt8) (x : ByteArray) : (⟨a.toArray⟩ : ByteArray) ++ x = ⟨(a ++ x.data.toList).toArray⟩ := by
  apply ext_eq
  simp
theorem counted9_any (x : ByteArray) (hx : x.size ≤ 20) (w : World) :
    Calls Try.prog 18 #[.string x] w fun e w' => e = .returned (.string ⟨(numL (x.size : Int) 1 ++ x.data.toList).toArray⟩) ∧ Below w.heap.size w w' := by
  obtain ⟨p, hp, hl⟩ : ∃ p, numL (x.size : Int) 1 = p ∧ p.length = 1 := ⟨_, rfl, numL_len _ _ (by omega) (by omega)⟩
  have HP := Lib.hid (putQ_is hp (by omega) (by omega))
  have x2 : IntKind.u64.wrap (x.size : Int) = x.size := wrapU _ (by omega) (by omega)
  have f1 : (9223372036854775807 < 1 + x.size) = False := eq_false (by omega)
  have HC := Lib.hid (cat2Q p x)
  rw [hp]
  clear hp
  go_enter Try.func18, Try.ntmps18
  go_wp2_with (first | (go_at_call 17; (with_reducible refine (HP.out _).mono ?_); rintro e wa ⟨rfl, hb⟩) | fail)
  go_ret
  exact ⟨by rw [HC.out]; rfl, hb⟩
end Go.Proofs.Ytniaelmloealbaa
