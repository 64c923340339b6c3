/- The contract of cloakroomref09: Put. -/
import Derived.Test.YtniaelmloealbaaNineCells
import Derived.Test.YtniaelmloealbaaRef02Walks
import Derived.Test.YtniaelmloealbaaHeld
import Derived.Deep.RegionHeld3
import Derived.Deep.DrawnRows
namespace Go.Proofs.Ytniaelmloealbaa.R09
open Go.RowKit
set_option linter.unusedVariables false
attribute [local go_sem ↓] ldH9 stH9 ldR9 stR9
attribute [local go_sem] rowAt_p rowOkAt_p setAt_p aggOf_a rowOk_new rowOf_new setRow_new agg9 aggT9
attribute [local go_sem ↓] Go.wp_at_zero Go.wp_at_succ

theorem put02_is {n k : Int} {p : List UInt8} (hp : numL n k = p) (h0 : 0 ≤ n) (h1 : n < 18446744073709551616) (w : World) :
    Calls Try.prog 19 #[.int .u64 n, .int .i64 k] w fun e w' => e = .returned (.string ⟨p.toArray⟩) ∧ Below w.heap.size w w' := by
  subst hp
  have h := R02.put_any n k h0 h1 w
  unfold numL
  rw [wrapU n h0 h1]
  exact h
theorem cat7 (a b c d : List UInt8) (x y z : ByteArray) : (⟨a.toArray⟩ : ByteArray) ++ ⟨b.toArray⟩ ++ ⟨c.toArray⟩ ++ x ++ ⟨d.toArray⟩ ++ y ++ z = ⟨(a ++ b ++ c ++ x.data.toList ++ d ++ y.data.toList ++ z.data.toList).toArray⟩ := by
  apply ext_eq
  simp
theorem cat3 (a : List UInt8) (x y : ByteArray) : (⟨a.toArray⟩ : ByteArray) ++ x ++ y = ⟨(a ++ x.data.toList ++ y.data.toList).toArray⟩ := by
  apply ext_eq
  simp
theorem put_bits (lg : Bool) (b v : Int) (d c r : ByteArray) (O : ByteArray) (E : Int) (HO : Hid (O = ⟨#[]⟩)) (HE : Hid (E = 1)) (h : inB b 63 = false) (w : World) : Calls Try.prog 9 #[.agg #[.bool lg, .int .i64 (b), .int .u32 (v), .string (d), .string (c), .string (r)]] w fun e w' => e = .returned (.tuple #[.string O, .int .i64 E]) ∧ Below w.heap.size w w' := by
  have HX : Hid (Held w.heap.size w.heap.size 24 #[.bool lg, .int .i64 (b), .int .u32 (v), .string (d), .string (c), .string (r)] w (w.alloc (.cells #[.bool lg, .int .i64 (b), .int .u32 (v), .string (d), .string (c), .string (r)] 24))) := Lib.hid ⟨HasB.new w _ _, (Below.refl _ _).alloc (Nat.le_refl _) _, by simp⟩
  by_cases h0 : b < 0
  · clear h
    (go_enter Try.func9, Try.ntmps9; go_wp2_with fail)
    (go_ret2; exact ⟨ret_si HO.out.symm HE.out.symm, HX.out.2.1⟩)
  · have h1 : 63 < b := by
      unfold inB at h
      have := of_decide_eq_false h
      omega
    clear h
    (go_enter Try.func9, Try.ntmps9; go_wp2_with fail)
    (go_ret2; exact ⟨ret_si HO.out.symm HE.out.symm, HX.out.2.1⟩)
theorem put_longno (b v : Int) (d c r : ByteArray) (O : ByteArray) (E : Int) (HO : Hid (O = ⟨#[]⟩)) (HE : Hid (E = 1)) (h : inB b 63 = true) (h2 : 20 < d.size ∨ 20 < c.size) (w : World) : Calls Try.prog 9 #[.agg #[.bool true, .int .i64 (b), .int .u32 (v), .string (d), .string (c), .string (r)]] w fun e w' => e = .returned (.tuple #[.string O, .int .i64 E]) ∧ Below w.heap.size w w' := by
  have HX : Hid (Held w.heap.size w.heap.size 24 #[.bool true, .int .i64 (b), .int .u32 (v), .string (d), .string (c), .string (r)] w (w.alloc (.cells #[.bool true, .int .i64 (b), .int .u32 (v), .string (d), .string (c), .string (r)] 24))) := Lib.hid ⟨HasB.new w _ _, (Below.refl _ _).alloc (Nat.le_refl _) _, by simp⟩
  have hb := inB_is h
  have y1 : ¬ b < 0 := by omega
  have y2 : ¬ 63 < b := by omega
  by_cases h3 : 20 < d.size
  · have y3 : (20 : Int) < d.size := by omega
    clear h h2 h3 hb
    (go_enter Try.func9, Try.ntmps9; go_wp2_with fail)
    (go_ret2; exact ⟨ret_si HO.out.symm HE.out.symm, HX.out.2.1⟩)
  · have y3 : ¬ (20 : Int) < d.size := by omega
    have y4 : (20 : Int) < c.size := by omega
    clear h h2 h3 hb
    (go_enter Try.func9, Try.ntmps9; go_wp2_with fail)
    (go_ret2; exact ⟨ret_si HO.out.symm HE.out.symm, HX.out.2.1⟩)
theorem put_shortno (b v : Int) (d c r : ByteArray) (O : ByteArray) (E : Int) (HO : Hid (O = ⟨#[]⟩)) (HE : Hid (E = 1)) (h : inB b 63 = true) (h2 : ¬ (d.size = 8 ∧ c.size = 0 ∧ v = 0)) (w : World) : Calls Try.prog 9 #[.agg #[.bool false, .int .i64 (b), .int .u32 (v), .string (d), .string (c), .string (r)]] w fun e w' => e = .returned (.tuple #[.string O, .int .i64 E]) ∧ Below w.heap.size w w' := by
  have HX : Hid (Held w.heap.size w.heap.size 24 #[.bool false, .int .i64 (b), .int .u32 (v), .string (d), .string (c), .string (r)] w (w.alloc (.cells #[.bool false, .int .i64 (b), .int .u32 (v), .string (d), .string (c), .string (r)] 24))) := Lib.hid ⟨HasB.new w _ _, (Below.refl _ _).alloc (Nat.le_refl _) _, by simp⟩
  have hb := inB_is h
  have y1 : ¬ b < 0 := by omega
  have y2 : ¬ 63 < b := by omega
  by_cases h3 : d.size = 8
  · have y3 : ((d.size : Int) != 8) = false := by simp; omega
    by_cases h4 : c.size = 0
    · have hc := size_0 h4
      subst hc
      have y5 : (v != 0) = true := by simp; omega
      clear h h2 h3 h4 hb
      (go_enter Try.func9, Try.ntmps9; go_wp2_with fail)
      (go_ret2; exact ⟨ret_si HO.out.symm HE.out.symm, HX.out.2.1⟩)
    · have y4 : (c.toList == []) = false := by
        rw [ByteArray.toList_eq]
        cases hl : c.data.toList with
        | nil => exact absurd (show c.size = 0 by rw [size_list, hl]; rfl) h4
        | cons x l => rfl
      clear h h2 h3 h4 hb
      (go_enter Try.func9, Try.ntmps9; go_wp2_with fail)
      all_goals (go_ret2; exact ⟨ret_si HO.out.symm HE.out.symm, HX.out.2.1⟩)
  · have y3 : ((d.size : Int) != 8) = true := by simp; omega
    clear h h2 h3 hb
    (go_enter Try.func9, Try.ntmps9; go_wp2_with fail)
    (go_ret2; exact ⟨ret_si HO.out.symm HE.out.symm, HX.out.2.1⟩)
set_option maxHeartbeats 2000000 in
theorem put_short (b v : Int) (d c r : ByteArray) (O : ByteArray) (E : Int) (hO : O = ⟨(numL (64 + b) 1 ++ d.data.toList ++ r.data.toList).toArray⟩) (HE : Hid (E = 0)) (h : inB b 63 = true) (h2 : d.size = 8) (h3 : c.size = 0) (h4 : v = 0) (hr : r.size ≤ 1099511627776) (w : World) : Calls Try.prog 9 #[.agg #[.bool false, .int .i64 (b), .int .u32 (v), .string (d), .string (c), .string (r)]] w fun e w' => e = .returned (.tuple #[.string O, .int .i64 E]) ∧ Below w.heap.size w w' := by
  have hc := size_0 h3
  subst hc
  subst h4
  have HX : Hid (Held w.heap.size w.heap.size 24 #[.bool false, .int .i64 (b), .int .u32 (0), .string (d), .string (⟨#[]⟩), .string (r)] w (w.alloc (.cells #[.bool false, .int .i64 (b), .int .u32 (0), .string (d), .string (⟨#[]⟩), .string (r)] 24))) := Lib.hid ⟨HasB.new w _ _, (Below.refl _ _).alloc (Nat.le_refl _) _, by simp⟩
  have hb := inB_is h
  have y1 : ¬ b < 0 := by omega
  have y2 : ¬ 63 < b := by omega
  have y3 : ((d.size : Int) != 8) = false := by simp; omega
  have x1 : IntKind.i64.wrap (64 + b) = 64 + b := IntWalk.i64_in _ (by omega)
  have x2 : IntKind.u64.wrap (64 + b) = 64 + b := wrapU _ (by omega) (by omega)
  obtain ⟨p1, e1, l1⟩ : ∃ p, numL (64 + b) 1 = p ∧ p.length = 1 := ⟨_, rfl, numL_len _ _ (by omega) (by omega)⟩
  have C1 := Lib.hid (put02_is e1 (by omega) (by omega))
  rw [e1] at hO
  have HO := Lib.hid hO
  have HC := Lib.hid (cat3 p1 d r)
  have f1 : (9223372036854775807 < 1 + d.size) = False := eq_false (by omega)
  have f2 : (9223372036854775807 < 1 + d.size + r.size) = False := eq_false (by omega)
  clear h h2 hb e1 hO
  (go_enter Try.func9, Try.ntmps9; go_wp2_with fail)
  replace HX := Lib.hid HX.out.drew
  go_region_held3 (fun w' => w'.cell? ⟨w.heap.size, 0, none⟩ = some (.bool false) ∧ w'.cell? ⟨w.heap.size, 1, none⟩ = some (.int .i64 (b)) ∧ w'.cell? ⟨w.heap.size, 2, none⟩ = some (.int .u32 (0)) ∧ w'.cell? ⟨w.heap.size, 3, none⟩ = some (.string (d)) ∧ w'.cell? ⟨w.heap.size, 4, none⟩ = some (.string (⟨#[]⟩)) ∧ w'.cell? ⟨w.heap.size, 5, none⟩ = some (.string (r))) (exact cells6N HX.out.1) (first | (go_at_call 19; (with_reducible refine (C1.out _).mono ?_); rintro e wa ⟨rfl, hb⟩; replace HX := Lib.hid (HX.out.next hb); clear hb))
  all_goals
    rw [HC.out]
    go_wp2_with fail
    (go_ret2; exact ⟨ret_si HO.out.symm HE.out.symm, HX.out.2.1⟩)
set_option maxHeartbeats 4000000 in
theorem put_long (b v : Int) (d c r : ByteArray) (O : ByteArray) (E : Int) (hO : O = ⟨(numL (192 + b) 1 ++ numL v 4 ++ numL (d.size : Int) 1 ++ d.data.toList ++ numL (c.size : Int) 1 ++ c.data.toList ++ r.data.toList).toArray⟩) (HE : Hid (E = 0)) (h : inB b 63 = true) (v0 : 0 ≤ v) (v1 : v < 4294967296) (h2 : d.size ≤ 20) (h3 : c.size ≤ 20) (hr : r.size ≤ 1099511627776) (w : World) : Calls Try.prog 9 #[.agg #[.bool true, .int .i64 (b), .int .u32 (v), .string (d), .string (c), .string (r)]] w fun e w' => e = .returned (.tuple #[.string O, .int .i64 E]) ∧ Below w.heap.size w w' := by
  have HX : Hid (Held w.heap.size w.heap.size 24 #[.bool true, .int .i64 (b), .int .u32 (v), .string (d), .string (c), .string (r)] w (w.alloc (.cells #[.bool true, .int .i64 (b), .int .u32 (v), .string (d), .string (c), .string (r)] 24))) := Lib.hid ⟨HasB.new w _ _, (Below.refl _ _).alloc (Nat.le_refl _) _, by simp⟩
  have hb := inB_is h
  have y1 : ¬ b < 0 := by omega
  have y2 : ¬ 63 < b := by omega
  have y3 : ¬ (20 : Int) < d.size := by omega
  have y4 : ¬ (20 : Int) < c.size := by omega
  have x1 : IntKind.i64.wrap (192 + b) = 192 + b := IntWalk.i64_in _ (by omega)
  have x2 : IntKind.u64.wrap (192 + b) = 192 + b := wrapU _ (by omega) (by omega)
  have x3 : IntKind.u64.wrap v = v := wrapU _ (by omega) (by omega)
  have x4 : IntKind.u64.wrap (d.size : Int) = d.size := wrapU _ (by omega) (by omega)
  have x5 : IntKind.u64.wrap (c.size : Int) = c.size := wrapU _ (by omega) (by omega)
  obtain ⟨p1, e1, l1⟩ : ∃ p, numL (192 + b) 1 = p ∧ p.length = 1 := ⟨_, rfl, numL_len _ _ (by omega) (by omega)⟩
  obtain ⟨p2, e2, l2⟩ : ∃ p, numL v 4 = p ∧ p.length = 4 := ⟨_, rfl, numL_len _ _ (by omega) (by omega)⟩
  obtain ⟨p3, e3, l3⟩ : ∃ p, numL (d.size : Int) 1 = p ∧ p.length = 1 := ⟨_, rfl, numL_len _ _ (by omega) (by omega)⟩
  obtain ⟨p4, e4, l4⟩ : ∃ p, numL (c.size : Int) 1 = p ∧ p.length = 1 := ⟨_, rfl, numL_len _ _ (by omega) (by omega)⟩
  have C1 := Lib.hid (put02_is e1 (by omega) (by omega))
  have C2 := Lib.hid (put02_is e2 (by omega) (by omega))
  have C3 := Lib.hid (put02_is e3 (by omega) (by omega))
  have C4 := Lib.hid (put02_is e4 (by omega) (by omega))
  rw [e1, e2, e3, e4] at hO
  have HO := Lib.hid hO
  have HC := Lib.hid (cat7 p1 p2 p3 p4 d c r)
  have f1 : (9223372036854775807 < 6 + d.size) = False := eq_false (by omega)
  have f2 : (9223372036854775807 < 6 + d.size + 1) = False := eq_false (by omega)
  have f3 : (9223372036854775807 < 6 + d.size + 1 + c.size) = False := eq_false (by omega)
  have f4 : (9223372036854775807 < 6 + d.size + 1 + c.size + r.size) = False := eq_false (by omega)
  clear h hb e1 e2 e3 e4 hO
  (go_enter Try.func9, Try.ntmps9; go_wp2_with fail)
  replace HX := Lib.hid HX.out.drew
  go_region_held3 (fun w' => w'.cell? ⟨w.heap.size, 0, none⟩ = some (.bool true) ∧ w'.cell? ⟨w.heap.size, 1, none⟩ = some (.int .i64 (b)) ∧ w'.cell? ⟨w.heap.size, 2, none⟩ = some (.int .u32 (v)) ∧ w'.cell? ⟨w.heap.size, 3, none⟩ = some (.string (d)) ∧ w'.cell? ⟨w.heap.size, 4, none⟩ = some (.string (c)) ∧ w'.cell? ⟨w.heap.size, 5, none⟩ = some (.string (r))) (exact cells6N HX.out.1) (first | (go_at_call 19; (with_reducible refine (C1.out _).mono ?_); rintro e wa ⟨rfl, hb⟩; replace HX := Lib.hid (HX.out.next hb); clear hb) | (go_at_call 19; (with_reducible refine (C2.out _).mono ?_); rintro e wa ⟨rfl, hb⟩; replace HX := Lib.hid (HX.out.next hb); clear hb) | (go_at_call 19; (with_reducible refine (C3.out _).mono ?_); rintro e wa ⟨rfl, hb⟩; replace HX := Lib.hid (HX.out.next hb); clear hb) | (go_at_call 19; (with_reducible refine (C4.out _).mono ?_); rintro e wa ⟨rfl, hb⟩; replace HX := Lib.hid (HX.out.next hb); clear hb))
  all_goals
    rw [HC.out]
    go_wp2_with fail
    (go_ret2; exact ⟨ret_si HO.out.symm HE.out.symm, HX.out.2.1⟩)
theorem put_any (h : H9) (hb : B9 h) (hd : h.dc.size ≤ 1099511627776) (hs : h.sc.size ≤ 1099511627776) (hr : h.re.size ≤ 1099511627776) (w : World) :
    Calls Try.prog 9 #[.agg #[.bool h.lg, .int .i64 h.bi, .int .u32 h.ve, .string h.dc, .string h.sc, .string h.re]] w fun e w' => e = .returned (.tuple #[.string (out9 h), .int .i64 (err9 h)]) ∧ Below w.heap.size w w' := by
  obtain ⟨lg, b, v, d, c, r⟩ := h
  cases ho : ok9 ⟨lg, b, v, d, c, r⟩ with
  | false =>
    obtain ⟨e1, e2⟩ := err9_no ho
    cases hi : inB b 63 with
    | false => exact put_bits lg b v d c r _ _ (Lib.hid e2) (Lib.hid e1) hi w
    | true =>
      cases lg with
      | true =>
        refine put_longno b v d c r _ _ (Lib.hid e2) (Lib.hid e1) hi ?_ w
        by_cases h1 : 20 < d.size
        · exact .inl h1
        · by_cases h2 : 20 < c.size
          · exact .inr h2
          · rw [ok9_isL hi (by omega) (by omega)] at ho; cases ho
      | false =>
        refine put_shortno b v d c r _ _ (Lib.hid e2) (Lib.hid e1) hi (fun hh => ?_) w
        rw [ok9_isS hi hh.1 hh.2.1 hh.2.2] at ho; cases ho
  | true =>
    have e1 := err9_is ho
    have e2 : out9 ⟨lg, b, v, d, c, r⟩ = ⟨(body9 ⟨lg, b, v, d, c, r⟩).toArray⟩ := if_pos ho
    cases lg with
    | true =>
      obtain ⟨h1, h2, h3⟩ := ok9_long ho
      exact put_long b v d c r _ _ e2 (Lib.hid e1) h1 hb.a0 hb.a1 h2 h3 hr w
    | false =>
      obtain ⟨h1, h2, h3, h4⟩ := ok9_short ho
      exact put_short b v d c r _ _ e2 (Lib.hid e1) h1 h2 h3 h4 hr w
end Go.Proofs.Ytniaelmloealbaa.R09
