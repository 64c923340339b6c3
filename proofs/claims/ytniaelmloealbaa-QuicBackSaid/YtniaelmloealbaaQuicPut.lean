/- The contract of package quic: Put. -/
import Derived.Test.YtniaelmloealbaaQuicWalks
namespace Go.Proofs.Ytniaelmloealbaa
open Go.RowKit
set_option linter.unusedVariables false
attribute [local go_sem ↓] ldH9 stH9 ldR9 stR9
attribute [local go_sem] rowAt_p rowOkAt_p setAt_p aggOf_a rowOk_new rowOf_new setRow_new agg9 aggT9
attribute [local go_sem ↓] Go.wp_at_zero Go.wp_at_succ

theorem cat5Q (a b c d : List UInt8) (z : ByteArray) : (⟨a.toArray⟩ : ByteArray) ++ ⟨b.toArray⟩ ++ ⟨c.toArray⟩ ++ ⟨d.toArray⟩ ++ z = ⟨(a ++ b ++ c ++ d ++ z.data.toList).toArray⟩ := by
  apply ext_eq
  simp
theorem cat3Q (a : List UInt8) (x y : ByteArray) : (⟨a.toArray⟩ : ByteArray) ++ x ++ y = ⟨(a ++ x.data.toList ++ y.data.toList).toArray⟩ := by
  apply ext_eq
  simp
theorem put9_no (lg : Bool) (b v : Int) (d c r : ByteArray) (O : ByteArray) (E : Int) (HO : Hid (O = ⟨#[]⟩)) (HE : Hid (E = 1)) (h : ok9 ⟨lg, b, v, d, c, r⟩ = false) (w : World) : Calls Try.prog 7 #[.agg #[.bool lg, .int .i64 (b), .int .u32 (v), .string (d), .string (c), .string (r)]] w fun e w' => e = .returned (.tuple #[.string O, .int .i64 E]) ∧ Below w.heap.size w w' := by
  have VA := valid9_any ⟨lg, b, v, d, c, r⟩
  rw [h] at VA
  dsimp only at VA
  replace VA := Lib.hid VA
  have HX : Hid (Held w.heap.size w.heap.size 31 #[.bool lg, .int .i64 (b), .int .u32 (v), .string (d), .string (c), .string (r)] w (w.alloc (.cells #[.bool lg, .int .i64 (b), .int .u32 (v), .string (d), .string (c), .string (r)] 31))) := Lib.hid ⟨HasB.new w _ _, (Below.refl _ _).alloc (Nat.le_refl _) _, by simp⟩
  clear h
  have hro := HasB.rowOk HX.out.1 (n := 6) rfl
  have hrw := HasB.rowOf HX.out.1
  go_enter Try.func7, Try.ntmps7
  go_wp2_with (first | (go_at_call 15; (with_reducible refine (VA.out _).mono ?_); rintro e wa ⟨rfl, hb⟩; replace HX := Lib.hid (HX.out.next hb); clear hb hro hrw; have k0 := HasB.cell HX.out.1 0 _ rfl) | fail)
  (go_ret2; exact ⟨ret_si HO.out.symm HE.out.symm, HX.out.2.1⟩)
set_option maxHeartbeats 2000000 in
theorem put9_short (b v : Int) (d c r : ByteArray) (O : ByteArray) (E : Int) (hO : O = ⟨(numL (64 + b) 1 ++ d.data.toList ++ r.data.toList).toArray⟩) (HE : Hid (E = 0)) (h : ok9 ⟨false, b, v, d, c, r⟩ = true) (hr : r.size ≤ 1000000) (w : World) : Calls Try.prog 7 #[.agg #[.bool false, .int .i64 (b), .int .u32 (v), .string (d), .string (c), .string (r)]] w fun e w' => e = .returned (.tuple #[.string O, .int .i64 E]) ∧ Below w.heap.size w w' := by
  obtain ⟨h1, h2, h3, h4⟩ := ok9_short h
  have VA := valid9_any ⟨false, b, v, d, c, r⟩
  rw [h] at VA
  dsimp only at VA
  replace VA := Lib.hid VA
  have HX : Hid (Held w.heap.size w.heap.size 31 #[.bool false, .int .i64 (b), .int .u32 (v), .string (d), .string (c), .string (r)] w (w.alloc (.cells #[.bool false, .int .i64 (b), .int .u32 (v), .string (d), .string (c), .string (r)] 31))) := Lib.hid ⟨HasB.new w _ _, (Below.refl _ _).alloc (Nat.le_refl _) _, by simp⟩
  have hb := inB_is h1
  obtain ⟨p1, e1, l1⟩ : ∃ p, numL (64 + b) 1 = p ∧ p.length = 1 := ⟨_, rfl, numL_len _ _ (by omega) (by omega)⟩
  have C1 := Lib.hid (first9_any (k := 1) (.inl rfl) (by omega) (by omega) e1)
  rw [e1] at hO
  have HO := Lib.hid hO
  have HC := Lib.hid (cat3Q p1 d r)
  have f1 : (9223372036854775807 < 1 + d.size) = False := eq_false (by omega)
  have f2 : (9223372036854775807 < 1 + d.size + r.size) = False := eq_false (by omega)
  have H2 := Lib.hid h2
  clear h h1 h2 h3 h4 hb e1 hO
  have hro := HasB.rowOk HX.out.1 (n := 6) rfl
  have hrw := HasB.rowOf HX.out.1
  go_enter Try.func7, Try.ntmps7
  go_wp2_with (first | (go_at_call 15; (with_reducible refine (VA.out _).mono ?_); rintro e wa ⟨rfl, hb⟩; replace HX := Lib.hid (HX.out.next hb); clear hb hro hrw; have k0 := HasB.cell HX.out.1 0 _ rfl) | fail)
  clear k0
  replace HX := Lib.hid HX.out.drew
  go_region_held3 (fun w' => w'.cell? ⟨w.heap.size, 0, none⟩ = some (.bool false) ∧ w'.cell? ⟨w.heap.size, 1, none⟩ = some (.int .i64 (b)) ∧ w'.cell? ⟨w.heap.size, 2, none⟩ = some (.int .u32 (v)) ∧ w'.cell? ⟨w.heap.size, 3, none⟩ = some (.string (d)) ∧ w'.cell? ⟨w.heap.size, 4, none⟩ = some (.string (c)) ∧ w'.cell? ⟨w.heap.size, 5, none⟩ = some (.string (r))) (exact cells6N HX.out.1) (first | (go_at_call 16; (with_reducible refine (C1.out _).mono ?_); rintro e wa ⟨rfl, hb⟩; replace HX := Lib.hid (HX.out.next hb); clear hb))
  all_goals
    rw [HC.out]
    go_wp2_with fail
    (go_ret2; exact ⟨ret_si HO.out.symm HE.out.symm, HX.out.2.1⟩)
set_option maxHeartbeats 4000000 in
theorem put9_long (b v : Int) (d c r : ByteArray) (O : ByteArray) (E : Int) (hO : O = ⟨(numL (192 + b) 1 ++ numL v 4 ++ (numL (d.size : Int) 1 ++ d.data.toList) ++ (numL (c.size : Int) 1 ++ c.data.toList) ++ r.data.toList).toArray⟩) (HE : Hid (E = 0)) (h : ok9 ⟨true, b, v, d, c, r⟩ = true) (v0 : 0 ≤ v) (v1 : v < 4294967296) (hr : r.size ≤ 1000000) (w : World) : Calls Try.prog 7 #[.agg #[.bool true, .int .i64 (b), .int .u32 (v), .string (d), .string (c), .string (r)]] w fun e w' => e = .returned (.tuple #[.string O, .int .i64 E]) ∧ Below w.heap.size w w' := by
  obtain ⟨h1, h2, h3⟩ := ok9_long h
  have VA := valid9_any ⟨true, b, v, d, c, r⟩
  rw [h] at VA
  dsimp only at VA
  replace VA := Lib.hid VA
  have HX : Hid (Held w.heap.size w.heap.size 31 #[.bool true, .int .i64 (b), .int .u32 (v), .string (d), .string (c), .string (r)] w (w.alloc (.cells #[.bool true, .int .i64 (b), .int .u32 (v), .string (d), .string (c), .string (r)] 31))) := Lib.hid ⟨HasB.new w _ _, (Below.refl _ _).alloc (Nat.le_refl _) _, by simp⟩
  have hb := inB_is h1
  have x3 : IntKind.u64.wrap v = v := wrapU _ (by omega) (by omega)
  obtain ⟨p1, e1, l1⟩ : ∃ p, numL (192 + b) 1 = p ∧ p.length = 1 := ⟨_, rfl, numL_len _ _ (by omega) (by omega)⟩
  obtain ⟨p2, e2, l2⟩ : ∃ p, numL v 4 = p ∧ p.length = 4 := ⟨_, rfl, numL_len _ _ (by omega) (by omega)⟩
  have C1 := Lib.hid (first9_any (k := 3) (.inr rfl) (by omega) (by omega) e1)
  have C2 := Lib.hid (putQ_is e2 (by omega) (by omega))
  have C3 := counted9_any d h2
  have C4 := counted9_any c h3
  obtain ⟨p3, e3, l3⟩ : ∃ p, numL (d.size : Int) 1 ++ d.data.toList = p ∧ p.length = 1 + d.size := ⟨_, rfl, by rw [List.length_append, numL_len _ _ (by omega) (by omega), size_list]; omega⟩
  obtain ⟨p4, e4, l4⟩ : ∃ p, numL (c.size : Int) 1 ++ c.data.toList = p ∧ p.length = 1 + c.size := ⟨_, rfl, by rw [List.length_append, numL_len _ _ (by omega) (by omega), size_list]; omega⟩
  rw [e3] at C3
  rw [e4] at C4
  rw [e1, e2, e3, e4] at hO
  replace C3 := Lib.hid C3
  replace C4 := Lib.hid C4
  have HO := Lib.hid hO
  have HC := Lib.hid (cat5Q p1 p2 p3 p4 r)
  have f1 : (9223372036854775807 < 5 + (1 + d.size)) = False := eq_false (by omega)
  have f2 : (9223372036854775807 < 5 + (1 + d.size) + (1 + c.size)) = False := eq_false (by omega)
  have f3 : (9223372036854775807 < 5 + (1 + d.size) + (1 + c.size) + r.size) = False := eq_false (by omega)
  clear h h1 h2 h3 hb e1 e2 e3 e4 hO
  have hro := HasB.rowOk HX.out.1 (n := 6) rfl
  have hrw := HasB.rowOf HX.out.1
  go_enter Try.func7, Try.ntmps7
  go_wp2_with (first | (go_at_call 15; (with_reducible refine (VA.out _).mono ?_); rintro e wa ⟨rfl, hb⟩; replace HX := Lib.hid (HX.out.next hb); clear hb hro hrw; have k0 := HasB.cell HX.out.1 0 _ rfl) | fail)
  clear k0
  replace HX := Lib.hid HX.out.drew
  go_region_held3 (fun w' => w'.cell? ⟨w.heap.size, 0, none⟩ = some (.bool true) ∧ w'.cell? ⟨w.heap.size, 1, none⟩ = some (.int .i64 (b)) ∧ w'.cell? ⟨w.heap.size, 2, none⟩ = some (.int .u32 (v)) ∧ w'.cell? ⟨w.heap.size, 3, none⟩ = some (.string (d)) ∧ w'.cell? ⟨w.heap.size, 4, none⟩ = some (.string (c)) ∧ w'.cell? ⟨w.heap.size, 5, none⟩ = some (.string (r))) (exact cells6N HX.out.1) (first | (go_at_call 16; (with_reducible refine (C1.out _).mono ?_); rintro e wa ⟨rfl, hb⟩; replace HX := Lib.hid (HX.out.next hb); clear hb) | (go_at_call 17; (with_reducible refine (C2.out _).mono ?_); rintro e wa ⟨rfl, hb⟩; replace HX := Lib.hid (HX.out.next hb); clear hb) | (go_at_call 18; (with_reducible refine (C3.out _).mono ?_); rintro e wa ⟨rfl, hb⟩; replace HX := Lib.hid (HX.out.next hb); clear hb) | (go_at_call 18; (with_reducible refine (C4.out _).mono ?_); rintro e wa ⟨rfl, hb⟩; replace HX := Lib.hid (HX.out.next hb); clear hb))
  all_goals
    rw [HC.out]
    go_wp2_with fail
    (go_ret2; exact ⟨ret_si HO.out.symm HE.out.symm, HX.out.2.1⟩)
theorem put9_any (h : H9) (hb : B9 h) (hr : h.re.size ≤ 1000000) (w : World) :
    Calls Try.prog 7 #[.agg #[.bool h.lg, .int .i64 h.bi, .int .u32 h.ve, .string h.dc, .string h.sc, .string h.re]] w fun e w' => e = .returned (.tuple #[.string (out9 h), .int .i64 (err9 h)]) ∧ Below w.heap.size w w' := by
  obtain ⟨lg, b, v, d, c, r⟩ := h
  cases ho : ok9 ⟨lg, b, v, d, c, r⟩ with
  | false =>
    obtain ⟨e1, e2⟩ := err9_no ho
    exact put9_no lg b v d c r _ _ (Lib.hid e2) (Lib.hid e1) ho w
  | true =>
    have e1 := err9_is ho
    have e2 : out9 ⟨lg, b, v, d, c, r⟩ = ⟨(body9 ⟨lg, b, v, d, c, r⟩).toArray⟩ := if_pos ho
    cases lg with
    | true =>
      refine put9_long b v d c r _ _ (e2.trans ?_) (Lib.hid e1) ho hb.a0 hb.a1 hr w
      unfold body9
      simp
    | false => exact put9_short b v d c r _ _ e2 (Lib.hid e1) ho hr w
end Go.Proofs.Ytniaelmloealbaa
