/- The law of ipsix without the reference: the walk. -/
import Derived.Test.YtnlinfdfgalmjaaLaw06Tells
import Derived.Laws.IdiomStrings
namespace Go.Proofs.Ytnlinfdfgalmjaa
open Go.RowKit Go.WideShapes
set_option linter.unusedVariables false
attribute [local go_sem ↓] ldH6 stH6 ldR6 stR6
attribute [local go_sem] rowAt_p rowOkAt_p setAt_p aggOf_a rowOk_new rowOf_new setRow_new agg10 aggH6
attribute [local go_sem ↓] Go.wp_at_zero Go.wp_at_succ

set_option maxHeartbeats 2000000 in
theorem back_bare_no (h : H6) (p m s : ByteArray) (k : Int) (hbd : B6 h) (hp : ¬ 200 < p.size) (hm : ¬ 200 < m.size) (hs : ¬ 200 < s.size) (hn : errG6 s ≠ 0) (he : err6 h p ≠ 0) (w : World) :
    Calls Try.prog 4 #[.agg #[.int .i64 h.cl, .int .i64 h.lb, .int .i64 h.nx, .int .i64 h.hp, .bool h.sv, .int .u64 h.sh, .int .u64 h.sl, .bool h.dv, .int .u64 h.dh, .int .u64 h.dl], .string p, .string m, .string s, .int .u16 k] w fun e w' => e = .returned (.bool true) ∧ Below w.heap.size w w' := by
  have hq : Below w.heap.size w (w.alloc (.cells #[.int .i64 h.cl, .int .i64 h.lb, .int .i64 h.nx, .int .i64 h.hp, .bool h.sv, .int .u64 h.sh, .int .u64 h.sl, .bool h.dv, .int .u64 h.dh, .int .u64 h.dl] 26)) := (Below.refl _ _).alloc (Nat.le_refl _) _
  have hH := HasB.new w 26 #[.int .i64 h.cl, .int .i64 h.lb, .int .i64 h.nx, .int .i64 h.hp, .bool h.sv, .int .u64 h.sh, .int .u64 h.sl, .bool h.dv, .int .u64 h.dh, .int .u64 h.dl]
  have hpi : ¬ (200 : Int) < p.size := by omega
  have hmi : ¬ (200 : Int) < m.size := by omega
  have hsi : ¬ (200 : Int) < s.size := by omega
  have x2 : (errG6 s == 0) = false := by simpa using hn
  have G1 := Lib.hid (get6_any s (by omega))
  generalize errG6 s = E2 at G1 x2
  generalize headG6 s = g at G1
  generalize payG6 s = y at G1
  have P1 := Lib.hid (put6_any h p hbd (by omega))
  have x1 : (err6 h p != 0) = true := by simpa using he
  have HO : out6 h p = ⟨#[]⟩ := if_neg he
  rw [HO] at P1
  generalize err6 h p = E at P1 x1
  clear hbd hp hm hs hn he HO
  go_enter Try.func4, Try.ntmps4
  go_wp2_with (first | (go_at_call 9; (with_reducible refine (G1.out _).mono ?_); rintro e wx ⟨rfl, hb⟩; replace hq := (hq.trans (hb.mono hq.size)).alloc (Nat.le_trans hq.size hb.size) (.cells #[.int .i64 g.cl, .int .i64 g.lb, .int .i64 g.nx, .int .i64 g.hp, .bool g.sv, .int .u64 g.sh, .int .u64 g.sl, .bool g.dv, .int .u64 g.dh, .int .u64 g.dl] 31); replace hH := (HasB.below hH hb hH.lt).alloc (.cells #[.int .i64 g.cl, .int .i64 g.lb, .int .i64 g.nx, .int .i64 g.hp, .bool g.sv, .int .u64 g.sh, .int .u64 g.sl, .bool g.dv, .int .u64 g.dh, .int .u64 g.dl] 31); clear hb; have hro := HasB.rowOk hH (n := 10) rfl; have hrw := HasB.rowOf hH) | (go_at_call 7; (with_reducible refine (of6_any h _).mono ?_); rintro e wb ⟨rfl, hb⟩; clear hro hrw; replace hq := hq.trans (hb.mono hq.size); replace hH := HasB.below hH hb hH.lt; clear hb) | (go_at_call 6; (with_reducible refine (P1.out _).mono ?_); rintro e wa ⟨rfl, hb⟩; replace hq := hq.trans (hb.mono hq.size); replace hH := HasB.below hH hb hH.lt; clear hb; have hro := HasB.rowOk hH (n := 10) rfl; have hrw := HasB.rowOf hH) | (go_at_call 5; (with_reducible refine (awake06 _).mono ?_); rintro e wz ⟨rfl, hb⟩; replace hq := hq.trans (hb.mono hq.size); clear hb) | fail)
  go_ret
  exact ⟨rfl, hq⟩
set_option maxHeartbeats 2000000 in
theorem back_read_no (h : H6) (p m s : ByteArray) (k : Int) (hbd : B6 h) (hp : ¬ 200 < p.size) (hm : ¬ 200 < m.size) (hs : ¬ 200 < s.size) (hn : errG6 s = 0) (he : err6 h p ≠ 0) (w : World) :
    Calls Try.prog 4 #[.agg #[.int .i64 h.cl, .int .i64 h.lb, .int .i64 h.nx, .int .i64 h.hp, .bool h.sv, .int .u64 h.sh, .int .u64 h.sl, .bool h.dv, .int .u64 h.dh, .int .u64 h.dl], .string p, .string m, .string s, .int .u16 k] w fun e w' => e = .returned (.bool true) ∧ Below w.heap.size w w' := by
  have hq : Below w.heap.size w (w.alloc (.cells #[.int .i64 h.cl, .int .i64 h.lb, .int .i64 h.nx, .int .i64 h.hp, .bool h.sv, .int .u64 h.sh, .int .u64 h.sl, .bool h.dv, .int .u64 h.dh, .int .u64 h.dl] 26)) := (Below.refl _ _).alloc (Nat.le_refl _) _
  have hH := HasB.new w 26 #[.int .i64 h.cl, .int .i64 h.lb, .int .i64 h.nx, .int .i64 h.hp, .bool h.sv, .int .u64 h.sh, .int .u64 h.sl, .bool h.dv, .int .u64 h.dh, .int .u64 h.dl]
  have hpi : ¬ (200 : Int) < p.size := by omega
  have hmi : ¬ (200 : Int) < m.size := by omega
  have hsi : ¬ (200 : Int) < s.size := by omega
  obtain ⟨f1, f2, f3, f4, f5⟩ := fwd6_same hn
  have PX := Lib.hid (put6_any (headG6 s) (payG6 s) f2 (by omega))
  rw [f1] at PX
  have G1 := Lib.hid (get6_any s (by omega))
  rw [hn] at G1
  have z1 : ¬ ((s.size : Int) < (out6 (headG6 s) (payG6 s)).size) := by omega
  have z2 : ((out6 (headG6 s) (payG6 s)).size : Int) ≤ s.size := by omega
  have z3 := f5.symm
  clear f1 f2 f3 f4 f5
  generalize out6 (headG6 s) (payG6 s) = T1 at *
  generalize headG6 s = g at *
  generalize payG6 s = y at *
  have P1 := Lib.hid (put6_any h p hbd (by omega))
  have x1 : (err6 h p != 0) = true := by simpa using he
  have HO : out6 h p = ⟨#[]⟩ := if_neg he
  rw [HO] at P1
  generalize err6 h p = E at P1 x1
  clear hbd hp hm hs hn he HO
  go_enter Try.func4, Try.ntmps4
  go_wp2_with (first | (go_at_call 9; (with_reducible refine (G1.out _).mono ?_); rintro e wx ⟨rfl, hb⟩; replace hq := (hq.trans (hb.mono hq.size)).alloc (Nat.le_trans hq.size hb.size) (.cells #[.int .i64 g.cl, .int .i64 g.lb, .int .i64 g.nx, .int .i64 g.hp, .bool g.sv, .int .u64 g.sh, .int .u64 g.sl, .bool g.dv, .int .u64 g.dh, .int .u64 g.dl] 31); replace hH := (HasB.below hH hb hH.lt).alloc (.cells #[.int .i64 g.cl, .int .i64 g.lb, .int .i64 g.nx, .int .i64 g.hp, .bool g.sv, .int .u64 g.sh, .int .u64 g.sl, .bool g.dv, .int .u64 g.dh, .int .u64 g.dl] 31); clear hb; have hro := HasB.rowOk hH (n := 10) rfl; have hrw := HasB.rowOf hH) | (go_at_call 6; (with_reducible refine (PX.out _).mono ?_); rintro e wa ⟨rfl, hb⟩; clear hro hrw; replace hq := hq.trans (hb.mono hq.size); replace hH := HasB.below hH hb hH.lt; clear hb; have hro := HasB.rowOk hH (n := 10) rfl; have hrw := HasB.rowOf hH) | (go_at_call 7; (with_reducible refine (of6_any h _).mono ?_); rintro e wb ⟨rfl, hb⟩; clear hro hrw; replace hq := hq.trans (hb.mono hq.size); replace hH := HasB.below hH hb hH.lt; clear hb) | (go_at_call 6; (with_reducible refine (P1.out _).mono ?_); rintro e wa ⟨rfl, hb⟩; replace hq := hq.trans (hb.mono hq.size); replace hH := HasB.below hH hb hH.lt; clear hb; have hro := HasB.rowOk hH (n := 10) rfl; have hrw := HasB.rowOf hH) | (go_at_call 5; (with_reducible refine (awake06 _).mono ?_); rintro e wz ⟨rfl, hb⟩; replace hq := hq.trans (hb.mono hq.size); clear hb) | fail)
  all_goals
    go_ret
    exact ⟨rfl, hq⟩
set_option maxHeartbeats 2000000 in
theorem back_bare_ok (h : H6) (p m s : ByteArray) (k : Int) (hk : 0 ≤ k ∧ k < 65536) (hbd : B6 h) (hp : ¬ 200 < p.size) (hm : ¬ 200 < m.size) (hs : ¬ 200 < s.size) (hn : errG6 s ≠ 0) (he : err6 h p = 0) (w : World) :
    Calls Try.prog 4 #[.agg #[.int .i64 h.cl, .int .i64 h.lb, .int .i64 h.nx, .int .i64 h.hp, .bool h.sv, .int .u64 h.sh, .int .u64 h.sl, .bool h.dv, .int .u64 h.dh, .int .u64 h.dl], .string p, .string m, .string s, .int .u16 k] w fun e w' => e = .returned (.bool true) ∧ Below w.heap.size w w' := by
  have hq : Below w.heap.size w (w.alloc (.cells #[.int .i64 h.cl, .int .i64 h.lb, .int .i64 h.nx, .int .i64 h.hp, .bool h.sv, .int .u64 h.sh, .int .u64 h.sl, .bool h.dv, .int .u64 h.dh, .int .u64 h.dl] 26)) := (Below.refl _ _).alloc (Nat.le_refl _) _
  have hH := HasB.new w 26 #[.int .i64 h.cl, .int .i64 h.lb, .int .i64 h.nx, .int .i64 h.hp, .bool h.sv, .int .u64 h.sh, .int .u64 h.sl, .bool h.dv, .int .u64 h.dh, .int .u64 h.dl]
  have hpi : ¬ (200 : Int) < p.size := by omega
  have hmi : ¬ (200 : Int) < m.size := by omega
  have hsi : ¬ (200 : Int) < s.size := by omega
  have x2 : (errG6 s == 0) = false := by simpa using hn
  have G1 := Lib.hid (get6_any s (by omega))
  generalize errG6 s = E2 at G1 x2
  generalize headG6 s = g at G1
  generalize payG6 s = y at G1
  obtain ⟨b1, b2, b3, b4⟩ := back6_ok he hbd
  obtain ⟨b5, b6, b7⟩ := b3 m
  have P1 := Lib.hid (put6_any h p hbd (by omega))
  have G2 := Lib.hid (get6_any (out6 h p ++ m) (by rw [ByteArray.size_append]; omega))
  rw [b5, b6, b7] at G2
  rw [he] at P1
  obtain ⟨K, k1, k2⟩ : ∃ K : Nat, K < 40 + p.size ∧ k % (40 + (p.size : Int)) = (K : Int) := ⟨(k % (40 + (p.size : Int))).toNat, by have := Int.emod_lt_of_pos k (show (0 : Int) < 40 + p.size by omega); have := Int.emod_nonneg k (show (40 + (p.size : Int)) ≠ 0 by omega); omega, by have := Int.emod_nonneg k (show (40 + (p.size : Int)) ≠ 0 by omega); omega⟩
  have G3 := Lib.hid (get6_any ((out6 h p).extract 0 K) (by rw [ByteArray.size_extract]; omega))
  rw [b4 K k1] at G3
  have t1 : ((out6 h p).size : Int) = 40 + (p.size : Int) := by omega
  generalize headG6 ((out6 h p).extract 0 K) = g3 at G3
  generalize payG6 ((out6 h p).extract 0 K) = y3 at G3
  generalize out6 h p = T at *
  have t3 : (9223372036854775807 < T.size + m.size) = False := eq_false (by omega)
  have kI : (K : Int) ≤ 40 + (p.size : Int) := by omega
  have w40 : IntKind.i64.wrap (40 + (p.size : Int)) = 40 + (p.size : Int) := IntWalk.i64_in _ (by omega)
  have w5 : wrap64 k = k := R06.wrap_in k (by omega)
  have w6 : k.tmod (40 + (p.size : Int)) = (K : Int) := (Int.tmod_eq_emod_of_nonneg hk.1).trans k2
  clear b2 b3 b4 b5 b6 b7
  clear hbd hn he b1 hk hp hm hs k1
  go_enter Try.func4, Try.ntmps4
  go_wp2_with (first | (go_at_call 9; (with_reducible refine (G1.out _).mono ?_); rintro e wx ⟨rfl, hb⟩; replace hq := (hq.trans (hb.mono hq.size)).alloc (Nat.le_trans hq.size hb.size) (.cells #[.int .i64 g.cl, .int .i64 g.lb, .int .i64 g.nx, .int .i64 g.hp, .bool g.sv, .int .u64 g.sh, .int .u64 g.sl, .bool g.dv, .int .u64 g.dh, .int .u64 g.dl] 31); replace hH := (HasB.below hH hb hH.lt).alloc (.cells #[.int .i64 g.cl, .int .i64 g.lb, .int .i64 g.nx, .int .i64 g.hp, .bool g.sv, .int .u64 g.sh, .int .u64 g.sl, .bool g.dv, .int .u64 g.dh, .int .u64 g.dl] 31); clear hb; have hro := HasB.rowOk hH (n := 10) rfl; have hrw := HasB.rowOf hH) | (go_at_call 7; (with_reducible refine (of6_any h _).mono ?_); rintro e wb ⟨rfl, hb⟩; clear hro hrw; replace hq := hq.trans (hb.mono hq.size); replace hH := HasB.below hH hb hH.lt; clear hb) | (go_at_call 6; (with_reducible refine (P1.out _).mono ?_); rintro e wa ⟨rfl, hb⟩; replace hq := hq.trans (hb.mono hq.size); replace hH := HasB.below hH hb hH.lt; clear hb; have hro := HasB.rowOk hH (n := 10) rfl; have hrw := HasB.rowOf hH) | (go_at_call 9; (with_reducible refine (G2.out _).mono ?_); rintro e wc ⟨rfl, hb⟩; clear hro hrw; replace hq := (hq.trans (hb.mono hq.size)).alloc (Nat.le_trans hq.size hb.size) (.cells #[.int .i64 h.cl, .int .i64 h.lb, .int .i64 h.nx, .int .i64 h.hp, .bool h.sv, .int .u64 h.sh, .int .u64 h.sl, .bool h.dv, .int .u64 h.dh, .int .u64 h.dl] 31); replace hH := (HasB.below hH hb hH.lt).alloc (.cells #[.int .i64 h.cl, .int .i64 h.lb, .int .i64 h.nx, .int .i64 h.hp, .bool h.sv, .int .u64 h.sh, .int .u64 h.sl, .bool h.dv, .int .u64 h.dh, .int .u64 h.dl] 31); have hX := HasB.new wc 31 #[.int .i64 h.cl, .int .i64 h.lb, .int .i64 h.nx, .int .i64 h.hp, .bool h.sv, .int .u64 h.sh, .int .u64 h.sl, .bool h.dv, .int .u64 h.dh, .int .u64 h.dl]; clear hb) | fail)
  all_goals
    have HX : Hid (Held2 w.heap.size w.heap.size 26 #[.int .i64 h.cl, .int .i64 h.lb, .int .i64 h.nx, .int .i64 h.hp, .bool h.sv, .int .u64 h.sh, .int .u64 h.sl, .bool h.dv, .int .u64 h.dh, .int .u64 h.dl] wc.heap.size 31 #[.int .i64 h.cl, .int .i64 h.lb, .int .i64 h.nx, .int .i64 h.hp, .bool h.sv, .int .u64 h.sh, .int .u64 h.sl, .bool h.dv, .int .u64 h.dh, .int .u64 h.dl] w _) := Lib.hid (Held2.drew ⟨hH, hX, hq, hq.size⟩)
    clear hH hX hq
    go_region_held3 (fun w' => w'.cell? ⟨w.heap.size, 0, none⟩ = some (.int .i64 h.cl) ∧ w'.cell? ⟨w.heap.size, 1, none⟩ = some (.int .i64 h.lb) ∧ w'.cell? ⟨w.heap.size, 2, none⟩ = some (.int .i64 h.nx) ∧ w'.cell? ⟨w.heap.size, 3, none⟩ = some (.int .i64 h.hp) ∧ w'.cell? ⟨w.heap.size, 4, none⟩ = some (.bool h.sv) ∧ w'.cell? ⟨w.heap.size, 5, none⟩ = some (.int .u64 h.sh) ∧ w'.cell? ⟨w.heap.size, 6, none⟩ = some (.int .u64 h.sl) ∧ w'.cell? ⟨w.heap.size, 7, none⟩ = some (.bool h.dv) ∧ w'.cell? ⟨w.heap.size, 8, none⟩ = some (.int .u64 h.dh) ∧ w'.cell? ⟨w.heap.size, 9, none⟩ = some (.int .u64 h.dl) ∧ w'.cell? ⟨wc.heap.size, 0, none⟩ = some (.int .i64 h.cl) ∧ w'.cell? ⟨wc.heap.size, 1, none⟩ = some (.int .i64 h.lb) ∧ w'.cell? ⟨wc.heap.size, 2, none⟩ = some (.int .i64 h.nx) ∧ w'.cell? ⟨wc.heap.size, 3, none⟩ = some (.int .i64 h.hp) ∧ w'.cell? ⟨wc.heap.size, 4, none⟩ = some (.bool h.sv) ∧ w'.cell? ⟨wc.heap.size, 5, none⟩ = some (.int .u64 h.sh) ∧ w'.cell? ⟨wc.heap.size, 6, none⟩ = some (.int .u64 h.sl) ∧ w'.cell? ⟨wc.heap.size, 7, none⟩ = some (.bool h.dv) ∧ w'.cell? ⟨wc.heap.size, 8, none⟩ = some (.int .u64 h.dh) ∧ w'.cell? ⟨wc.heap.size, 9, none⟩ = some (.int .u64 h.dl)) (exact HX.out.cells10) (first | (go_at_call 11; (with_reducible refine (back6_any h _).mono ?_); rintro e wd ⟨rfl, hb⟩; replace HX := Lib.hid (HX.out.next hb); clear hb))
    have hq := HX.out.2.2.1
    clear HX
    go_wp2_with (first | (go_at_call 9; (with_reducible refine (G3.out _).mono ?_); rintro e we ⟨rfl, hb⟩; replace hq := (hq.trans (hb.mono hq.size)).alloc (Nat.le_trans hq.size hb.size) (.cells #[.int .i64 g3.cl, .int .i64 g3.lb, .int .i64 g3.nx, .int .i64 g3.hp, .bool g3.sv, .int .u64 g3.sh, .int .u64 g3.sl, .bool g3.dv, .int .u64 g3.dh, .int .u64 g3.dl] 31); clear hb) | (go_at_call 5; (with_reducible refine (awake06 _).mono ?_); rintro e wz ⟨rfl, hb⟩; replace hq := hq.trans (hb.mono hq.size); clear hb) | fail)
    go_ret
    exact ⟨rfl, hq⟩
set_option maxHeartbeats 2000000 in
theorem back_read_ok (h : H6) (p m s : ByteArray) (k : Int) (hk : 0 ≤ k ∧ k < 65536) (hbd : B6 h) (hp : ¬ 200 < p.size) (hm : ¬ 200 < m.size) (hs : ¬ 200 < s.size) (hn : errG6 s = 0) (he : err6 h p = 0) (w : World) :
    Calls Try.prog 4 #[.agg #[.int .i64 h.cl, .int .i64 h.lb, .int .i64 h.nx, .int .i64 h.hp, .bool h.sv, .int .u64 h.sh, .int .u64 h.sl, .bool h.dv, .int .u64 h.dh, .int .u64 h.dl], .string p, .string m, .string s, .int .u16 k] w fun e w' => e = .returned (.bool true) ∧ Below w.heap.size w w' := by
  have hq : Below w.heap.size w (w.alloc (.cells #[.int .i64 h.cl, .int .i64 h.lb, .int .i64 h.nx, .int .i64 h.hp, .bool h.sv, .int .u64 h.sh, .int .u64 h.sl, .bool h.dv, .int .u64 h.dh, .int .u64 h.dl] 26)) := (Below.refl _ _).alloc (Nat.le_refl _) _
  have hH := HasB.new w 26 #[.int .i64 h.cl, .int .i64 h.lb, .int .i64 h.nx, .int .i64 h.hp, .bool h.sv, .int .u64 h.sh, .int .u64 h.sl, .bool h.dv, .int .u64 h.dh, .int .u64 h.dl]
  have hpi : ¬ (200 : Int) < p.size := by omega
  have hmi : ¬ (200 : Int) < m.size := by omega
  have hsi : ¬ (200 : Int) < s.size := by omega
  obtain ⟨f1, f2, f3, f4, f5⟩ := fwd6_same hn
  have PX := Lib.hid (put6_any (headG6 s) (payG6 s) f2 (by omega))
  rw [f1] at PX
  have G1 := Lib.hid (get6_any s (by omega))
  rw [hn] at G1
  have z1 : ¬ ((s.size : Int) < (out6 (headG6 s) (payG6 s)).size) := by omega
  have z2 : ((out6 (headG6 s) (payG6 s)).size : Int) ≤ s.size := by omega
  have z3 := f5.symm
  clear f1 f2 f3 f4 f5
  generalize out6 (headG6 s) (payG6 s) = T1 at *
  generalize headG6 s = g at *
  generalize payG6 s = y at *
  obtain ⟨b1, b2, b3, b4⟩ := back6_ok he hbd
  obtain ⟨b5, b6, b7⟩ := b3 m
  have P1 := Lib.hid (put6_any h p hbd (by omega))
  have G2 := Lib.hid (get6_any (out6 h p ++ m) (by rw [ByteArray.size_append]; omega))
  rw [b5, b6, b7] at G2
  rw [he] at P1
  obtain ⟨K, k1, k2⟩ : ∃ K : Nat, K < 40 + p.size ∧ k % (40 + (p.size : Int)) = (K : Int) := ⟨(k % (40 + (p.size : Int))).toNat, by have := Int.emod_lt_of_pos k (show (0 : Int) < 40 + p.size by omega); have := Int.emod_nonneg k (show (40 + (p.size : Int)) ≠ 0 by omega); omega, by have := Int.emod_nonneg k (show (40 + (p.size : Int)) ≠ 0 by omega); omega⟩
  have G3 := Lib.hid (get6_any ((out6 h p).extract 0 K) (by rw [ByteArray.size_extract]; omega))
  rw [b4 K k1] at G3
  have t1 : ((out6 h p).size : Int) = 40 + (p.size : Int) := by omega
  generalize headG6 ((out6 h p).extract 0 K) = g3 at G3
  generalize payG6 ((out6 h p).extract 0 K) = y3 at G3
  generalize out6 h p = T at *
  have t3 : (9223372036854775807 < T.size + m.size) = False := eq_false (by omega)
  have kI : (K : Int) ≤ 40 + (p.size : Int) := by omega
  have w40 : IntKind.i64.wrap (40 + (p.size : Int)) = 40 + (p.size : Int) := IntWalk.i64_in _ (by omega)
  have w5 : wrap64 k = k := R06.wrap_in k (by omega)
  have w6 : k.tmod (40 + (p.size : Int)) = (K : Int) := (Int.tmod_eq_emod_of_nonneg hk.1).trans k2
  clear b2 b3 b4 b5 b6 b7
  clear hbd hn he b1 hk hp hm hs k1
  go_enter Try.func4, Try.ntmps4
  go_wp2_with (first | (go_at_call 9; (with_reducible refine (G1.out _).mono ?_); rintro e wx ⟨rfl, hb⟩; replace hq := (hq.trans (hb.mono hq.size)).alloc (Nat.le_trans hq.size hb.size) (.cells #[.int .i64 g.cl, .int .i64 g.lb, .int .i64 g.nx, .int .i64 g.hp, .bool g.sv, .int .u64 g.sh, .int .u64 g.sl, .bool g.dv, .int .u64 g.dh, .int .u64 g.dl] 31); replace hH := (HasB.below hH hb hH.lt).alloc (.cells #[.int .i64 g.cl, .int .i64 g.lb, .int .i64 g.nx, .int .i64 g.hp, .bool g.sv, .int .u64 g.sh, .int .u64 g.sl, .bool g.dv, .int .u64 g.dh, .int .u64 g.dl] 31); clear hb; have hro := HasB.rowOk hH (n := 10) rfl; have hrw := HasB.rowOf hH) | (go_at_call 6; (with_reducible refine (PX.out _).mono ?_); rintro e wa ⟨rfl, hb⟩; clear hro hrw; replace hq := hq.trans (hb.mono hq.size); replace hH := HasB.below hH hb hH.lt; clear hb; have hro := HasB.rowOk hH (n := 10) rfl; have hrw := HasB.rowOf hH) | (go_at_call 7; (with_reducible refine (of6_any h _).mono ?_); rintro e wb ⟨rfl, hb⟩; clear hro hrw; replace hq := hq.trans (hb.mono hq.size); replace hH := HasB.below hH hb hH.lt; clear hb) | (go_at_call 6; (with_reducible refine (P1.out _).mono ?_); rintro e wa ⟨rfl, hb⟩; replace hq := hq.trans (hb.mono hq.size); replace hH := HasB.below hH hb hH.lt; clear hb; have hro := HasB.rowOk hH (n := 10) rfl; have hrw := HasB.rowOf hH) | (go_at_call 9; (with_reducible refine (G2.out _).mono ?_); rintro e wc ⟨rfl, hb⟩; clear hro hrw; replace hq := (hq.trans (hb.mono hq.size)).alloc (Nat.le_trans hq.size hb.size) (.cells #[.int .i64 h.cl, .int .i64 h.lb, .int .i64 h.nx, .int .i64 h.hp, .bool h.sv, .int .u64 h.sh, .int .u64 h.sl, .bool h.dv, .int .u64 h.dh, .int .u64 h.dl] 31); replace hH := (HasB.below hH hb hH.lt).alloc (.cells #[.int .i64 h.cl, .int .i64 h.lb, .int .i64 h.nx, .int .i64 h.hp, .bool h.sv, .int .u64 h.sh, .int .u64 h.sl, .bool h.dv, .int .u64 h.dh, .int .u64 h.dl] 31); have hX := HasB.new wc 31 #[.int .i64 h.cl, .int .i64 h.lb, .int .i64 h.nx, .int .i64 h.hp, .bool h.sv, .int .u64 h.sh, .int .u64 h.sl, .bool h.dv, .int .u64 h.dh, .int .u64 h.dl]; clear hb) | fail)
  all_goals
    have HX : Hid (Held2 w.heap.size w.heap.size 26 #[.int .i64 h.cl, .int .i64 h.lb, .int .i64 h.nx, .int .i64 h.hp, .bool h.sv, .int .u64 h.sh, .int .u64 h.sl, .bool h.dv, .int .u64 h.dh, .int .u64 h.dl] wc.heap.size 31 #[.int .i64 h.cl, .int .i64 h.lb, .int .i64 h.nx, .int .i64 h.hp, .bool h.sv, .int .u64 h.sh, .int .u64 h.sl, .bool h.dv, .int .u64 h.dh, .int .u64 h.dl] w _) := Lib.hid (Held2.drew ⟨hH, hX, hq, hq.size⟩)
    clear hH hX hq
    go_region_held3 (fun w' => w'.cell? ⟨w.heap.size, 0, none⟩ = some (.int .i64 h.cl) ∧ w'.cell? ⟨w.heap.size, 1, none⟩ = some (.int .i64 h.lb) ∧ w'.cell? ⟨w.heap.size, 2, none⟩ = some (.int .i64 h.nx) ∧ w'.cell? ⟨w.heap.size, 3, none⟩ = some (.int .i64 h.hp) ∧ w'.cell? ⟨w.heap.size, 4, none⟩ = some (.bool h.sv) ∧ w'.cell? ⟨w.heap.size, 5, none⟩ = some (.int .u64 h.sh) ∧ w'.cell? ⟨w.heap.size, 6, none⟩ = some (.int .u64 h.sl) ∧ w'.cell? ⟨w.heap.size, 7, none⟩ = some (.bool h.dv) ∧ w'.cell? ⟨w.heap.size, 8, none⟩ = some (.int .u64 h.dh) ∧ w'.cell? ⟨w.heap.size, 9, none⟩ = some (.int .u64 h.dl) ∧ w'.cell? ⟨wc.heap.size, 0, none⟩ = some (.int .i64 h.cl) ∧ w'.cell? ⟨wc.heap.size, 1, none⟩ = some (.int .i64 h.lb) ∧ w'.cell? ⟨wc.heap.size, 2, none⟩ = some (.int .i64 h.nx) ∧ w'.cell? ⟨wc.heap.size, 3, none⟩ = some (.int .i64 h.hp) ∧ w'.cell? ⟨wc.heap.size, 4, none⟩ = some (.bool h.sv) ∧ w'.cell? ⟨wc.heap.size, 5, none⟩ = some (.int .u64 h.sh) ∧ w'.cell? ⟨wc.heap.size, 6, none⟩ = some (.int .u64 h.sl) ∧ w'.cell? ⟨wc.heap.size, 7, none⟩ = some (.bool h.dv) ∧ w'.cell? ⟨wc.heap.size, 8, none⟩ = some (.int .u64 h.dh) ∧ w'.cell? ⟨wc.heap.size, 9, none⟩ = some (.int .u64 h.dl)) (exact HX.out.cells10) (first | (go_at_call 11; (with_reducible refine (back6_any h _).mono ?_); rintro e wd ⟨rfl, hb⟩; replace HX := Lib.hid (HX.out.next hb); clear hb))
    have hq := HX.out.2.2.1
    clear HX
    go_wp2_with (first | (go_at_call 9; (with_reducible refine (G3.out _).mono ?_); rintro e we ⟨rfl, hb⟩; replace hq := (hq.trans (hb.mono hq.size)).alloc (Nat.le_trans hq.size hb.size) (.cells #[.int .i64 g3.cl, .int .i64 g3.lb, .int .i64 g3.nx, .int .i64 g3.hp, .bool g3.sv, .int .u64 g3.sh, .int .u64 g3.sl, .bool g3.dv, .int .u64 g3.dh, .int .u64 g3.dl] 31); clear hb) | (go_at_call 5; (with_reducible refine (awake06 _).mono ?_); rintro e wz ⟨rfl, hb⟩; replace hq := hq.trans (hb.mono hq.size); clear hb) | fail)
    go_ret
    exact ⟨rfl, hq⟩
theorem ipsixBack_walk (a : Array Value) (p m s : ByteArray) (k : Int) (w1 : p.size ≤ maxLen) (w2 : m.size ≤ maxLen) (w3 : s.size ≤ maxLen) (w4 : (Lit.int .u16 k).wf = true) (w : World) (fa : Fits w (.two (.int .i64) (.two (.int .i64) (.two (.int .i64) (.two (.int .i64) (.two (.two .bool (.two (.int .u64) (.two (.int .u64) .nil))) (.two (.two .bool (.two (.int .u64) (.two (.int .u64) .nil))) .nil)))))) (Value.agg a).cells.toList) :
    Calls Try.prog 4 #[.agg a, .string p, .string m, .string s, .int .u16 k] w fun e w' => e = .returned (.bool true) ∧ Below w.heap.size w w' := by
  obtain ⟨h, rfl, hbd⟩ := fits6 fa
  clear fa
  have hk := bounds_u16 w4
  have hq : Below w.heap.size w (w.alloc (.cells #[.int .i64 h.cl, .int .i64 h.lb, .int .i64 h.nx, .int .i64 h.hp, .bool h.sv, .int .u64 h.sh, .int .u64 h.sl, .bool h.dv, .int .u64 h.dh, .int .u64 h.dl] 26)) := (Below.refl _ _).alloc (Nat.le_refl _) _
  by_cases hp : 200 < p.size
  · have hpi : (200 : Int) < p.size := by omega
    go_enter Try.func4, Try.ntmps4
    go_wp2_with (first | (go_at_call 5; refine (awake06 _).mono ?_; rintro e w1 ⟨rfl, hb1⟩; replace hq := hq.trans (hb1.mono hq.size)) | fail)
    go_ret
    exact ⟨rfl, hq⟩
  by_cases hm : 200 < m.size
  · have hpi : ¬ (200 : Int) < p.size := by omega
    have hmi : (200 : Int) < m.size := by omega
    go_enter Try.func4, Try.ntmps4
    go_wp2_with (first | (go_at_call 5; refine (awake06 _).mono ?_; rintro e w1 ⟨rfl, hb1⟩; replace hq := hq.trans (hb1.mono hq.size)) | fail)
    go_ret
    exact ⟨rfl, hq⟩
  by_cases hs : 200 < s.size
  · have hpi : ¬ (200 : Int) < p.size := by omega
    have hmi : ¬ (200 : Int) < m.size := by omega
    have hsi : (200 : Int) < s.size := by omega
    go_enter Try.func4, Try.ntmps4
    go_wp2_with (first | (go_at_call 5; refine (awake06 _).mono ?_; rintro e w1 ⟨rfl, hb1⟩; replace hq := hq.trans (hb1.mono hq.size)) | fail)
    go_ret
    exact ⟨rfl, hq⟩
  clear hq
  have hk2 : 0 ≤ k ∧ k < 65536 := by omega
  by_cases hn : errG6 s = 0
  · by_cases he : err6 h p = 0
    · exact back_read_ok h p m s k hk2 hbd hp hm hs hn he w
    · exact back_read_no h p m s k hbd hp hm hs hn he w
  · by_cases he : err6 h p = 0
    · exact back_bare_ok h p m s k hk2 hbd hp hm hs hn he w
    · exact back_bare_no h p m s k hbd hp hm hs hn he w
end Go.Proofs.Ytnlinfdfgalmjaa
