/- The law of ipfour without the reference: the walk, where something is read ahead and something is written. -/
import Derived.Test.YtdcmjmgpcpeacaaLaw05Back
namespace Go.Proofs.Ytdcmjmgpcpeacaa
open Go.RowKit Go.WideShapes
set_option linter.unusedVariables false
attribute [local go_sem ↓] ld53 st53 ld31 st31 ld26 st26
attribute [local go_sem] rowAt_p rowOkAt_p setAt_p aggOf_a rowOk_new rowOf_new setRow_new agg17 agg12
attribute [local go_sem ↓] Go.wp_at_zero Go.wp_at_succ

set_option maxRecDepth 100000 in
set_option maxHeartbeats 4000000 in
theorem back_read_ok (h : Hd) (p m s : ByteArray) (k : Int) (hk : 0 ≤ k ∧ k < 256) (hbd : HBd h) (ho : ¬ 60 < h.op.size) (hp : ¬ 200 < p.size) (hm : ¬ 200 < m.size) (hs : ¬ 200 < s.size) (hn : errG s = 0) (he : errP h p = 0) (w : World) :
    Calls Try.prog 4 #[.agg #[.int .i64 h.cl, .int .i64 h.id, .bool h.wh, .int .i64 h.tt, .int .i64 h.pr, .bool h.sv, .int .u64 h.sh, .int .u64 h.sl, .bool h.dv, .int .u64 h.dh, .int .u64 h.dl, .string h.op], .string p, .string m, .string s, .int .u8 k] w fun e w' => e = .returned (.bool true) ∧ Below w.heap.size w w' := by
  have hq : Below w.heap.size w (w.alloc (.cells #[.int .i64 h.cl, .int .i64 h.id, .bool h.wh, .int .i64 h.tt, .int .i64 h.pr, .bool h.sv, .int .u64 h.sh, .int .u64 h.sl, .bool h.dv, .int .u64 h.dh, .int .u64 h.dl, .string h.op] 26)) := (Below.refl _ _).alloc (Nat.le_refl _) _
  have hH := HasB.new w 26 #[.int .i64 h.cl, .int .i64 h.id, .bool h.wh, .int .i64 h.tt, .int .i64 h.pr, .bool h.sv, .int .u64 h.sh, .int .u64 h.sl, .bool h.dv, .int .u64 h.dh, .int .u64 h.dl, .string h.op]
  have hoi : ¬ (60 : Int) < h.op.size := by omega
  have hpi : ¬ (200 : Int) < p.size := by omega
  have hmi : ¬ (200 : Int) < m.size := by omega
  have hsi : ¬ (200 : Int) < s.size := by omega
  obtain ⟨f1, f2, f3, f4, f5⟩ := fwd_same hn
  have f6 := (errP_ok f1).2
  have eh : headG s = rawG s := if_pos hn
  have PX := Lib.hid (put4_any (headG s) (payG s) (by rw [eh]; exact Int.natCast_nonneg _) (by rw [eh]; exact Int.natCast_nonneg _) (by omega))
  rw [f1] at PX
  have G1 := Lib.hid (get4_any s (by omega))
  rw [hn] at G1
  have SM := Lib.hid (same5_any (outP (headG s) (payG s)) s (by omega) f3 f2 f4 f5)
  have z1 : ¬ ((s.size : Int) < (outP (headG s) (payG s)).size) := by omega
  have z2 : ((outP (headG s) (payG s)).size : Int) ≤ s.size := by omega
  clear eh f1 f2 f3 f4 f5 f6
  generalize outP (headG s) (payG s) = T1 at *
  generalize headG s = g at *
  generalize payG s = y at *
  obtain ⟨b1, b2, b3, b4, b5⟩ := back_ok he hbd.b0 hbd.d0 m
  have P1 := Lib.hid (put4_any h p hbd.b0 hbd.d0 (by omega))
  have G2 := Lib.hid (get4_any (outP h p ++ m) (by rw [ByteArray.size_append]; omega))
  rw [b3, b4, b5] at G2
  rw [he] at P1
  have v7 := (valid_is (errP_ok he).1).2.2.2.2.2.2.1
  have HF := Lib.hid (fun j mm b hj hj2 hmm hb sS hS => flip_told he hbd.b0 hbd.d0 j mm b hj hj2 hmm hb sS hS)
  obtain ⟨K, k1, k2, k3⟩ := place8 k (20 + (h.op.size : Int)) (by omega) (by omega)
  have hK := Lib.hid k3
  generalize outP h p = T at *
  have t1 : ¬ ((T.size : Int) < 20) := by omega
  have t2 : (T.size : Int) - p.size = 20 + (h.op.size : Int) := by omega
  have t3 : (9223372036854775807 < T.size + m.size) = False := eq_false (by omega)
  have B1 := Lib.hid b1
  have B2 : T.size ≤ 300 := by omega
  have k4 : K < 8 * T.size := by omega
  clear hbd ho hp hm hs hn he b1 b2 b3 b4 b5 k3
  go_enter Try.func4, Try.ntmps4
  go_wp2_with (first | (go_at_call 9; (with_reducible refine (G1.out _).mono ?_); rintro e wx ⟨rfl, hb⟩; replace hq := (hq.trans (hb.mono hq.size)).alloc (Nat.le_trans hq.size hb.size) (.cells #[.int .i64 g.cl, .int .i64 g.id, .bool g.wh, .int .i64 g.tt, .int .i64 g.pr, .bool g.sv, .int .u64 g.sh, .int .u64 g.sl, .bool g.dv, .int .u64 g.dh, .int .u64 g.dl, .string g.op] 31); replace hH := (HasB.below hH hb hH.lt).alloc (.cells #[.int .i64 g.cl, .int .i64 g.id, .bool g.wh, .int .i64 g.tt, .int .i64 g.pr, .bool g.sv, .int .u64 g.sh, .int .u64 g.sl, .bool g.dv, .int .u64 g.dh, .int .u64 g.dl, .string g.op] 31); clear hb; obtain ⟨c0, c1, c2, c3, c4, c5, c6, c7, c8, c9, c10, c11⟩ := cells12 hH) | (go_at_call 6; (with_reducible refine (PX.out _).mono ?_); rintro e wa ⟨rfl, hb⟩; clear c0 c1 c2 c3 c4 c5 c6 c7 c8 c9 c10 c11; replace hq := hq.trans (hb.mono hq.size); replace hH := HasB.below hH hb hH.lt; clear hb; obtain ⟨c0, c1, c2, c3, c4, c5, c6, c7, c8, c9, c10, c11⟩ := cells12 hH) | (go_at_call 14; (with_reducible refine (SM.out _).mono ?_); rintro e wa ⟨rfl, hb⟩; clear c0 c1 c2 c3 c4 c5 c6 c7 c8 c9 c10 c11; replace hq := hq.trans (hb.mono hq.size); replace hH := HasB.below hH hb hH.lt; clear hb; obtain ⟨c0, c1, c2, c3, c4, c5, c6, c7, c8, c9, c10, c11⟩ := cells12 hH) | (go_at_call 7; (with_reducible refine (of5_any h _).mono ?_); rintro e wb ⟨rfl, hb⟩; clear c0 c1 c2 c3 c4 c5 c6 c7 c8 c9 c10 c11; replace hq := hq.trans (hb.mono hq.size); replace hH := HasB.below hH hb hH.lt; clear hb) | (go_at_call 6; (with_reducible refine (P1.out _).mono ?_); rintro e wa ⟨rfl, hb⟩; replace hq := hq.trans (hb.mono hq.size); replace hH := HasB.below hH hb hH.lt; clear hb; obtain ⟨c0, c1, c2, c3, c4, c5, c6, c7, c8, c9, c10, c11⟩ := cells12 hH) | (go_at_call 9; (with_reducible refine (G2.out _).mono ?_); rintro e wc ⟨rfl, hb⟩; clear c0 c1 c2 c3 c4 c5 c6 c7 c8 c9 c10 c11; replace hq := (hq.trans (hb.mono hq.size)).alloc (Nat.le_trans hq.size hb.size) (.cells #[.int .i64 h.cl, .int .i64 h.id, .bool h.wh, .int .i64 h.tt, .int .i64 h.pr, .bool h.sv, .int .u64 h.sh, .int .u64 h.sl, .bool h.dv, .int .u64 h.dh, .int .u64 h.dl, .string h.op] 31); replace hH := (HasB.below hH hb hH.lt).alloc (.cells #[.int .i64 h.cl, .int .i64 h.id, .bool h.wh, .int .i64 h.tt, .int .i64 h.pr, .bool h.sv, .int .u64 h.sh, .int .u64 h.sl, .bool h.dv, .int .u64 h.dh, .int .u64 h.dl, .string h.op] 31); have hX := HasB.new wc 31 #[.int .i64 h.cl, .int .i64 h.id, .bool h.wh, .int .i64 h.tt, .int .i64 h.pr, .bool h.sv, .int .u64 h.sh, .int .u64 h.sl, .bool h.dv, .int .u64 h.dh, .int .u64 h.dl, .string h.op]; clear hb) | fail)
  all_goals
    have HX : Hid (Held2 w.heap.size w.heap.size 26 #[.int .i64 h.cl, .int .i64 h.id, .bool h.wh, .int .i64 h.tt, .int .i64 h.pr, .bool h.sv, .int .u64 h.sh, .int .u64 h.sl, .bool h.dv, .int .u64 h.dh, .int .u64 h.dl, .string h.op] wc.heap.size 31 #[.int .i64 h.cl, .int .i64 h.id, .bool h.wh, .int .i64 h.tt, .int .i64 h.pr, .bool h.sv, .int .u64 h.sh, .int .u64 h.sl, .bool h.dv, .int .u64 h.dh, .int .u64 h.dl, .string h.op] w _) := Lib.hid (Held2.drew ⟨hH, hX, hq, hq.size⟩)
    clear hH hX hq
    go_region_held3 (fun w' => w'.cell? ⟨w.heap.size, 0, none⟩ = some (.int .i64 h.cl) ∧ w'.cell? ⟨w.heap.size, 1, none⟩ = some (.int .i64 h.id) ∧ w'.cell? ⟨w.heap.size, 2, none⟩ = some (.bool h.wh) ∧ w'.cell? ⟨w.heap.size, 3, none⟩ = some (.int .i64 h.tt) ∧ w'.cell? ⟨w.heap.size, 4, none⟩ = some (.int .i64 h.pr) ∧ w'.cell? ⟨w.heap.size, 5, none⟩ = some (.bool h.sv) ∧ w'.cell? ⟨w.heap.size, 6, none⟩ = some (.int .u64 h.sh) ∧ w'.cell? ⟨w.heap.size, 7, none⟩ = some (.int .u64 h.sl) ∧ w'.cell? ⟨w.heap.size, 8, none⟩ = some (.bool h.dv) ∧ w'.cell? ⟨w.heap.size, 9, none⟩ = some (.int .u64 h.dh) ∧ w'.cell? ⟨w.heap.size, 10, none⟩ = some (.int .u64 h.dl) ∧ w'.cell? ⟨w.heap.size, 11, none⟩ = some (.string h.op) ∧ w'.cell? ⟨wc.heap.size, 0, none⟩ = some (.int .i64 h.cl) ∧ w'.cell? ⟨wc.heap.size, 1, none⟩ = some (.int .i64 h.id) ∧ w'.cell? ⟨wc.heap.size, 2, none⟩ = some (.bool h.wh) ∧ w'.cell? ⟨wc.heap.size, 3, none⟩ = some (.int .i64 h.tt) ∧ w'.cell? ⟨wc.heap.size, 4, none⟩ = some (.int .i64 h.pr) ∧ w'.cell? ⟨wc.heap.size, 5, none⟩ = some (.bool h.sv) ∧ w'.cell? ⟨wc.heap.size, 6, none⟩ = some (.int .u64 h.sh) ∧ w'.cell? ⟨wc.heap.size, 7, none⟩ = some (.int .u64 h.sl) ∧ w'.cell? ⟨wc.heap.size, 8, none⟩ = some (.bool h.dv) ∧ w'.cell? ⟨wc.heap.size, 9, none⟩ = some (.int .u64 h.dh) ∧ w'.cell? ⟨wc.heap.size, 10, none⟩ = some (.int .u64 h.dl) ∧ w'.cell? ⟨wc.heap.size, 11, none⟩ = some (.string h.op)) (exact cells24 HX.out.1 HX.out.2.1) (first | (go_at_call 11; (with_reducible refine (back5_any h _).mono ?_); rintro e wd ⟨rfl, hb⟩; replace HX := Lib.hid (HX.out.next hb); clear hb))
    have hq := HX.out.2.2.1
    have hq0 := HX.out.2.2.2
    clear HX
    have hcv2 := 0
    have hcv := fun W => run_bytes_of_string (P := Try.prog) W 9 42 5 T (by kernel_rfl) (by kernel_rfl) (by kernel_rfl)
    clear hcv2
    go_wp2_with fail
    rw [hK.out]
    have HB : Hid ((wd.alloc (.cells (bytesRow T (grownCap wd T.size 0 5)) 5 ((bytesRow T (grownCap wd T.size 0 5)).size, (bytesRow T (grownCap wd T.size 0 5)).size + 1))).drew.heap[wd.heap.size]? = some (.cells (bytesRow T (grownCap wd T.size 0 5)) 5 ((bytesRow T (grownCap wd T.size 0 5)).size, (bytesRow T (grownCap wd T.size 0 5)).size + 1))) := Lib.hid (heap_alloc_new wd _)
    replace hq := (hq.alloc (Nat.le_trans (Nat.le_refl _) hq.size) (.cells (bytesRow T (grownCap wd T.size 0 5)) 5 ((bytesRow T (grownCap wd T.size 0 5)).size, (bytesRow T (grownCap wd T.size 0 5)).size + 1))).drew
    have hwd : w.heap.size ≤ wd.heap.size := hq0
    revert HB hq
    generalize grownCap wd T.size 0 5 = cap
    generalize (World.alloc wd _).drew = X
    intro HB hq
    have c := bytes_cell HB.out (K / 8) (by omega)
    have f := bytes_free HB.out (K / 8) (by omega)
    have i1 : ((K : Int) / 8) < T.size := by omega
    have G3 := Lib.hid (get4_any (flipS T K) (by rw [flipS_size]; omega))
    have hne : errG (flipS T K) ≠ 0 := HF.out (K / 8) (K % 8) _ (by omega) (by omega) (by omega) (flip_byte T K) (flipS T K) (by simp [flipS])
    have x3 : (errG (flipS T K) != 0) = true := by simpa using hne
    clear hne HF
    generalize errG (flipS T K) = E3 at G3 x3
    generalize headG (flipS T K) = g3 at G3
    generalize payG (flipS T K) = y3 at G3
    go_region
    all_goals
      rw [xor_turn (bt T (K / 8)) (K % 8) (bt_lt _ _) (by omega)]
      have hcv3 := turned_conv X wd.heap.size cap K T _ HB.out (by omega)
      replace hq := (Below.setCell (p := ⟨wd.heap.size, K / 8, none⟩) hq hwd (.int .u8 ((bt T (K / 8) ^^^ 2 ^ (K % 8) : Nat) : Int))).drew
      clear hcv c f HB
      revert hcv3 hq
      generalize (World.setCell X _ _).drew = Z
      intro hcv3 hq
      go_wp2_with (first | (go_at_call 9; (with_reducible refine (G3.out _).mono ?_); rintro e we ⟨rfl, hb⟩; replace hq := (hq.trans (hb.mono hq.size)).alloc (Nat.le_trans hq.size hb.size) (.cells #[.int .i64 g3.cl, .int .i64 g3.id, .bool g3.wh, .int .i64 g3.tt, .int .i64 g3.pr, .bool g3.sv, .int .u64 g3.sh, .int .u64 g3.sl, .bool g3.dv, .int .u64 g3.dh, .int .u64 g3.dl, .string g3.op] 31); clear hb) | (go_at_call 5; (with_reducible refine (awake05 _).mono ?_); rintro e wz ⟨rfl, hb⟩; replace hq := hq.trans (hb.mono hq.size); clear hb) | fail)
      go_ret
      exact ⟨rfl, hq⟩
end Go.Proofs.Ytdcmjmgpcpeacaa
