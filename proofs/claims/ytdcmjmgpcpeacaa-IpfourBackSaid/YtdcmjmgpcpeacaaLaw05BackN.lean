/- The law of ipfour without the reference: the walk, where something is read ahead and nothing is written. -/
import Derived.Test.YtdcmjmgpcpeacaaLaw05Back
namespace Go.Proofs.Ytdcmjmgpcpeacaa
open Go.RowKit Go.WideShapes
set_option linter.unusedVariables false
attribute [local go_sem ↓] ld53 st53 ld31 st31 ld26 st26
attribute [local go_sem] rowAt_p rowOkAt_p setAt_p aggOf_a rowOk_new rowOf_new setRow_new agg17 agg12
attribute [local go_sem ↓] Go.wp_at_zero Go.wp_at_succ

set_option maxRecDepth 100000 in
set_option maxHeartbeats 2000000 in
theorem back_read_no (h : Hd) (p m s : ByteArray) (k : Int) (hbd : HBd h) (ho : ¬ 60 < h.op.size) (hp : ¬ 200 < p.size) (hm : ¬ 200 < m.size) (hs : ¬ 200 < s.size) (hn : errG s = 0) (he : errP h p ≠ 0) (w : World) :
    Calls Try.prog 4 #[.agg #[.int .i64 h.cl, .int .i64 h.id, .bool h.wh, .int .i64 h.tt, .int .i64 h.pr, .bool h.sv, .int .u64 h.sh, .int .u64 h.sl, .bool h.dv, .int .u64 h.dh, .int .u64 h.dl, .string h.op], .string p, .string m, .string s, .int .u8 k] w fun e w' => e = .returned (.bool true) ∧ Below w.heap.size w w' := by
  have hq : Below w.heap.size w (w.alloc (.cells #[.int .i64 h.cl, .int .i64 h.id, .bool h.wh, .int .i64 h.tt, .int .i64 h.pr, .bool h.sv, .int .u64 h.sh, .int .u64 h.sl, .bool h.dv, .int .u64 h.dh, .int .u64 h.dl, .string h.op] 26)) := (Below.refl _ _).alloc (Nat.le_refl _) _
  have hH := HasB.new w 26 #[.int .i64 h.cl, .int .i64 h.id, .bool h.wh, .int .i64 h.tt, .int .i64 h.pr, .bool h.sv, .int .u64 h.sh, .int .u64 h.sl, .bool h.dv, .int .u64 h.dh, .int .u64 h.dl, .string h.op]
  have hoi : ¬ (60 : Int) < h.op.size := by omega
  have hpi : ¬ (200 : Int) < p.size := by omega
  have hmi : ¬ (200 : Int) < m.size := by omega
  have hsi : ¬ (200 : Int) < s.size := by omega
  have P1 := Lib.hid (put4_any h p hbd.b0 hbd.d0 (by omega))
  have x1 : (errP h p != 0) = true := by simpa using he
  have HO : outP h p = ⟨#[]⟩ := if_neg he
  rw [HO] at P1
  generalize errP h p = E at P1 x1
  obtain ⟨f1, f2, f3, f4, f5⟩ := fwd_same hn
  have f6 := (errP_ok f1).2
  have eh : headG s = rawG s := if_pos hn
  have PX := Lib.hid (put4_any (headG s) (payG s) (by rw [eh]; exact Int.natCast_nonneg _) (by rw [eh]; exact Int.natCast_nonneg _) (by omega))
  rw [f1] at PX
  have G1 := Lib.hid (get4_any s (by omega))
  rw [hn] at G1
  have SM := Lib.hid (same5_any (outP (headG s) (payG s)) s (by omega) f3 f2 f4 f5)
  have z1 : ¬ ((s.size : Int) < (outP (headG s) (payG s)).size) := by omega
  have z2 : ((outP (headG s) (payG s)).size : Int) ≤ s.size := by omega
  clear eh f1 f2 f3 f4 f5 f6
  generalize outP (headG s) (payG s) = T1 at *
  generalize headG s = g at *
  generalize payG s = y at *
  clear hbd ho hp hm hs hn he HO
  go_enter Try.func4, Try.ntmps4
  go_wp2_with (first | (go_at_call 9; (with_reducible refine (G1.out _).mono ?_); rintro e wx ⟨rfl, hb⟩; replace hq := (hq.trans (hb.mono hq.size)).alloc (Nat.le_trans hq.size hb.size) (.cells #[.int .i64 g.cl, .int .i64 g.id, .bool g.wh, .int .i64 g.tt, .int .i64 g.pr, .bool g.sv, .int .u64 g.sh, .int .u64 g.sl, .bool g.dv, .int .u64 g.dh, .int .u64 g.dl, .string g.op] 31); replace hH := (HasB.below hH hb hH.lt).alloc (.cells #[.int .i64 g.cl, .int .i64 g.id, .bool g.wh, .int .i64 g.tt, .int .i64 g.pr, .bool g.sv, .int .u64 g.sh, .int .u64 g.sl, .bool g.dv, .int .u64 g.dh, .int .u64 g.dl, .string g.op] 31); clear hb; obtain ⟨c0, c1, c2, c3, c4, c5, c6, c7, c8, c9, c10, c11⟩ := cells12 hH) | (go_at_call 6; (with_reducible refine (PX.out _).mono ?_); rintro e wa ⟨rfl, hb⟩; clear c0 c1 c2 c3 c4 c5 c6 c7 c8 c9 c10 c11; replace hq := hq.trans (hb.mono hq.size); replace hH := HasB.below hH hb hH.lt; clear hb; obtain ⟨c0, c1, c2, c3, c4, c5, c6, c7, c8, c9, c10, c11⟩ := cells12 hH) | (go_at_call 14; (with_reducible refine (SM.out _).mono ?_); rintro e wa ⟨rfl, hb⟩; clear c0 c1 c2 c3 c4 c5 c6 c7 c8 c9 c10 c11; replace hq := hq.trans (hb.mono hq.size); replace hH := HasB.below hH hb hH.lt; clear hb; obtain ⟨c0, c1, c2, c3, c4, c5, c6, c7, c8, c9, c10, c11⟩ := cells12 hH) | (go_at_call 7; (with_reducible refine (of5_any h _).mono ?_); rintro e wb ⟨rfl, hb⟩; clear c0 c1 c2 c3 c4 c5 c6 c7 c8 c9 c10 c11; replace hq := hq.trans (hb.mono hq.size); replace hH := HasB.below hH hb hH.lt; clear hb) | (go_at_call 6; (with_reducible refine (P1.out _).mono ?_); rintro e wa ⟨rfl, hb⟩; replace hq := hq.trans (hb.mono hq.size); replace hH := HasB.below hH hb hH.lt; clear hb; obtain ⟨c0, c1, c2, c3, c4, c5, c6, c7, c8, c9, c10, c11⟩ := cells12 hH) | (go_at_call 5; (with_reducible refine (awake05 _).mono ?_); rintro e wz ⟨rfl, hb⟩; replace hq := hq.trans (hb.mono hq.size); clear hb) | fail)
  all_goals
    go_ret
    exact ⟨rfl, hq⟩
end Go.Proofs.Ytdcmjmgpcpeacaa
