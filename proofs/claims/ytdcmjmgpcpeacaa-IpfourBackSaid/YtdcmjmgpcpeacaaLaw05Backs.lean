/- The law of ipfour without the reference: the walk, whatever is handed in. -/
import Derived.Test.YtdcmjmgpcpeacaaLaw05BackN
import Derived.Test.YtdcmjmgpcpeacaaLaw05BackO
namespace Go.Proofs.Ytdcmjmgpcpeacaa
open Go.RowKit Go.WideShapes
set_option linter.unusedVariables false

theorem ipfourBack_walk (a : Array Value) (p m s : ByteArray) (k : Int) (w1 : p.size ≤ maxLen) (w2 : m.size ≤ maxLen) (w3 : s.size ≤ maxLen) (w4 : (Lit.int .u8 k).wf = true) (w : World) (fa : Fits w (.two (.int .i64) (.two (.int .i64) (.two .bool (.two (.int .i64) (.two (.int .i64) (.two (.two .bool (.two (.int .u64) (.two (.int .u64) .nil))) (.two (.two .bool (.two (.int .u64) (.two (.int .u64) .nil))) (.two .str .nil)))))))) (Value.agg a).cells.toList) :
    Calls Try.prog 4 #[.agg a, .string p, .string m, .string s, .int .u8 k] w fun e w' => e = .returned (.bool true) ∧ Below w.heap.size w w' := by
  obtain ⟨h, rfl, hbd⟩ := fits_head fa
  clear fa
  have hk := bounds_u8 w4
  have hq : Below w.heap.size w (w.alloc (.cells #[.int .i64 h.cl, .int .i64 h.id, .bool h.wh, .int .i64 h.tt, .int .i64 h.pr, .bool h.sv, .int .u64 h.sh, .int .u64 h.sl, .bool h.dv, .int .u64 h.dh, .int .u64 h.dl, .string h.op] 26)) := (Below.refl _ _).alloc (Nat.le_refl _) _
  have hH := HasB.new w 26 #[.int .i64 h.cl, .int .i64 h.id, .bool h.wh, .int .i64 h.tt, .int .i64 h.pr, .bool h.sv, .int .u64 h.sh, .int .u64 h.sl, .bool h.dv, .int .u64 h.dh, .int .u64 h.dl, .string h.op]
  by_cases ho : 60 < h.op.size
  · have hoi : (60 : Int) < h.op.size := by omega
    go_enter Try.func4, Try.ntmps4
    go_wp2_with (first | (go_at_call 5; refine (awake05 _).mono ?_; rintro e w1 ⟨rfl, hb1⟩; replace hq := hq.trans (hb1.mono hq.size)) | fail)
    go_ret
    exact ⟨rfl, hq⟩
  by_cases hp : 200 < p.size
  · have hoi : ¬ (60 : Int) < h.op.size := by omega
    have hpi : (200 : Int) < p.size := by omega
    go_enter Try.func4, Try.ntmps4
    go_wp2_with (first | (go_at_call 5; refine (awake05 _).mono ?_; rintro e w1 ⟨rfl, hb1⟩; replace hq := hq.trans (hb1.mono hq.size)) | fail)
    go_ret
    exact ⟨rfl, hq⟩
  by_cases hm : 200 < m.size
  · have hoi : ¬ (60 : Int) < h.op.size := by omega
    have hpi : ¬ (200 : Int) < p.size := by omega
    have hmi : (200 : Int) < m.size := by omega
    go_enter Try.func4, Try.ntmps4
    go_wp2_with (first | (go_at_call 5; refine (awake05 _).mono ?_; rintro e w1 ⟨rfl, hb1⟩; replace hq := hq.trans (hb1.mono hq.size)) | fail)
    go_ret
    exact ⟨rfl, hq⟩
  by_cases hs : 200 < s.size
  · have hoi : ¬ (60 : Int) < h.op.size := by omega
    have hpi : ¬ (200 : Int) < p.size := by omega
    have hmi : ¬ (200 : Int) < m.size := by omega
    have hsi : (200 : Int) < s.size := by omega
    go_enter Try.func4, Try.ntmps4
    go_wp2_with (first | (go_at_call 5; refine (awake05 _).mono ?_; rintro e w1 ⟨rfl, hb1⟩; replace hq := hq.trans (hb1.mono hq.size)) | fail)
    go_ret
    exact ⟨rfl, hq⟩
  clear hq hH
  have hk2 : 0 ≤ k ∧ k < 256 := by omega
  by_cases hn : errG s = 0
  · by_cases he : errP h p = 0
    · exact back_read_ok h p m s k hk2 hbd ho hp hm hs hn he w
    · exact back_read_no h p m s k hbd ho hp hm hs hn he w
  · by_cases he : errP h p = 0
    · exact back_bare_ok h p m s k hk2 hbd ho hp hm hs hn he w
    · exact back_bare_no h p m s k hbd ho hp hm hs hn he w
end Go.Proofs.Ytdcmjmgpcpeacaa
