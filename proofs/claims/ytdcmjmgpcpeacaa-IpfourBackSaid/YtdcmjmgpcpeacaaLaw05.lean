/- The law of ipfour against the reference: the walk. -/
import Derived.Test.YtdcmjmgpcpeacaaRef05Read
import Derived.Test.YtdcmjmgpcpeacaaShapes
import Derived.OpenShut
namespace Go.Proofs.Ytdcmjmgpcpeacaa
open Go.RowKit Go.WideShapes
set_option linter.unusedVariables false
attribute [local go_sem ↓] ld53 st53 ld31 st31 ld26 st26
attribute [local go_sem] rowAt_p rowOkAt_p setAt_p aggOf_a rowOk_new rowOf_new setRow_new agg17 agg12
attribute [local go_sem ↓] Go.wp_at_zero Go.wp_at_succ

theorem of5_any (h : Hd) (w : World) :
    Calls Try.prog 7 #[.agg #[.int .i64 h.cl, .int .i64 h.id, .bool h.wh, .int .i64 h.tt, .int .i64 h.pr, .bool h.sv, .int .u64 h.sh, .int .u64 h.sl, .bool h.dv, .int .u64 h.dh, .int .u64 h.dl, .string h.op]] w fun e w' => e = .returned (.agg #[.int .i64 h.cl, .int .i64 h.id, .bool h.wh, .int .i64 h.tt, .int .i64 h.pr, .bool h.sv, .int .u64 h.sh, .int .u64 h.sl, .bool h.dv, .int .u64 h.dh, .int .u64 h.dl, .string h.op]) ∧ Below w.heap.size w w' := by
  have HW := HasB.new (w.alloc (.cells #[.int .i64 h.cl, .int .i64 h.id, .bool h.wh, .int .i64 h.tt, .int .i64 h.pr, .bool h.sv, .int .u64 h.sh, .int .u64 h.sl, .bool h.dv, .int .u64 h.dh, .int .u64 h.dl, .string h.op] 26)) 31 #[.int .i64 h.cl, .int .i64 h.id, .bool h.wh, .int .i64 h.tt, .int .i64 h.pr, .bool h.sv, .int .u64 h.sh, .int .u64 h.sl, .bool h.dv, .int .u64 h.dh, .int .u64 h.dl, .string h.op]
  rw [World.size_alloc] at HW
  have HL : Below w.heap.size w ((w.alloc (.cells #[.int .i64 h.cl, .int .i64 h.id, .bool h.wh, .int .i64 h.tt, .int .i64 h.pr, .bool h.sv, .int .u64 h.sh, .int .u64 h.sl, .bool h.dv, .int .u64 h.dh, .int .u64 h.dl, .string h.op] 26)).alloc (.cells #[.int .i64 h.cl, .int .i64 h.id, .bool h.wh, .int .i64 h.tt, .int .i64 h.pr, .bool h.sv, .int .u64 h.sh, .int .u64 h.sl, .bool h.dv, .int .u64 h.dh, .int .u64 h.dl, .string h.op] 31)) := ((Below.refl _ _).alloc (Nat.le_refl _) _).alloc (by simp) _
  go_enter Try.func7, Try.ntmps7
  go_wp2_with fail
  try simp only [Exit.inBlock, Exit.then]
  refine bodyPost_ret (v := .agg #[.int .i64 h.cl, .int .i64 h.id, .bool h.wh, .int .i64 h.tt, .int .i64 h.pr, .bool h.sv, .int .u64 h.sh, .int .u64 h.sl, .bool h.dv, .int .u64 h.dh, .int .u64 h.dl, .string h.op]) (results_cell_row Try.results7 _ _ (w.heap.size + 1) _ _ _ _ rfl HW Try.underlying31 rfl info31) rfl ⟨rfl, HL⟩
theorem back5_any (h : Hd) (w : World) :
    Calls Try.prog 11 #[.agg #[.int .i64 h.cl, .int .i64 h.id, .bool h.wh, .int .i64 h.tt, .int .i64 h.pr, .bool h.sv, .int .u64 h.sh, .int .u64 h.sl, .bool h.dv, .int .u64 h.dh, .int .u64 h.dl, .string h.op]] w fun e w' => e = .returned (.agg #[.int .i64 h.cl, .int .i64 h.id, .bool h.wh, .int .i64 h.tt, .int .i64 h.pr, .bool h.sv, .int .u64 h.sh, .int .u64 h.sl, .bool h.dv, .int .u64 h.dh, .int .u64 h.dl, .string h.op]) ∧ Below w.heap.size w w' := by
  have HW := HasB.new (w.alloc (.cells #[.int .i64 h.cl, .int .i64 h.id, .bool h.wh, .int .i64 h.tt, .int .i64 h.pr, .bool h.sv, .int .u64 h.sh, .int .u64 h.sl, .bool h.dv, .int .u64 h.dh, .int .u64 h.dl, .string h.op] 31)) 26 #[.int .i64 h.cl, .int .i64 h.id, .bool h.wh, .int .i64 h.tt, .int .i64 h.pr, .bool h.sv, .int .u64 h.sh, .int .u64 h.sl, .bool h.dv, .int .u64 h.dh, .int .u64 h.dl, .string h.op]
  rw [World.size_alloc] at HW
  have HL : Below w.heap.size w ((w.alloc (.cells #[.int .i64 h.cl, .int .i64 h.id, .bool h.wh, .int .i64 h.tt, .int .i64 h.pr, .bool h.sv, .int .u64 h.sh, .int .u64 h.sl, .bool h.dv, .int .u64 h.dh, .int .u64 h.dl, .string h.op] 31)).alloc (.cells #[.int .i64 h.cl, .int .i64 h.id, .bool h.wh, .int .i64 h.tt, .int .i64 h.pr, .bool h.sv, .int .u64 h.sh, .int .u64 h.sl, .bool h.dv, .int .u64 h.dh, .int .u64 h.dl, .string h.op] 26)) := ((Below.refl _ _).alloc (Nat.le_refl _) _).alloc (by simp) _
  go_enter Try.func11, Try.ntmps11
  go_wp2_with fail
  try simp only [Exit.inBlock, Exit.then]
  refine bodyPost_ret (v := .agg #[.int .i64 h.cl, .int .i64 h.id, .bool h.wh, .int .i64 h.tt, .int .i64 h.pr, .bool h.sv, .int .u64 h.sh, .int .u64 h.sl, .bool h.dv, .int .u64 h.dh, .int .u64 h.dl, .string h.op]) (results_cell_row Try.results11 _ _ (w.heap.size + 1) _ _ _ _ rfl HW Try.underlying26 rfl info26) rfl ⟨rfl, HL⟩
def awk : Hd := ⟨0, 0, false, 64, 6, false, 0, 1, false, 0, 2, ⟨#[]⟩⟩
theorem awk_ok : errP awk ⟨#[]⟩ = 0 := by decide +kernel
theorem app_nil (s : ByteArray) : s ++ (⟨#[]⟩ : ByteArray) = s := by apply ext_eq; simp
theorem awkPut (w : World) : ∃ t : ByteArray, t.size = 20 ∧ bt t 0 = 69 ∧ errG t = 0 ∧ ∀ w, Calls Try.prog 6 #[.agg #[.int .i64 0, .int .i64 0, .bool false, .int .i64 64, .int .i64 6, .bool false, .int .u64 0, .int .u64 1, .bool false, .int .u64 0, .int .u64 2, .string ⟨#[]⟩], .string ⟨#[]⟩] w fun e w' => e = .returned (.tuple #[.string t, .int .i64 0]) ∧ Below w.heap.size w w' := by
  obtain ⟨h1, h2, h3, _⟩ := back_ok awk_ok (by decide) (by decide) ⟨#[]⟩
  rw [app_nil] at h3
  refine ⟨outP awk ⟨#[]⟩, h1, h2, h3, fun w => ?_⟩
  have h := put4_any awk ⟨#[]⟩ (by decide) (by decide) (by simp [ByteArray.size]) w
  rw [awk_ok] at h
  exact h
theorem awkNil (w : World) : Calls Try.prog 9 #[.string ⟨#[]⟩] w fun e w' => e = .returned (.tuple #[.agg #[.int .i64 (headG ⟨#[]⟩).cl, .int .i64 (headG ⟨#[]⟩).id, .bool (headG ⟨#[]⟩).wh, .int .i64 (headG ⟨#[]⟩).tt, .int .i64 (headG ⟨#[]⟩).pr, .bool (headG ⟨#[]⟩).sv, .int .u64 (headG ⟨#[]⟩).sh, .int .u64 (headG ⟨#[]⟩).sl, .bool (headG ⟨#[]⟩).dv, .int .u64 (headG ⟨#[]⟩).dh, .int .u64 (headG ⟨#[]⟩).dl, .string (headG ⟨#[]⟩).op], .string (payG ⟨#[]⟩), .int .i64 2]) ∧ Below w.heap.size w w' :=
  get4_any ⟨#[]⟩ (by simp [ByteArray.size]) w
theorem awake05 (w : World) : Calls Try.prog 5 #[] w fun e w' => e = .returned (.bool true) ∧ Below w.heap.size w w' := by
  obtain ⟨t, h1, h2, h3, hp⟩ := awkPut w
  have HP := Lib.hid hp
  have q0 := R05.bt_at t 0 (by omega)
  rw [h2] at q0
  have i0 : (0 : Int) < t.size := by omega
  have HG : Hid (∀ w, Calls Try.prog 9 #[.string t] w fun e w' => e = .returned (.tuple #[.agg #[.int .i64 (headG t).cl, .int .i64 (headG t).id, .bool (headG t).wh, .int .i64 (headG t).tt, .int .i64 (headG t).pr, .bool (headG t).sv, .int .u64 (headG t).sh, .int .u64 (headG t).sl, .bool (headG t).dv, .int .u64 (headG t).dh, .int .u64 (headG t).dl, .string (headG t).op], .string (payG t), .int .i64 0]) ∧ Below w.heap.size w w') := Lib.hid (fun w => by
    have h := get4_any t (by omega) w
    rw [h3] at h
    exact h)
  clear hp h2 h3
  generalize headG t = g at HG
  generalize payG t = y at HG
  have HN := Lib.hid awkNil
  generalize headG ⟨#[]⟩ = g2 at HN
  generalize payG ⟨#[]⟩ = y2 at HN
  have hq : Below w.heap.size w w := Below.refl _ _
  go_enter Try.func5, Try.ntmps5
  go_wp2_with (first | (go_at_call 6; (with_reducible refine (HP.out _).mono ?_); rintro e wa ⟨rfl, hb⟩; replace hq := hq.trans (hb.mono hq.size); clear hb) | (go_at_call 9; (with_reducible refine (HG.out _).mono ?_); rintro e wb ⟨rfl, hb⟩; replace hq := (hq.trans (hb.mono hq.size)).alloc (Nat.le_trans hq.size hb.size) (.cells #[.int .i64 g.cl, .int .i64 g.id, .bool g.wh, .int .i64 g.tt, .int .i64 g.pr, .bool g.sv, .int .u64 g.sh, .int .u64 g.sl, .bool g.dv, .int .u64 g.dh, .int .u64 g.dl, .string g.op] 31); clear hb) | (go_at_call 9; (with_reducible refine (HN.out _).mono ?_); rintro e wc ⟨rfl, hb⟩; replace hq := (hq.trans (hb.mono hq.size)).alloc (Nat.le_trans hq.size hb.size) (.cells #[.int .i64 g2.cl, .int .i64 g2.id, .bool g2.wh, .int .i64 g2.tt, .int .i64 g2.pr, .bool g2.sv, .int .u64 g2.sh, .int .u64 g2.sl, .bool g2.dv, .int .u64 g2.dh, .int .u64 g2.dl, .string g2.op] 31); clear hb) | fail)
  go_ret
  exact ⟨rfl, hq⟩
end Go.Proofs.Ytdcmjmgpcpeacaa
