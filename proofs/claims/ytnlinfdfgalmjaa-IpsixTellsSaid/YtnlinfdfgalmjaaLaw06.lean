/- The laws of ipsix: of, back, awake; the law against the reference: the walk. -/
import Derived.Test.YtnlinfdfgalmjaaRef06
import Derived.Test.YtnlinfdfgalmjaaRef06Get
import Derived.Test.YtnlinfdfgalmjaaSixGet
import Derived.Test.YtnlinfdfgalmjaaShapes
import Derived.OpenShut
namespace Go.Proofs.Ytnlinfdfgalmjaa
open Go.RowKit Go.WideShapes
set_option linter.unusedVariables false
attribute [local go_sem ↓] ldH6 stH6 ldR6 stR6
attribute [local go_sem] rowAt_p rowOkAt_p setAt_p aggOf_a rowOk_new rowOf_new setRow_new agg10 aggH6
attribute [local go_sem ↓] Go.wp_at_zero Go.wp_at_succ

theorem of6_any (h : H6) (w : World) :
    Calls Try.prog 7 #[.agg #[.int .i64 h.cl, .int .i64 h.lb, .int .i64 h.nx, .int .i64 h.hp, .bool h.sv, .int .u64 h.sh, .int .u64 h.sl, .bool h.dv, .int .u64 h.dh, .int .u64 h.dl]] w fun e w' => e = .returned (.agg #[.int .i64 h.cl, .int .i64 h.lb, .int .i64 h.nx, .int .i64 h.hp, .bool h.sv, .int .u64 h.sh, .int .u64 h.sl, .bool h.dv, .int .u64 h.dh, .int .u64 h.dl]) ∧ Below w.heap.size w w' := by
  have HW := HasB.new (w.alloc (.cells #[.int .i64 h.cl, .int .i64 h.lb, .int .i64 h.nx, .int .i64 h.hp, .bool h.sv, .int .u64 h.sh, .int .u64 h.sl, .bool h.dv, .int .u64 h.dh, .int .u64 h.dl] 26)) 31 #[.int .i64 h.cl, .int .i64 h.lb, .int .i64 h.nx, .int .i64 h.hp, .bool h.sv, .int .u64 h.sh, .int .u64 h.sl, .bool h.dv, .int .u64 h.dh, .int .u64 h.dl]
  rw [World.size_alloc] at HW
  have HL : Below w.heap.size w ((w.alloc (.cells #[.int .i64 h.cl, .int .i64 h.lb, .int .i64 h.nx, .int .i64 h.hp, .bool h.sv, .int .u64 h.sh, .int .u64 h.sl, .bool h.dv, .int .u64 h.dh, .int .u64 h.dl] 26)).alloc (.cells #[.int .i64 h.cl, .int .i64 h.lb, .int .i64 h.nx, .int .i64 h.hp, .bool h.sv, .int .u64 h.sh, .int .u64 h.sl, .bool h.dv, .int .u64 h.dh, .int .u64 h.dl] 31)) := ((Below.refl _ _).alloc (Nat.le_refl _) _).alloc (by simp) _
  go_enter Try.func7, Try.ntmps7
  go_wp2_with fail
  try simp only [Exit.inBlock, Exit.then]
  refine bodyPost_ret (v := .agg #[.int .i64 h.cl, .int .i64 h.lb, .int .i64 h.nx, .int .i64 h.hp, .bool h.sv, .int .u64 h.sh, .int .u64 h.sl, .bool h.dv, .int .u64 h.dh, .int .u64 h.dl]) (results_cell_row Try.results7 _ _ (w.heap.size + 1) _ _ _ _ rfl HW Try.underlying31 rfl infoH6) rfl ⟨rfl, HL⟩
theorem back6_any (h : H6) (w : World) :
    Calls Try.prog 11 #[.agg #[.int .i64 h.cl, .int .i64 h.lb, .int .i64 h.nx, .int .i64 h.hp, .bool h.sv, .int .u64 h.sh, .int .u64 h.sl, .bool h.dv, .int .u64 h.dh, .int .u64 h.dl]] w fun e w' => e = .returned (.agg #[.int .i64 h.cl, .int .i64 h.lb, .int .i64 h.nx, .int .i64 h.hp, .bool h.sv, .int .u64 h.sh, .int .u64 h.sl, .bool h.dv, .int .u64 h.dh, .int .u64 h.dl]) ∧ Below w.heap.size w w' := by
  have HW := HasB.new (w.alloc (.cells #[.int .i64 h.cl, .int .i64 h.lb, .int .i64 h.nx, .int .i64 h.hp, .bool h.sv, .int .u64 h.sh, .int .u64 h.sl, .bool h.dv, .int .u64 h.dh, .int .u64 h.dl] 31)) 26 #[.int .i64 h.cl, .int .i64 h.lb, .int .i64 h.nx, .int .i64 h.hp, .bool h.sv, .int .u64 h.sh, .int .u64 h.sl, .bool h.dv, .int .u64 h.dh, .int .u64 h.dl]
  rw [World.size_alloc] at HW
  have HL : Below w.heap.size w ((w.alloc (.cells #[.int .i64 h.cl, .int .i64 h.lb, .int .i64 h.nx, .int .i64 h.hp, .bool h.sv, .int .u64 h.sh, .int .u64 h.sl, .bool h.dv, .int .u64 h.dh, .int .u64 h.dl] 31)).alloc (.cells #[.int .i64 h.cl, .int .i64 h.lb, .int .i64 h.nx, .int .i64 h.hp, .bool h.sv, .int .u64 h.sh, .int .u64 h.sl, .bool h.dv, .int .u64 h.dh, .int .u64 h.dl] 26)) := ((Below.refl _ _).alloc (Nat.le_refl _) _).alloc (by simp) _
  go_enter Try.func11, Try.ntmps11
  go_wp2_with fail
  try simp only [Exit.inBlock, Exit.then]
  refine bodyPost_ret (v := .agg #[.int .i64 h.cl, .int .i64 h.lb, .int .i64 h.nx, .int .i64 h.hp, .bool h.sv, .int .u64 h.sh, .int .u64 h.sl, .bool h.dv, .int .u64 h.dh, .int .u64 h.dl]) (results_cell_row Try.results11 _ _ (w.heap.size + 1) _ _ _ _ rfl HW Try.underlying26 rfl infoR6) rfl ⟨rfl, HL⟩
def awk6 : H6 := ⟨0, 0, 6, 0, true, 0, 1, true, 0, 2⟩
theorem awk6_ok : err6 awk6 ⟨#[97]⟩ = 0 := by decide +kernel
theorem awk6_bd : B6 awk6 := ⟨by decide, by decide, by decide, by decide, by decide, by decide, by decide, by decide⟩
theorem app_nil (s : ByteArray) : s ++ (⟨#[]⟩ : ByteArray) = s := by apply ext_eq; simp
theorem awk6_bt : bt (out6 awk6 ⟨#[97]⟩) 0 = 96 := by decide +kernel
theorem awk6Put : ∃ t : ByteArray, t.size = 41 ∧ bt t 0 = 96 ∧ errG6 t = 0 ∧ payG6 t = ⟨#[97]⟩ ∧ ∀ w, Calls Try.prog 6 #[.agg #[.int .i64 0, .int .i64 0, .int .i64 6, .int .i64 0, .bool true, .int .u64 0, .int .u64 1, .bool true, .int .u64 0, .int .u64 2], .string ⟨#[97]⟩] w fun e w' => e = .returned (.tuple #[.string t, .int .i64 0]) ∧ Below w.heap.size w w' := by
  obtain ⟨h1, h2, h3, _⟩ := back6_ok awk6_ok awk6_bd
  obtain ⟨h4, h5, h6⟩ := h3 ⟨#[]⟩
  rw [app_nil] at h4 h6
  refine ⟨out6 awk6 ⟨#[97]⟩, h1, awk6_bt, h4, h6, fun w => ?_⟩
  have h := put6_any awk6 ⟨#[97]⟩ awk6_bd (by simp [ByteArray.size]) w
  rw [awk6_ok] at h
  exact h
theorem awk6Nil (w : World) : Calls Try.prog 9 #[.string ⟨#[]⟩] w fun e w' => e = .returned (.tuple #[.agg #[.int .i64 (headG6 ⟨#[]⟩).cl, .int .i64 (headG6 ⟨#[]⟩).lb, .int .i64 (headG6 ⟨#[]⟩).nx, .int .i64 (headG6 ⟨#[]⟩).hp, .bool (headG6 ⟨#[]⟩).sv, .int .u64 (headG6 ⟨#[]⟩).sh, .int .u64 (headG6 ⟨#[]⟩).sl, .bool (headG6 ⟨#[]⟩).dv, .int .u64 (headG6 ⟨#[]⟩).dh, .int .u64 (headG6 ⟨#[]⟩).dl], .string (payG6 ⟨#[]⟩), .int .i64 2]) ∧ Below w.heap.size w w' :=
  get6_any ⟨#[]⟩ (by simp [ByteArray.size]) w
theorem awake06 (w : World) : Calls Try.prog 5 #[] w fun e w' => e = .returned (.bool true) ∧ Below w.heap.size w w' := by
  obtain ⟨t, h1, h2, h3, h4, hp⟩ := awk6Put
  have HP := Lib.hid hp
  have q0 := R06.bt_at t 0 (by omega)
  rw [h2] at q0
  have i0 : (0 : Int) < t.size := by omega
  have HG : Hid (∀ w, Calls Try.prog 9 #[.string t] w fun e w' => e = .returned (.tuple #[.agg #[.int .i64 (headG6 t).cl, .int .i64 (headG6 t).lb, .int .i64 (headG6 t).nx, .int .i64 (headG6 t).hp, .bool (headG6 t).sv, .int .u64 (headG6 t).sh, .int .u64 (headG6 t).sl, .bool (headG6 t).dv, .int .u64 (headG6 t).dh, .int .u64 (headG6 t).dl], .string ⟨#[97]⟩, .int .i64 0]) ∧ Below w.heap.size w w') := Lib.hid (fun w => by
    have h := get6_any t (by omega) w
    rw [h3, h4] at h
    exact h)
  clear hp h2 h3 h4
  generalize headG6 t = g at HG
  have HN := Lib.hid awk6Nil
  generalize headG6 ⟨#[]⟩ = g2 at HN
  generalize payG6 ⟨#[]⟩ = y2 at HN
  have hq : Below w.heap.size w w := Below.refl _ _
  go_enter Try.func5, Try.ntmps5
  go_wp2_with (first | (go_at_call 6; (with_reducible refine (HP.out _).mono ?_); rintro e wa ⟨rfl, hb⟩; replace hq := hq.trans (hb.mono hq.size); clear hb) | (go_at_call 9; (with_reducible refine (HG.out _).mono ?_); rintro e wb ⟨rfl, hb⟩; replace hq := (hq.trans (hb.mono hq.size)).alloc (Nat.le_trans hq.size hb.size) (.cells #[.int .i64 g.cl, .int .i64 g.lb, .int .i64 g.nx, .int .i64 g.hp, .bool g.sv, .int .u64 g.sh, .int .u64 g.sl, .bool g.dv, .int .u64 g.dh, .int .u64 g.dl] 31); clear hb) | (go_at_call 9; (with_reducible refine (HN.out _).mono ?_); rintro e wc ⟨rfl, hb⟩; replace hq := (hq.trans (hb.mono hq.size)).alloc (Nat.le_trans hq.size hb.size) (.cells #[.int .i64 g2.cl, .int .i64 g2.lb, .int .i64 g2.nx, .int .i64 g2.hp, .bool g2.sv, .int .u64 g2.sh, .int .u64 g2.sl, .bool g2.dv, .int .u64 g2.dh, .int .u64 g2.dl] 31); clear hb) | fail)
  go_ret
  exact ⟨rfl, hq⟩
end Go.Proofs.Ytnlinfdfgalmjaa
