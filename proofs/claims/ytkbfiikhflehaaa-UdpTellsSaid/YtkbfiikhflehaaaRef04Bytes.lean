/- The contracts of cloakroomref04: Right, Put, Get, Less. -/
import Derived.Test.YtkbfiikhflehaaaRef02Walks
import Derived.Test.YtkbfiikhflehaaaAddrPut
namespace Go.Proofs.Ytkbfiikhflehaaa.R04
open Go.RowKit
set_option linter.unusedVariables false
attribute [local go_sem ↓] Go.wp_at_zero Go.wp_at_succ

theorem right_any (v : Bool) (hi lo : Int) (w : World) :
    Calls Try.prog 33 #[.agg #[.bool v, .int .u64 hi, .int .u64 lo]] w fun e w' => e = .returned (.bool (rightA v hi lo)) ∧ Below w.heap.size w w' := by
  go_enter Try.func33, Try.ntmps33
  go_wp2
  all_goals
    go_ret
    refine ⟨ret_bool ?_, (Below.refl _ _).alloc (Nat.le_refl _) _⟩
    simp_all [rightA]
theorem put_addr (v : Bool) (hi lo : Int) (h0 : 0 ≤ hi) (h1 : hi < 18446744073709551616) (l0 : 0 ≤ lo) (l1 : lo < 18446744073709551616) (w : World) :
    Calls Try.prog 34 #[.agg #[.bool v, .int .u64 hi, .int .u64 lo]] w fun e w' => e = .returned (.string ⟨(addrB v hi lo).toArray⟩) ∧ Below w.heap.size w w' := by
  have hq : Below w.heap.size w (w.alloc (.cells #[.bool v, .int .u64 hi, .int .u64 lo] 26)) := (Below.refl _ _).alloc (Nat.le_refl _) _
  have hX := HasB.new w 26 #[.bool v, .int .u64 hi, .int .u64 lo]
  cases hr : rightA v hi lo with
  | false =>
    have HA := Lib.hid (addrB_no v hi lo hr)
    go_enter Try.func34, Try.ntmps34
    go_wp2_with (first | (go_at_call 33; refine (right_any v hi lo _).mono ?_; rintro e w1 ⟨rfl, hb1⟩; replace hq := hq.trans (hb1.mono (Nat.le_of_lt hX.lt)); replace hX := HasB.below hX hb1 hX.lt) | fail)
    go_ret
    exact ⟨by rw [HA.out]; rfl, hq⟩
  | true =>
    cases v with
    | true =>
      have HA : Hid (addrB true hi lo = putL hi 8 ++ putL lo 8) := Lib.hid (by rw [putL8, putL8]; rfl)
      have f1 : (9223372036854775807 < (putL hi 8).length + (putL lo 8).length) = False := eq_false (by rw [putL8, putL8, bigB_length, bigB_length]; omega)
      go_enter Try.func34, Try.ntmps34
      go_wp2_with (first | (go_at_call 33; refine (right_any true hi lo _).mono ?_; rintro e w1 ⟨rfl, hb1⟩; replace hq := hq.trans (hb1.mono (Nat.le_of_lt hX.lt)); replace hX := HasB.below hX hb1 hX.lt; have c0 := HasB.cell hX 0 (.bool true) rfl; have c1 := HasB.cell hX 1 (.int .u64 hi) rfl; have c2 := HasB.cell hX 2 (.int .u64 lo) rfl; have hlt := hX.lt) | fail)
      go_region_held3 (fun w' => w'.cell? ⟨w.heap.size, 1, none⟩ = some (.int .u64 hi) ∧ w'.cell? ⟨w.heap.size, 2, none⟩ = some (.int .u64 lo)) (first | exact ⟨c1, c2⟩ | exact ⟨(hb7.cell (p := ⟨w.heap.size, 1, none⟩) (Nat.lt_of_lt_of_le hlt hb6.size)).trans ((hb6.cell (p := ⟨w.heap.size, 1, none⟩) hlt).trans c1), (hb7.cell (p := ⟨w.heap.size, 2, none⟩) (Nat.lt_of_lt_of_le hlt hb6.size)).trans ((hb6.cell (p := ⟨w.heap.size, 2, none⟩) hlt).trans c2)⟩ | exact ⟨(hb6.cell (p := ⟨w.heap.size, 1, none⟩) hlt).trans c1, (hb6.cell (p := ⟨w.heap.size, 2, none⟩) hlt).trans c2⟩) (first | (go_at_call 17; with_reducible refine (R02.put_any hi 8 h0 h1 _).mono ?_; rintro e w6 ⟨rfl, hb6⟩) | (go_at_call 17; with_reducible refine (R02.put_any lo 8 l0 l1 _).mono ?_; rintro e w7 ⟨rfl, hb7⟩))
      all_goals
        have hq7 := (hq.trans ((below_ofDrew hb6).mono (Nat.le_of_lt hlt))).trans (hb7.mono (Nat.le_trans (Nat.le_of_lt hlt) hb6.size))
        go_wp2
        go_ret
        exact ⟨by rw [HA.out, ← str_app]; rfl, hq7⟩
    | false =>
      have HA : Hid (addrB false hi lo = putL lo 4) := Lib.hid (by unfold addrB; rw [hr, putL4]; rfl)
      go_enter Try.func34, Try.ntmps34
      go_wp2_with (first | (go_at_call 33; refine (right_any false hi lo _).mono ?_; rintro e w1 ⟨rfl, hb1⟩; replace hq := hq.trans (hb1.mono (Nat.le_of_lt hX.lt)); replace hX := HasB.below hX hb1 hX.lt; have c0 := HasB.cell hX 0 (.bool false) rfl; have c2 := HasB.cell hX 2 (.int .u64 lo) rfl) | (go_at_call 17; refine (R02.put_any lo 4 l0 l1 _).mono ?_; rintro e w7 ⟨rfl, hb7⟩; replace hq := hq.trans (hb7.mono (Nat.le_of_lt hX.lt))) | fail)
      go_ret
      exact ⟨ret_str HA.out.symm, hq⟩
end Go.Proofs.Ytkbfiikhflehaaa.R04
