/- The contracts of package ipsix: number, isSix, valid. -/
import Derived.Test.YtnlinfdfgalmjaaOctetWalks
import Derived.Test.YtnlinfdfgalmjaaAddrPut
import Derived.Test.YtnlinfdfgalmjaaHeld
import Derived.Test.YtnlinfdfgalmjaaSixCells
namespace Go.Proofs.Ytnlinfdfgalmjaa
open Go.RowKit
set_option linter.unusedVariables false

theorem number6_any (n k : Int) (w : World) :
    Calls Try.prog 25 #[.int .i64 n, .int .i64 k] w fun e w' => e = .returned (.string ⟨(numL n k).toArray⟩) ∧ Below w.heap.size w w' := by
  obtain ⟨h0, h1⟩ := wrapU_bd n
  go_enter Try.func25, Try.ntmps25
  go_wp2_with (go_at_call 35; refine (put_any _ k h0 h1 _).mono ?_; rintro e w' ⟨rfl, hb⟩)
  go_ret
  exact ⟨rfl, hb⟩
theorem isSix_any (v : Bool) (hi lo : Int) (w : World) :
    Calls Try.prog 24 #[.agg #[.bool v, .int .u64 hi, .int .u64 lo]] w fun e w' => e = .returned (.bool v) ∧ Below w.heap.size w w' := by
  have hq : Below w.heap.size w (w.alloc (.cells #[.bool v, .int .u64 hi, .int .u64 lo] 24)) := (Below.refl _ _).alloc (Nat.le_refl _) _
  cases v with
  | false =>
    go_enter Try.func24, Try.ntmps24
    go_wp2
    go_ret
    exact ⟨rfl, hq⟩
  | true =>
    go_enter Try.func24, Try.ntmps24
    go_wp2_with (go_at_call 34; refine (right_any true hi lo _).mono ?_; rintro e w' ⟨rfl, hb⟩)
    go_ret
    exact ⟨rfl, hq.trans (hb.mono hq.size)⟩
def row6 (h : H6) : Nat → Bool
  | 0 => inB h.cl 255
  | 1 => inB h.lb 1048575
  | 2 => inB h.nx 255
  | _ => inB h.hp 255
theorem row6_no {h : H6} {k : Nat} (hk : k < 4) (hr : row6 h k = false) : valid6 h = false := by
  unfold valid6
  obtain rfl | rfl | rfl | rfl : k = 0 ∨ k = 1 ∨ k = 2 ∨ k = 3 := by omega
  · rw [show inB h.cl 255 = false from hr]; simp
  · rw [show inB h.lb 1048575 = false from hr]; simp
  · rw [show inB h.nx 255 = false from hr]; simp
  · rw [show inB h.hp 255 = false from hr]; simp
theorem row6_all {h : H6} (hr : ∀ j, j < 4 → row6 h j = true) : valid6 h = (h.sv && h.dv) := by
  unfold valid6
  rw [show inB h.cl 255 = true from hr 0 (by omega), show inB h.lb 1048575 = true from hr 1 (by omega), show inB h.nx 255 = true from hr 2 (by omega), show inB h.hp 255 = true from hr 3 (by omega)]
  rfl
theorem row6_next {h : H6} {k : Nat} (hr : ∀ j, j < k → row6 h j = true) (hk : row6 h k = true) : ∀ j, j < k + 1 → row6 h j = true := by
  intro j hj
  by_cases e : j = k
  · rw [e]; exact hk
  · exact hr j (by omega)
theorem inB_yes {n m : Int} (h0 : 0 ≤ n) (h1 : n ≤ m) : inB n m = true := decide_eq_true ⟨h0, h1⟩
theorem inB_no {n m : Int} (h : n < 0 ∨ m < n) : inB n m = false := decide_eq_false (by omega)
/-- 'a[i]' of an array of structs by value. -/
theorem run_index_row {P : Program} (t e : TypeId) (n m : Nat) (cs v : Array Value) (k : IntKind) (i : Nat) (j : Int) (hj : j = i) (h : P.underlying t = some (.array n e)) (hi : i < n) (hv : cs.extract (i * m) (i * m + m) = v) (hs : ∀ w, (sizeOf e).run P w = .ok m w) (ha : ∀ w, (isAgg e).run P w = .ok true w) (w : World) :
    (Instr.index t (.agg cs) (.int k j)).run P w = .ok (.agg v) w := by
  subst hj
  subst hv
  simp [Instr.index, run_underlying h, asIntOf, hi, hs, ha, go_sem]
theorem two6 : (Try.prog.info? 56).map (·.size) = some 2 := by kernel_rfl
theorem valid6_any (h : H6) (w : World) :
    Calls Try.prog 12 #[.agg #[.int .i64 h.cl, .int .i64 h.lb, .int .i64 h.nx, .int .i64 h.hp, .bool h.sv, .int .u64 h.sh, .int .u64 h.sl, .bool h.dv, .int .u64 h.dh, .int .u64 h.dl]] w fun e w' => e = .returned (.bool (valid6 h)) ∧ Below w.heap.size w w' := by
  have hX := HasB.new w 31 #[.int .i64 h.cl, .int .i64 h.lb, .int .i64 h.nx, .int .i64 h.hp, .bool h.sv, .int .u64 h.sh, .int .u64 h.sl, .bool h.dv, .int .u64 h.dh, .int .u64 h.dl]
  have hq : Below w.heap.size w (w.alloc (.cells #[.int .i64 h.cl, .int .i64 h.lb, .int .i64 h.nx, .int .i64 h.hp, .bool h.sv, .int .u64 h.sh, .int .u64 h.sl, .bool h.dv, .int .u64 h.dh, .int .u64 h.dl] 31)) := (Below.refl _ _).alloc (Nat.le_refl _) _
  go_enter Try.func12, Try.ntmps12
  go_wp2
  go_loopw [20] (fun i wr => ∃ k : Nat, k ≤ 4 ∧ i = .int .i64 k ∧ HasB wr w.heap.size 31 #[.int .i64 h.cl, .int .i64 h.lb, .int .i64 h.nx, .int .i64 h.hp, .bool h.sv, .int .u64 h.sh, .int .u64 h.sl, .bool h.dv, .int .u64 h.dh, .int .u64 h.dl] ∧ Below w.heap.size w wr ∧ Hid (∀ j, j < k → row6 h j = true)) (fun i _ => 4 - (intOf i).toNat)
  case atStart => exact ⟨0, by omega, rfl, hX.alloc _, hq.alloc hq.size _, Lib.hid (fun j hj => by omega)⟩
  case round =>
    obtain ⟨k, hk, rfl, hB, hL, HA⟩ := hrel
    by_cases hlt : k < 4
    · obtain rfl | rfl | rfl | rfl : k = 0 ∨ k = 1 ∨ k = 2 ∨ k = 3 := by omega
      · have hix := run_index_row (P := Try.prog) 57 56 4 2 #[.int .i64 h.cl, .int .i64 255, .int .i64 h.lb, .int .i64 1048575, .int .i64 h.nx, .int .i64 255, .int .i64 h.hp, .int .i64 255] #[.int .i64 h.cl, .int .i64 255] .i64 0 0 rfl Try.underlying57 (by omega) rfl (by intro w; simp [go_sem]) (by intro w; simp [go_sem]) wr
        by_cases h0 : h.cl < 0
        · have HN := Lib.hid (row6_no (h := h) (k := 0) (by omega) (inB_no (n := h.cl) (m := 255) (.inl h0)))
          go_wp2
          go_ret
          exact ⟨ret_bool HN.out.symm, (hL.alloc hL.size _)⟩
        · by_cases h1 : 255 < h.cl
          · have HN := Lib.hid (row6_no (h := h) (k := 0) (by omega) (inB_no (n := h.cl) (m := 255) (.inr h1)))
            go_wp2
            go_ret
            exact ⟨ret_bool HN.out.symm, (hL.alloc hL.size _)⟩
          · have HN := Lib.hid (row6_next HA.out (show row6 h 0 = true from inB_yes (n := h.cl) (m := 255) (by omega) (by omega)))
            go_wp2
            go_roundw
            case rel => exact ⟨0 + 1, by omega, by go_num, hB.alloc _, hL.alloc hL.size _, HN⟩
            case measure => simp [intOf]; try omega
      · have hix := run_index_row (P := Try.prog) 57 56 4 2 #[.int .i64 h.cl, .int .i64 255, .int .i64 h.lb, .int .i64 1048575, .int .i64 h.nx, .int .i64 255, .int .i64 h.hp, .int .i64 255] #[.int .i64 h.lb, .int .i64 1048575] .i64 1 1 rfl Try.underlying57 (by omega) rfl (by intro w; simp [go_sem]) (by intro w; simp [go_sem]) wr
        by_cases h0 : h.lb < 0
        · have HN := Lib.hid (row6_no (h := h) (k := 1) (by omega) (inB_no (n := h.lb) (m := 1048575) (.inl h0)))
          go_wp2
          go_ret
          exact ⟨ret_bool HN.out.symm, (hL.alloc hL.size _)⟩
        · by_cases h1 : 1048575 < h.lb
          · have HN := Lib.hid (row6_no (h := h) (k := 1) (by omega) (inB_no (n := h.lb) (m := 1048575) (.inr h1)))
            go_wp2
            go_ret
            exact ⟨ret_bool HN.out.symm, (hL.alloc hL.size _)⟩
          · have HN := Lib.hid (row6_next HA.out (show row6 h 1 = true from inB_yes (n := h.lb) (m := 1048575) (by omega) (by omega)))
            go_wp2
            go_roundw
            case rel => exact ⟨1 + 1, by omega, by go_num, hB.alloc _, hL.alloc hL.size _, HN⟩
            case measure => simp [intOf]; try omega
      · have hix := run_index_row (P := Try.prog) 57 56 4 2 #[.int .i64 h.cl, .int .i64 255, .int .i64 h.lb, .int .i64 1048575, .int .i64 h.nx, .int .i64 255, .int .i64 h.hp, .int .i64 255] #[.int .i64 h.nx, .int .i64 255] .i64 2 2 rfl Try.underlying57 (by omega) rfl (by intro w; simp [go_sem]) (by intro w; simp [go_sem]) wr
        by_cases h0 : h.nx < 0
        · have HN := Lib.hid (row6_no (h := h) (k := 2) (by omega) (inB_no (n := h.nx) (m := 255) (.inl h0)))
          go_wp2
          go_ret
          exact ⟨ret_bool HN.out.symm, (hL.alloc hL.size _)⟩
        · by_cases h1 : 255 < h.nx
          · have HN := Lib.hid (row6_no (h := h) (k := 2) (by omega) (inB_no (n := h.nx) (m := 255) (.inr h1)))
            go_wp2
            go_ret
            exact ⟨ret_bool HN.out.symm, (hL.alloc hL.size _)⟩
          · have HN := Lib.hid (row6_next HA.out (show row6 h 2 = true from inB_yes (n := h.nx) (m := 255) (by omega) (by omega)))
            go_wp2
            go_roundw
            case rel => exact ⟨2 + 1, by omega, by go_num, hB.alloc _, hL.alloc hL.size _, HN⟩
            case measure => simp [intOf]; try omega
      · have hix := run_index_row (P := Try.prog) 57 56 4 2 #[.int .i64 h.cl, .int .i64 255, .int .i64 h.lb, .int .i64 1048575, .int .i64 h.nx, .int .i64 255, .int .i64 h.hp, .int .i64 255] #[.int .i64 h.hp, .int .i64 255] .i64 3 3 rfl Try.underlying57 (by omega) rfl (by intro w; simp [go_sem]) (by intro w; simp [go_sem]) wr
        by_cases h0 : h.hp < 0
        · have HN := Lib.hid (row6_no (h := h) (k := 3) (by omega) (inB_no (n := h.hp) (m := 255) (.inl h0)))
          go_wp2
          go_ret
          exact ⟨ret_bool HN.out.symm, (hL.alloc hL.size _)⟩
        · by_cases h1 : 255 < h.hp
          · have HN := Lib.hid (row6_no (h := h) (k := 3) (by omega) (inB_no (n := h.hp) (m := 255) (.inr h1)))
            go_wp2
            go_ret
            exact ⟨ret_bool HN.out.symm, (hL.alloc hL.size _)⟩
          · have HN := Lib.hid (row6_next HA.out (show row6 h 3 = true from inB_yes (n := h.hp) (m := 255) (by omega) (by omega)))
            go_wp2
            go_roundw
            case rel => exact ⟨3 + 1, by omega, by go_num, hB.alloc _, hL.alloc hL.size _, HN⟩
            case measure => simp [intOf]; try omega
    · have hk4 : k = 4 := by omega
      subst hk4
      have HV := Lib.hid (row6_all HA.out)
      have c4 := HasB.cell hB 4 (.bool h.sv) rfl
      have c5 := HasB.cell hB 5 (.int .u64 h.sh) rfl
      have c6 := HasB.cell hB 6 (.int .u64 h.sl) rfl
      cases h5 : h.sv with
      | false =>
        rw [h5] at c4
        have HR := Lib.hid h5
        go_wp2_with (go_at_call 24; (with_reducible refine (isSix_any false _ _ _).mono ?_); rintro e w1 ⟨rfl, hb⟩; replace hL := hL.trans (hb.mono hL.size))
        go_ret
        exact ⟨ret_bool (by rw [HV.out, HR.out]; rfl), hL⟩
      | true =>
        rw [h5] at c4
        have HR := Lib.hid h5
        go_wp2_with (first | (go_at_call 24; (with_reducible refine (isSix_any true _ _ _).mono ?_); rintro e w1 ⟨rfl, hb⟩; replace hL := hL.trans (hb.mono hL.size); replace hB := HasB.below hB hb hB.lt; clear c4 c5 c6 hb; have c7 := HasB.cell hB 7 (.bool h.dv) rfl; have c8 := HasB.cell hB 8 (.int .u64 h.dh) rfl; have c9 := HasB.cell hB 9 (.int .u64 h.dl) rfl) | (go_at_call 24; (with_reducible refine (isSix_any h.dv _ _ _).mono ?_); rintro e w1 ⟨rfl, hb⟩; replace hL := hL.trans (hb.mono hL.size)) | fail)
        go_ret
        exact ⟨ret_bool (by rw [HV.out, HR.out]; rfl), hL⟩
end Go.Proofs.Ytnlinfdfgalmjaa
