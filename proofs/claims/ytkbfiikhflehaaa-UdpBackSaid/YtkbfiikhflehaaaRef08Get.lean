/- The contract of cloakroomref08: Get. -/
import Derived.Test.YtkbfiikhflehaaaRef08Put
import Derived.Test.YtkbfiikhflehaaaReadAt
namespace Go.Proofs.Ytkbfiikhflehaaa.R08
open Go.RowKit
set_option linter.unusedVariables false
attribute [local go_sem ↓] ldH8 stH8 ldR8 stR8
attribute [local go_sem] rowAt_p rowOkAt_p setAt_p aggOf_a rowOk_new rowOf_new setRow_new agg2
attribute [local go_sem ↓] Go.wp_at_zero Go.wp_at_succ

theorem cells6A {B g g' g2 : Nat} {t t' t2 : TypeId} {cs : Array Value} {v v' : Bool} {hi lo hi' lo' : Int} {w0 w : World} (H : Held3 B g t cs g' t' #[.bool v, .int .u64 hi, .int .u64 lo] g2 t2 #[.bool v', .int .u64 hi', .int .u64 lo'] w0 w) : w.cell? ⟨g', 0, none⟩ = some (.bool v) ∧ w.cell? ⟨g', 1, none⟩ = some (.int .u64 hi) ∧ w.cell? ⟨g', 2, none⟩ = some (.int .u64 lo) ∧ w.cell? ⟨g2, 0, none⟩ = some (.bool v') ∧ w.cell? ⟨g2, 1, none⟩ = some (.int .u64 hi') ∧ w.cell? ⟨g2, 2, none⟩ = some (.int .u64 lo') :=
  ⟨HasB.cell H.2.1 0 _ rfl, HasB.cell H.2.1 1 _ rfl, HasB.cell H.2.1 2 _ rfl, HasB.cell H.2.2.1 0 _ rfl, HasB.cell H.2.2.1 1 _ rfl, HasB.cell H.2.2.1 2 _ rfl⟩
theorem get_short (s : ByteArray) (v : Bool) (hi lo : Int) (v' : Bool) (hi' lo' : Int) (hA : BA hi lo hi' lo') (hs : s.size ≤ 1099511627000) (P : List UInt8) (hPe : pseudoL v hi lo v' hi' lo' 17 (wt s 4 : Nat) = P) (w : World) (h : s.size < 8) : Calls Try.prog 10 #[.string s, .agg #[.bool v, .int .u64 hi, .int .u64 lo], .agg #[.bool v', .int .u64 hi', .int .u64 lo']] w fun e w' => e = .returned (.tuple #[.agg #[.int .i64 (spG s P v), .int .i64 (dpG s P v)], .string (payG8 s P v), .int .i64 (errG8 s P v)]) ∧ Below w.heap.size w w' := by
  have he : errG8 s P v = 2 := by unfold errG8; rw [if_pos h]
  obtain ⟨hs1, hs2, hp⟩ := headG8_no he (by omega)
  rw [hs1, hs2, hp, he]
  clear he hs1 hs2 hp
  have h8 : (s.size : Int) < 8 := by omega
  have HX : Hid (Held3 w.heap.size (w.heap.size + 1 + 1) 23 #[.int .i64 (0), .int .i64 (0)] w.heap.size 26 #[.bool v, .int .u64 hi, .int .u64 lo] (w.heap.size + 1) 26 #[.bool v', .int .u64 hi', .int .u64 lo'] w (((w.alloc (.cells #[.bool v, .int .u64 hi, .int .u64 lo] 26)).alloc (.cells #[.bool v', .int .u64 hi', .int .u64 lo'] 26)).alloc (.cells #[.int .i64 (0), .int .i64 (0)] 23))) := by
    refine Lib.hid ⟨?_, ((HasB.new w _ _).alloc _).alloc _, ?_, (((Below.refl _ _).alloc (Nat.le_refl _) _).alloc (by simp) _).alloc (by simp; omega) _, by simp; omega⟩
    · have := HasB.new ((w.alloc (.cells #[.bool v, .int .u64 hi, .int .u64 lo] 26)).alloc (.cells #[.bool v', .int .u64 hi', .int .u64 lo'] 26)) 23 #[.int .i64 (0), .int .i64 (0)]
      simpa using this
    · have := (HasB.new (w.alloc (.cells #[.bool v, .int .u64 hi, .int .u64 lo] 26)) 26 #[.bool v', .int .u64 hi', .int .u64 lo']).alloc (.cells #[.int .i64 (0), .int .i64 (0)] 23)
      simpa using this
  go_enter Try.func10, Try.ntmps10
  go_wp2_with fail
  (try simp only [Exit.inBlock, Exit.then]); refine bodyPost_ret (v := .tuple #[.agg #[.int .i64 (0), .int .i64 (0)], .string ⟨#[]⟩, .int .i64 2]) (results_cell3 Try.results10 _ _ (w.heap.size + 1 + 1) _ _ rfl HX.out.1 Try.underlying23 infoR8 rfl rfl) rfl ⟨rfl, HX.out.2.2.2.1⟩
theorem get_form (s : ByteArray) (v : Bool) (hi lo : Int) (v' : Bool) (hi' lo' : Int) (hA : BA hi lo hi' lo') (hs : s.size ≤ 1099511627000) (P : List UInt8) (hPe : pseudoL v hi lo v' hi' lo' 17 (wt s 4 : Nat) = P) (w : World) (h1 : 8 ≤ s.size) (h : wt s 4 < 8) : Calls Try.prog 10 #[.string s, .agg #[.bool v, .int .u64 hi, .int .u64 lo], .agg #[.bool v', .int .u64 hi', .int .u64 lo']] w fun e w' => e = .returned (.tuple #[.agg #[.int .i64 (spG s P v), .int .i64 (dpG s P v)], .string (payG8 s P v), .int .i64 (errG8 s P v)]) ∧ Below w.heap.size w w' := by
  have he : errG8 s P v = 3 := by unfold errG8; rw [if_neg (by omega), if_pos h]
  obtain ⟨hs1, hs2, hp⟩ := headG8_no he (by omega)
  rw [hs1, hs2, hp, he]
  clear he hs1 hs2 hp
  have h8i : ¬ (s.size : Int) < 8 := by omega
  have HM4 := R02.must_seg s 4 2 4 2 rfl rfl (by unfold maxLen; omega) (by omega) (by omega) (by omega)
  rw [show seg s 4 2 = wt s 4 from wt_num s 4 (by omega)] at HM4
  have HM4 := Lib.hid HM4
  have HM6 := R02.must_seg s 6 2 6 2 rfl rfl (by unfold maxLen; omega) (by omega) (by omega) (by omega)
  rw [show seg s 6 2 = wt s 6 from wt_num s 6 (by omega)] at HM6
  have HM6 := Lib.hid HM6
  have HX : Hid (Held3 w.heap.size (w.heap.size + 1 + 1) 23 #[.int .i64 (0), .int .i64 (0)] w.heap.size 26 #[.bool v, .int .u64 hi, .int .u64 lo] (w.heap.size + 1) 26 #[.bool v', .int .u64 hi', .int .u64 lo'] w (((w.alloc (.cells #[.bool v, .int .u64 hi, .int .u64 lo] 26)).alloc (.cells #[.bool v', .int .u64 hi', .int .u64 lo'] 26)).alloc (.cells #[.int .i64 (0), .int .i64 (0)] 23))) := by
    refine Lib.hid ⟨?_, ((HasB.new w _ _).alloc _).alloc _, ?_, (((Below.refl _ _).alloc (Nat.le_refl _) _).alloc (by simp) _).alloc (by simp; omega) _, by simp; omega⟩
    · have := HasB.new ((w.alloc (.cells #[.bool v, .int .u64 hi, .int .u64 lo] 26)).alloc (.cells #[.bool v', .int .u64 hi', .int .u64 lo'] 26)) 23 #[.int .i64 (0), .int .i64 (0)]
      simpa using this
    · have := (HasB.new (w.alloc (.cells #[.bool v, .int .u64 hi, .int .u64 lo] 26)) 26 #[.bool v', .int .u64 hi', .int .u64 lo']).alloc (.cells #[.int .i64 (0), .int .i64 (0)] 23)
      simpa using this
  obtain ⟨k0, k1, k2, k3, k4, k5⟩ := cells6A HX.out
  have hro := HasB.rowOk HX.out.1 (n := 2) rfl
  have v1 : ((wt s 4 : Nat) : Int) < 8 := by omega
  clear h
  go_enter Try.func10, Try.ntmps10
  go_wp2_with (first | (go_at_call 23; (with_reducible refine (HM4.out _).mono ?_); rintro e wm ⟨rfl, rfl⟩) | fail)
  (try simp only [Exit.inBlock, Exit.then]); refine bodyPost_ret (v := .tuple #[.agg #[.int .i64 (0), .int .i64 (0)], .string ⟨#[]⟩, .int .i64 3]) (results_cell3 Try.results10 _ _ (w.heap.size + 1 + 1) _ _ rfl HX.out.1 Try.underlying23 infoR8 rfl rfl) rfl ⟨rfl, HX.out.2.2.2.1⟩
theorem get_cut (s : ByteArray) (v : Bool) (hi lo : Int) (v' : Bool) (hi' lo' : Int) (hA : BA hi lo hi' lo') (hs : s.size ≤ 1099511627000) (P : List UInt8) (hPe : pseudoL v hi lo v' hi' lo' 17 (wt s 4 : Nat) = P) (w : World) (h1 : 8 ≤ s.size) (h2 : 8 ≤ wt s 4) (h : s.size < wt s 4) : Calls Try.prog 10 #[.string s, .agg #[.bool v, .int .u64 hi, .int .u64 lo], .agg #[.bool v', .int .u64 hi', .int .u64 lo']] w fun e w' => e = .returned (.tuple #[.agg #[.int .i64 (spG s P v), .int .i64 (dpG s P v)], .string (payG8 s P v), .int .i64 (errG8 s P v)]) ∧ Below w.heap.size w w' := by
  have he : errG8 s P v = 2 := by unfold errG8; rw [if_neg (by omega), if_neg (by omega), if_pos h]
  obtain ⟨hs1, hs2, hp⟩ := headG8_no he (by omega)
  rw [hs1, hs2, hp, he]
  clear he hs1 hs2 hp
  have h8i : ¬ (s.size : Int) < 8 := by omega
  have HM4 := R02.must_seg s 4 2 4 2 rfl rfl (by unfold maxLen; omega) (by omega) (by omega) (by omega)
  rw [show seg s 4 2 = wt s 4 from wt_num s 4 (by omega)] at HM4
  have HM4 := Lib.hid HM4
  have HM6 := R02.must_seg s 6 2 6 2 rfl rfl (by unfold maxLen; omega) (by omega) (by omega) (by omega)
  rw [show seg s 6 2 = wt s 6 from wt_num s 6 (by omega)] at HM6
  have HM6 := Lib.hid HM6
  have HX : Hid (Held3 w.heap.size (w.heap.size + 1 + 1) 23 #[.int .i64 (0), .int .i64 (0)] w.heap.size 26 #[.bool v, .int .u64 hi, .int .u64 lo] (w.heap.size + 1) 26 #[.bool v', .int .u64 hi', .int .u64 lo'] w (((w.alloc (.cells #[.bool v, .int .u64 hi, .int .u64 lo] 26)).alloc (.cells #[.bool v', .int .u64 hi', .int .u64 lo'] 26)).alloc (.cells #[.int .i64 (0), .int .i64 (0)] 23))) := by
    refine Lib.hid ⟨?_, ((HasB.new w _ _).alloc _).alloc _, ?_, (((Below.refl _ _).alloc (Nat.le_refl _) _).alloc (by simp) _).alloc (by simp; omega) _, by simp; omega⟩
    · have := HasB.new ((w.alloc (.cells #[.bool v, .int .u64 hi, .int .u64 lo] 26)).alloc (.cells #[.bool v', .int .u64 hi', .int .u64 lo'] 26)) 23 #[.int .i64 (0), .int .i64 (0)]
      simpa using this
    · have := (HasB.new (w.alloc (.cells #[.bool v, .int .u64 hi, .int .u64 lo] 26)) 26 #[.bool v', .int .u64 hi', .int .u64 lo']).alloc (.cells #[.int .i64 (0), .int .i64 (0)] 23)
      simpa using this
  obtain ⟨k0, k1, k2, k3, k4, k5⟩ := cells6A HX.out
  have hro := HasB.rowOk HX.out.1 (n := 2) rfl
  have v1 : ¬ ((wt s 4 : Nat) : Int) < 8 := by omega
  have v3 : (s.size : Int) < (wt s 4 : Nat) := by omega
  clear h h2
  go_enter Try.func10, Try.ntmps10
  go_wp2_with (first | (go_at_call 23; (with_reducible refine (HM4.out _).mono ?_); rintro e wm ⟨rfl, rfl⟩) | fail)
  (try simp only [Exit.inBlock, Exit.then]); refine bodyPost_ret (v := .tuple #[.agg #[.int .i64 (0), .int .i64 (0)], .string ⟨#[]⟩, .int .i64 2]) (results_cell3 Try.results10 _ _ (w.heap.size + 1 + 1) _ _ rfl HX.out.1 Try.underlying23 infoR8 rfl rfl) rfl ⟨rfl, HX.out.2.2.2.1⟩
theorem get_addr (s : ByteArray) (v : Bool) (hi lo : Int) (v' : Bool) (hi' lo' : Int) (hA : BA hi lo hi' lo') (hs : s.size ≤ 1099511627000) (P : List UInt8) (hPe : pseudoL v hi lo v' hi' lo' 17 (wt s 4 : Nat) = P) (w : World) (h1 : 8 ≤ s.size) (h2 : 8 ≤ wt s 4) (h3 : wt s 4 ≤ s.size) (hP : P = []) : Calls Try.prog 10 #[.string s, .agg #[.bool v, .int .u64 hi, .int .u64 lo], .agg #[.bool v', .int .u64 hi', .int .u64 lo']] w fun e w' => e = .returned (.tuple #[.agg #[.int .i64 (spG s P v), .int .i64 (dpG s P v)], .string (payG8 s P v), .int .i64 (errG8 s P v)]) ∧ Below w.heap.size w w' := by
  have he : errG8 s P v = 1 := by unfold errG8; rw [if_neg (by omega), if_neg (by omega), if_neg (by omega), if_pos hP]
  obtain ⟨hs1, hs2, hp⟩ := headG8_no he (by omega)
  rw [hs1, hs2, hp, he]
  clear he hs1 hs2 hp
  have h8i : ¬ (s.size : Int) < 8 := by omega
  have HM4 := R02.must_seg s 4 2 4 2 rfl rfl (by unfold maxLen; omega) (by omega) (by omega) (by omega)
  rw [show seg s 4 2 = wt s 4 from wt_num s 4 (by omega)] at HM4
  have HM4 := Lib.hid HM4
  have HM6 := R02.must_seg s 6 2 6 2 rfl rfl (by unfold maxLen; omega) (by omega) (by omega) (by omega)
  rw [show seg s 6 2 = wt s 6 from wt_num s 6 (by omega)] at HM6
  have HM6 := Lib.hid HM6
  have HX : Hid (Held3 w.heap.size (w.heap.size + 1 + 1) 23 #[.int .i64 (0), .int .i64 (0)] w.heap.size 26 #[.bool v, .int .u64 hi, .int .u64 lo] (w.heap.size + 1) 26 #[.bool v', .int .u64 hi', .int .u64 lo'] w (((w.alloc (.cells #[.bool v, .int .u64 hi, .int .u64 lo] 26)).alloc (.cells #[.bool v', .int .u64 hi', .int .u64 lo'] 26)).alloc (.cells #[.int .i64 (0), .int .i64 (0)] 23))) := by
    refine Lib.hid ⟨?_, ((HasB.new w _ _).alloc _).alloc _, ?_, (((Below.refl _ _).alloc (Nat.le_refl _) _).alloc (by simp) _).alloc (by simp; omega) _, by simp; omega⟩
    · have := HasB.new ((w.alloc (.cells #[.bool v, .int .u64 hi, .int .u64 lo] 26)).alloc (.cells #[.bool v', .int .u64 hi', .int .u64 lo'] 26)) 23 #[.int .i64 (0), .int .i64 (0)]
      simpa using this
    · have := (HasB.new (w.alloc (.cells #[.bool v, .int .u64 hi, .int .u64 lo] 26)) 26 #[.bool v', .int .u64 hi', .int .u64 lo']).alloc (.cells #[.int .i64 (0), .int .i64 (0)] 23)
      simpa using this
  obtain ⟨k0, k1, k2, k3, k4, k5⟩ := cells6A HX.out
  have hro := HasB.rowOk HX.out.1 (n := 2) rfl
  have PS := R05.pseudo_any v hi lo v' hi' lo' 17 (wt s 4 : Nat) hA.a0 hA.a1 hA.b0 hA.b1 hA.c0 hA.c1 hA.d0 hA.d1
  have hPl : P.length ≤ 40 := by rw [← hPe]; exact (pseudoL_len _ _ _ _ _ _ _ _).1
  rw [hPe] at PS
  have PS := Lib.hid PS
  have v1 : ¬ ((wt s 4 : Nat) : Int) < 8 := by omega
  have v3 : ¬ (s.size : Int) < (wt s 4 : Nat) := by omega
  subst hP
  clear h2 h3 hPe
  go_enter Try.func10, Try.ntmps10
  go_wp2_with (first | (go_at_call 23; (with_reducible refine (HM4.out _).mono ?_); rintro e wm ⟨rfl, rfl⟩) | (go_at_call 15; (with_reducible refine (PS.out _).mono ?_); rintro e wa ⟨rfl, hb⟩; clear k0 k1 k2 k3 k4 k5 hro; replace HX := Lib.hid (HX.out.next hb); clear hb; obtain ⟨k0, k1, k2, k3, k4, k5⟩ := cells6A HX.out; have hro := HasB.rowOk HX.out.1 (n := 2) rfl) | fail)
  have HW := HasB.setRow HX.out.1 #[.int .i64 (0), .int .i64 (0)]
  have HL := below_setRow HX.out.2.2.2.1 (show w.heap.size ≤ w.heap.size + 1 + 1 by omega) #[.int .i64 (0), .int .i64 (0)]
  (try simp only [Exit.inBlock, Exit.then]); refine bodyPost_ret (v := .tuple #[.agg #[.int .i64 (0), .int .i64 (0)], .string ⟨#[]⟩, .int .i64 1]) (results_cell3 Try.results10 _ _ (w.heap.size + 1 + 1) _ _ rfl HW Try.underlying23 infoR8 rfl rfl) rfl ⟨rfl, HL⟩
theorem get_six (s : ByteArray) (v : Bool) (hi lo : Int) (v' : Bool) (hi' lo' : Int) (hA : BA hi lo hi' lo') (hs : s.size ≤ 1099511627000) (P : List UInt8) (hPe : pseudoL v hi lo v' hi' lo' 17 (wt s 4 : Nat) = P) (w : World) (h1 : 8 ≤ s.size) (h2 : 8 ≤ wt s 4) (h3 : wt s 4 ≤ s.size) (hP : P ≠ []) (h6 : wt s 6 = 0) (hv : v = true) : Calls Try.prog 10 #[.string s, .agg #[.bool v, .int .u64 hi, .int .u64 lo], .agg #[.bool v', .int .u64 hi', .int .u64 lo']] w fun e w' => e = .returned (.tuple #[.agg #[.int .i64 (spG s P v), .int .i64 (dpG s P v)], .string (payG8 s P v), .int .i64 (errG8 s P v)]) ∧ Below w.heap.size w w' := by
  have he : errG8 s P v = 4 := by unfold errG8; rw [if_neg (by omega), if_neg (by omega), if_neg (by omega), if_neg hP, if_pos h6, if_pos hv]
  obtain ⟨hs1, hs2, hp⟩ := headG8_no he (by omega)
  rw [hs1, hs2, hp, he]
  clear he hs1 hs2 hp
  have HV := Lib.hid hv
  clear hv
  have h8i : ¬ (s.size : Int) < 8 := by omega
  have HM4 := R02.must_seg s 4 2 4 2 rfl rfl (by unfold maxLen; omega) (by omega) (by omega) (by omega)
  rw [show seg s 4 2 = wt s 4 from wt_num s 4 (by omega)] at HM4
  have HM4 := Lib.hid HM4
  have HM6 := R02.must_seg s 6 2 6 2 rfl rfl (by unfold maxLen; omega) (by omega) (by omega) (by omega)
  rw [show seg s 6 2 = wt s 6 from wt_num s 6 (by omega)] at HM6
  have HM6 := Lib.hid HM6
  have HX : Hid (Held3 w.heap.size (w.heap.size + 1 + 1) 23 #[.int .i64 (0), .int .i64 (0)] w.heap.size 26 #[.bool v, .int .u64 hi, .int .u64 lo] (w.heap.size + 1) 26 #[.bool v', .int .u64 hi', .int .u64 lo'] w (((w.alloc (.cells #[.bool v, .int .u64 hi, .int .u64 lo] 26)).alloc (.cells #[.bool v', .int .u64 hi', .int .u64 lo'] 26)).alloc (.cells #[.int .i64 (0), .int .i64 (0)] 23))) := by
    refine Lib.hid ⟨?_, ((HasB.new w _ _).alloc _).alloc _, ?_, (((Below.refl _ _).alloc (Nat.le_refl _) _).alloc (by simp) _).alloc (by simp; omega) _, by simp; omega⟩
    · have := HasB.new ((w.alloc (.cells #[.bool v, .int .u64 hi, .int .u64 lo] 26)).alloc (.cells #[.bool v', .int .u64 hi', .int .u64 lo'] 26)) 23 #[.int .i64 (0), .int .i64 (0)]
      simpa using this
    · have := (HasB.new (w.alloc (.cells #[.bool v, .int .u64 hi, .int .u64 lo] 26)) 26 #[.bool v', .int .u64 hi', .int .u64 lo']).alloc (.cells #[.int .i64 (0), .int .i64 (0)] 23)
      simpa using this
  obtain ⟨k0, k1, k2, k3, k4, k5⟩ := cells6A HX.out
  have hro := HasB.rowOk HX.out.1 (n := 2) rfl
  have PS := R05.pseudo_any v hi lo v' hi' lo' 17 (wt s 4 : Nat) hA.a0 hA.a1 hA.b0 hA.b1 hA.c0 hA.c1 hA.d0 hA.d1
  have hPl : P.length ≤ 40 := by rw [← hPe]; exact (pseudoL_len _ _ _ _ _ _ _ _).1
  rw [hPe] at PS
  have PS := Lib.hid PS
  have v1 : ¬ ((wt s 4 : Nat) : Int) < 8 := by omega
  have v3 : ¬ (s.size : Int) < (wt s 4 : Nat) := by omega
  have hq := nil_eq hP
  have w6 : (((wt s 6 : Nat) : Int) == 0) = true := by simp; omega
  clear h2 h3 hPe hP h6
  go_enter Try.func10, Try.ntmps10
  go_wp2_with (first | (go_at_call 23; (with_reducible refine (HM4.out _).mono ?_); rintro e wm ⟨rfl, rfl⟩) | (go_at_call 23; (with_reducible refine (HM6.out _).mono ?_); rintro e wm ⟨rfl, rfl⟩) | (go_at_call 15; (with_reducible refine (PS.out _).mono ?_); rintro e wa ⟨rfl, hb⟩; clear k0 k1 k2 k3 k4 k5 hro; replace HX := Lib.hid (HX.out.next hb); clear hb; obtain ⟨k0, k1, k2, k3, k4, k5⟩ := cells6A HX.out; have hro := HasB.rowOk HX.out.1 (n := 2) rfl) | fail)
  all_goals try exact Bool.noConfusion (HV.out.symm.trans ‹v = false›)
  have HW := HasB.setRow HX.out.1 #[.int .i64 (0), .int .i64 (0)]
  have HL := below_setRow HX.out.2.2.2.1 (show w.heap.size ≤ w.heap.size + 1 + 1 by omega) #[.int .i64 (0), .int .i64 (0)]
  (try simp only [Exit.inBlock, Exit.then]); refine bodyPost_ret (v := .tuple #[.agg #[.int .i64 (0), .int .i64 (0)], .string ⟨#[]⟩, .int .i64 4]) (results_cell3 Try.results10 _ _ (w.heap.size + 1 + 1) _ _ rfl HW Try.underlying23 infoR8 rfl rfl) rfl ⟨rfl, HL⟩
theorem get_sum (s : ByteArray) (v : Bool) (hi lo : Int) (v' : Bool) (hi' lo' : Int) (hA : BA hi lo hi' lo') (hs : s.size ≤ 1099511627000) (P : List UInt8) (hPe : pseudoL v hi lo v' hi' lo' 17 (wt s 4 : Nat) = P) (w : World) (h1 : 8 ≤ s.size) (h2 : 8 ≤ wt s 4) (h3 : wt s 4 ≤ s.size) (hP : P ≠ []) (h6 : wt s 6 ≠ 0) (h7 : sumL (P ++ s.data.toList.take (wt s 4)) ≠ 65535) : Calls Try.prog 10 #[.string s, .agg #[.bool v, .int .u64 hi, .int .u64 lo], .agg #[.bool v', .int .u64 hi', .int .u64 lo']] w fun e w' => e = .returned (.tuple #[.agg #[.int .i64 (spG s P v), .int .i64 (dpG s P v)], .string (payG8 s P v), .int .i64 (errG8 s P v)]) ∧ Below w.heap.size w w' := by
  have he : errG8 s P v = 4 := by unfold errG8; rw [if_neg (by omega), if_neg (by omega), if_neg (by omega), if_neg hP, if_neg h6, if_pos h7]
  obtain ⟨hs1, hs2, hp⟩ := headG8_no he (by omega)
  rw [hs1, hs2, hp, he]
  clear he hs1 hs2 hp
  have h8i : ¬ (s.size : Int) < 8 := by omega
  have HM4 := R02.must_seg s 4 2 4 2 rfl rfl (by unfold maxLen; omega) (by omega) (by omega) (by omega)
  rw [show seg s 4 2 = wt s 4 from wt_num s 4 (by omega)] at HM4
  have HM4 := Lib.hid HM4
  have HM6 := R02.must_seg s 6 2 6 2 rfl rfl (by unfold maxLen; omega) (by omega) (by omega) (by omega)
  rw [show seg s 6 2 = wt s 6 from wt_num s 6 (by omega)] at HM6
  have HM6 := Lib.hid HM6
  have HX : Hid (Held3 w.heap.size (w.heap.size + 1 + 1) 23 #[.int .i64 (0), .int .i64 (0)] w.heap.size 26 #[.bool v, .int .u64 hi, .int .u64 lo] (w.heap.size + 1) 26 #[.bool v', .int .u64 hi', .int .u64 lo'] w (((w.alloc (.cells #[.bool v, .int .u64 hi, .int .u64 lo] 26)).alloc (.cells #[.bool v', .int .u64 hi', .int .u64 lo'] 26)).alloc (.cells #[.int .i64 (0), .int .i64 (0)] 23))) := by
    refine Lib.hid ⟨?_, ((HasB.new w _ _).alloc _).alloc _, ?_, (((Below.refl _ _).alloc (Nat.le_refl _) _).alloc (by simp) _).alloc (by simp; omega) _, by simp; omega⟩
    · have := HasB.new ((w.alloc (.cells #[.bool v, .int .u64 hi, .int .u64 lo] 26)).alloc (.cells #[.bool v', .int .u64 hi', .int .u64 lo'] 26)) 23 #[.int .i64 (0), .int .i64 (0)]
      simpa using this
    · have := (HasB.new (w.alloc (.cells #[.bool v, .int .u64 hi, .int .u64 lo] 26)) 26 #[.bool v', .int .u64 hi', .int .u64 lo']).alloc (.cells #[.int .i64 (0), .int .i64 (0)] 23)
      simpa using this
  obtain ⟨k0, k1, k2, k3, k4, k5⟩ := cells6A HX.out
  have hro := HasB.rowOk HX.out.1 (n := 2) rfl
  have PS := R05.pseudo_any v hi lo v' hi' lo' 17 (wt s 4 : Nat) hA.a0 hA.a1 hA.b0 hA.b1 hA.c0 hA.c1 hA.d0 hA.d1
  have hPl : P.length ≤ 40 := by rw [← hPe]; exact (pseudoL_len _ _ _ _ _ _ _ _).1
  rw [hPe] at PS
  have PS := Lib.hid PS
  have v1 : ¬ ((wt s 4 : Nat) : Int) < 8 := by omega
  have v3 : ¬ (s.size : Int) < (wt s 4 : Nat) := by omega
  have hq := nil_eq hP
  have SM := R03.sum_any (⟨P.toArray⟩ ++ s.extract 0 (wt s 4)) (by rw [ByteArray.size_append, ByteArray.size_extract]; show P.length + _ ≤ _; omega)
  rw [app_str, ext_str', List.drop_zero, Nat.sub_zero, show (⟨P.toArray⟩ : ByteArray).data.toList = P by simp] at SM
  have SM := Lib.hid SM
  have v5 : (0 : Int) ≤ (wt s 4 : Nat) := by omega
  have v6 : ((wt s 4 : Nat) : Int) ≤ s.size := by omega
  have mn : min (wt s 4) s.size = wt s 4 := by omega
  have f3 : (9223372036854775807 < P.length + wt s 4) = False := eq_false (by omega)
  have w6 : (((wt s 6 : Nat) : Int) == 0) = false := by simp; omega
  have v4 : (((sumL (P ++ s.data.toList.take (wt s 4)) : Nat) : Int) != 65535) = true := by simp; omega
  clear h2 h3 hPe hP h6 h7
  go_enter Try.func10, Try.ntmps10
  go_wp2_with (first | (go_at_call 23; (with_reducible refine (HM4.out _).mono ?_); rintro e wm ⟨rfl, rfl⟩) | (go_at_call 23; (with_reducible refine (HM6.out _).mono ?_); rintro e wm ⟨rfl, rfl⟩) | (go_at_call 15; (with_reducible refine (PS.out _).mono ?_); rintro e wa ⟨rfl, hb⟩; clear k0 k1 k2 k3 k4 k5 hro; replace HX := Lib.hid (HX.out.next hb); clear hb; obtain ⟨k0, k1, k2, k3, k4, k5⟩ := cells6A HX.out; have hro := HasB.rowOk HX.out.1 (n := 2) rfl) | (go_at_call 24; (with_reducible refine (SM.out _).mono ?_); rintro e wb ⟨rfl, hb⟩; clear k0 k1 k2 k3 k4 k5 hro; replace HX := Lib.hid (HX.out.next hb); clear hb; obtain ⟨k0, k1, k2, k3, k4, k5⟩ := cells6A HX.out; have hro := HasB.rowOk HX.out.1 (n := 2) rfl) | fail)
  have HW := HasB.setRow HX.out.1 #[.int .i64 (0), .int .i64 (0)]
  have HL := below_setRow HX.out.2.2.2.1 (show w.heap.size ≤ w.heap.size + 1 + 1 by omega) #[.int .i64 (0), .int .i64 (0)]
  (try simp only [Exit.inBlock, Exit.then]); refine bodyPost_ret (v := .tuple #[.agg #[.int .i64 (0), .int .i64 (0)], .string ⟨#[]⟩, .int .i64 4]) (results_cell3 Try.results10 _ _ (w.heap.size + 1 + 1) _ _ rfl HW Try.underlying23 infoR8 rfl rfl) rfl ⟨rfl, HL⟩
set_option maxRecDepth 100000 in
set_option maxHeartbeats 4000000 in
theorem get_ok0 (s : ByteArray) (v : Bool) (hi lo : Int) (v' : Bool) (hi' lo' : Int) (hA : BA hi lo hi' lo') (hs : s.size ≤ 1099511627000) (P : List UInt8) (hPe : pseudoL v hi lo v' hi' lo' 17 (wt s 4 : Nat) = P) (w : World) (h1 : 8 ≤ s.size) (h2 : 8 ≤ wt s 4) (h3 : wt s 4 ≤ s.size) (hP : P ≠ []) (h6 : wt s 6 = 0) (hv : v = false) (he : errG8 s P v = 0) : Calls Try.prog 10 #[.string s, .agg #[.bool v, .int .u64 hi, .int .u64 lo], .agg #[.bool v', .int .u64 hi', .int .u64 lo']] w fun e w' => e = .returned (.tuple #[.agg #[.int .i64 (spG s P v), .int .i64 (dpG s P v)], .string (payG8 s P v), .int .i64 (errG8 s P v)]) ∧ Below w.heap.size w w' := by
  have e1 : spG s P v = (wt s 0 : Nat) := if_pos he
  have e2 : dpG s P v = (wt s 2 : Nat) := if_pos he
  have e3 : payG8 s P v = s.extract 8 (wt s 4) := if_pos he
  rw [e1, e2, e3, he]
  clear he e1 e2 e3
  have HV := Lib.hid hv
  clear hv
  have h8i : ¬ (s.size : Int) < 8 := by omega
  have HM4 := R02.must_seg s 4 2 4 2 rfl rfl (by unfold maxLen; omega) (by omega) (by omega) (by omega)
  rw [show seg s 4 2 = wt s 4 from wt_num s 4 (by omega)] at HM4
  have HM4 := Lib.hid HM4
  have HM6 := R02.must_seg s 6 2 6 2 rfl rfl (by unfold maxLen; omega) (by omega) (by omega) (by omega)
  rw [show seg s 6 2 = wt s 6 from wt_num s 6 (by omega)] at HM6
  have HM6 := Lib.hid HM6
  have HX : Hid (Held3 w.heap.size (w.heap.size + 1 + 1) 23 #[.int .i64 (0), .int .i64 (0)] w.heap.size 26 #[.bool v, .int .u64 hi, .int .u64 lo] (w.heap.size + 1) 26 #[.bool v', .int .u64 hi', .int .u64 lo'] w (((w.alloc (.cells #[.bool v, .int .u64 hi, .int .u64 lo] 26)).alloc (.cells #[.bool v', .int .u64 hi', .int .u64 lo'] 26)).alloc (.cells #[.int .i64 (0), .int .i64 (0)] 23))) := by
    refine Lib.hid ⟨?_, ((HasB.new w _ _).alloc _).alloc _, ?_, (((Below.refl _ _).alloc (Nat.le_refl _) _).alloc (by simp) _).alloc (by simp; omega) _, by simp; omega⟩
    · have := HasB.new ((w.alloc (.cells #[.bool v, .int .u64 hi, .int .u64 lo] 26)).alloc (.cells #[.bool v', .int .u64 hi', .int .u64 lo'] 26)) 23 #[.int .i64 (0), .int .i64 (0)]
      simpa using this
    · have := (HasB.new (w.alloc (.cells #[.bool v, .int .u64 hi, .int .u64 lo] 26)) 26 #[.bool v', .int .u64 hi', .int .u64 lo']).alloc (.cells #[.int .i64 (0), .int .i64 (0)] 23)
      simpa using this
  obtain ⟨k0, k1, k2, k3, k4, k5⟩ := cells6A HX.out
  have hro := HasB.rowOk HX.out.1 (n := 2) rfl
  have PS := R05.pseudo_any v hi lo v' hi' lo' 17 (wt s 4 : Nat) hA.a0 hA.a1 hA.b0 hA.b1 hA.c0 hA.c1 hA.d0 hA.d1
  have hPl : P.length ≤ 40 := by rw [← hPe]; exact (pseudoL_len _ _ _ _ _ _ _ _).1
  rw [hPe] at PS
  have PS := Lib.hid PS
  have v1 : ¬ ((wt s 4 : Nat) : Int) < 8 := by omega
  have v3 : ¬ (s.size : Int) < (wt s 4 : Nat) := by omega
  have hq := nil_eq hP
  have w6 : (((wt s 6 : Nat) : Int) == 0) = true := by simp; omega
  have hm : s.size ≤ maxLen := by unfold maxLen; omega
  have HM1 := Lib.hid (R02.must_seg s 0 2 0 2 rfl rfl hm (by omega) (by omega) (by omega))
  have HM2 := Lib.hid (R02.must_seg s 2 2 2 2 rfl rfl hm (by omega) (by omega) (by omega))
  rw [show seg s 0 2 = wt s 0 from wt_num s 0 (by omega)] at HM1
  rw [show seg s 2 2 = wt s 2 from wt_num s 2 (by omega)] at HM2
  have v7 : (8 : Int) ≤ (wt s 4 : Nat) := by omega
  have v8 : ((wt s 4 : Nat) : Int) ≤ s.size := by omega
  clear h1 h2 h3 h6 hPe hP
  go_enter Try.func10, Try.ntmps10
  go_wp2_with (first | (go_at_call 23; (with_reducible refine (HM4.out _).mono ?_); rintro e wm ⟨rfl, rfl⟩) | (go_at_call 23; (with_reducible refine (HM6.out _).mono ?_); rintro e wm ⟨rfl, rfl⟩) | (go_at_call 15; (with_reducible refine (PS.out _).mono ?_); rintro e wa ⟨rfl, hb⟩; clear k0 k1 k2 k3 k4 k5 hro; replace HX := Lib.hid (HX.out.next hb); clear hb; obtain ⟨k0, k1, k2, k3, k4, k5⟩ := cells6A HX.out; have hro := HasB.rowOk HX.out.1 (n := 2) rfl) | fail)
  all_goals try exact Bool.noConfusion (HV.out.symm.trans ‹v = true›)
  have d0 := HasB.cell HX.out.1 0 (.int .i64 0) rfl
  have d1 := HasB.cell HX.out.1 1 (.int .i64 0) rfl
  have f0 := HasB.free HX.out.1 0
  have f1 := HasB.free HX.out.1 1
  clear hro
  refine wp_region_noPanic ?_
  refine wp_region_held_drew (S := (fun _ => True)) (by kernel_rfl) trivial (fun hHeld => ?_)
  refine wpAnyH_take (i := 0) (oi := _) (v := ?v0a) rfl (by kernel_rfl) (by kernel_rfl) (by kernel_rfl) (fun _ _ _ h => h) (Or.inl ⟨by rfl, ?y0a⟩) (by assumption) ?r0a
  case y0a => intro w0 hSw; (try dsimp only at hSw); go_simp; try with_reducible rfl
  try simp only [Act.put, List.setIfInBounds_toArray, List.set_cons_zero, List.set_cons_succ, List.getElem_toArray, List.getElem_cons_zero]
  refine wpAnyH_take (i := 2) (oi := _) (v := ?v2a) rfl (by kernel_rfl) (by kernel_rfl) (by kernel_rfl) (fun _ _ _ h => h) (Or.inl ⟨by rfl, ?y2a⟩) (by assumption) ?r2a
  case y2a => intro w0 hSw; (try dsimp only at hSw); go_simp; try with_reducible rfl
  try simp only [Act.put, List.setIfInBounds_toArray, List.set_cons_zero, List.set_cons_succ, List.getElem_toArray, List.getElem_cons_succ, List.getElem_cons_zero]
  refine wpAnyH_take (i := 5) (oi := _) (v := ?v5a) rfl (by kernel_rfl) (by kernel_rfl) (by kernel_rfl) (fun _ _ _ h => h) (Or.inl ⟨by rfl, ?y5a⟩) (by assumption) ?r5a
  case y5a => intro w0 hSw; (try dsimp only at hSw); go_simp; try with_reducible rfl
  try simp only [Act.put, List.setIfInBounds_toArray, List.set_cons_zero, List.set_cons_succ, List.getElem_toArray, List.getElem_cons_succ, List.getElem_cons_zero]
  refine wpAnyH_take (i := 6) (oi := _) (v := ?v6a) rfl (by kernel_rfl) (by kernel_rfl) (by kernel_rfl) (fun _ _ _ h => h) (Or.inl ⟨by rfl, ?y6a⟩) (by assumption) ?r6a
  case y6a => intro w0 hSw; (try dsimp only at hSw); go_simp; try with_reducible rfl
  try simp only [Act.put, List.setIfInBounds_toArray, List.set_cons_zero, List.set_cons_succ, List.getElem_toArray, List.getElem_cons_succ, List.getElem_cons_zero]
  refine wpAnyH_take (i := 7) (oi := _) (v := ?v7a) rfl (by kernel_rfl) (by kernel_rfl) (by kernel_rfl) (fun _ _ _ h => h) (Or.inl ⟨by rfl, ?y7a⟩) (by assumption) ?r7a
  case y7a => intro w0 hSw; (try dsimp only at hSw); go_simp; try with_reducible rfl
  try simp only [Act.put, List.setIfInBounds_toArray, List.set_cons_zero, List.set_cons_succ, List.getElem_toArray, List.getElem_cons_succ, List.getElem_cons_zero]
  refine wpAnyH_ready (rs := [1]) (by kernel_rfl) (by simp) ?_
  refine AllReadyH.cons (o := _) rfl (fun K hK => ?_) AllReadyH.nil
  go_simp
  (with_reducible refine (HM1.out _).mono ?_)
  rintro e wz ⟨rfl, rfl⟩
  go_wp2_with fail
  refine hK.out _ _ trivial (fun hHeld => ?_)
  clear hK K
  try simp only [Act.put, List.setIfInBounds_toArray, List.set_cons_zero, List.set_cons_succ, List.getElem_toArray, List.getElem_cons_succ, List.getElem_cons_zero]
  refine wpAnyH_ready (rs := [3]) (by kernel_rfl) (by simp) ?_
  refine AllReadyH.cons (o := _) rfl (fun K hK => ?_) AllReadyH.nil
  go_simp
  (with_reducible refine (HM2.out _).mono ?_)
  rintro e wz ⟨rfl, rfl⟩
  go_wp2_with fail
  refine hK.out _ _ trivial (fun hHeld => ?_)
  clear hK K
  try simp only [Act.put, List.setIfInBounds_toArray, List.set_cons_zero, List.set_cons_succ, List.getElem_toArray, List.getElem_cons_succ, List.getElem_cons_zero]
  refine wpAnyH_take (i := 4) (oi := _) (v := ?v4a) rfl (by kernel_rfl) (by kernel_rfl) (by kernel_rfl) (fun _ _ _ h => h) (Or.inl ⟨by rfl, ?y4a⟩) (by assumption) ?r4a
  case y4a => intro w0 hSw; (try dsimp only at hSw); go_simp; try with_reducible rfl
  try simp only [Act.put, List.setIfInBounds_toArray, List.set_cons_zero, List.set_cons_succ, List.getElem_toArray, List.getElem_cons_succ, List.getElem_cons_zero]
  refine wpAnyH_ready (rs := [8]) (by kernel_rfl) (by simp) ?_
  refine AllReadyH.cons (o := _) rfl (fun K hK => ?_) AllReadyH.nil
  go_simp
  have HW2 := putAll_hasB HX.out.1 [.int .i64 (wt s 0 : Nat), .int .i64 (wt s 2 : Nat)] rfl
  have HL2 := putAll_below (show w.heap.size ≤ w.heap.size + 1 + 1 by omega) [.int .i64 (wt s 0 : Nat), .int .i64 (wt s 2 : Nat)] 0 _ HX.out.2.2.2.1
  simp only [putAll, Nat.zero_add] at HW2 HL2
  revert HW2 HL2
  generalize World.setCell _ (⟨w.heap.size + 1 + 1, 1, none⟩ : Addr) _ = Y
  intro HW2 HL2
  refine hK.out _ _ trivial (fun hHeld => ?_)
  clear hK K
  try simp only [Act.put, List.setIfInBounds_toArray, List.set_cons_zero, List.set_cons_succ, List.getElem_toArray, List.getElem_cons_succ, List.getElem_cons_zero]
  refine wpAnyH_take (i := 9) (oi := _) (v := ?v9a) rfl (by kernel_rfl) (by kernel_rfl) (by kernel_rfl) (fun _ _ _ h => h) (Or.inl ⟨by rfl, ?y9a⟩) (by assumption) ?r9a
  case y9a => intro w0 hSw; (try dsimp only at hSw); go_simp; try with_reducible rfl
  try simp only [Act.put, List.setIfInBounds_toArray, List.set_cons_zero, List.set_cons_succ, List.getElem_toArray, List.getElem_cons_succ, List.getElem_cons_zero]
  refine wpAnyH_take (i := 10) (oi := _) (v := ?v10a) rfl (by kernel_rfl) (by kernel_rfl) (by kernel_rfl) (fun _ _ _ h => h) (Or.inl ⟨by rfl, ?y10a⟩) (by assumption) ?r10a
  case y10a => intro w0 hSw; (try dsimp only at hSw); go_simp; try with_reducible rfl
  try simp only [Act.put, List.setIfInBounds_toArray, List.set_cons_zero, List.set_cons_succ, List.getElem_toArray, List.getElem_cons_succ, List.getElem_cons_zero]
  refine wpAnyH_done (by kernel_rfl) ?_ _
  refine NoPanic.normal ?_
  go_wp2_with fail
  have HW3 := HW2.drew
  have HL3 := HL2.drew
  (try simp only [Exit.inBlock, Exit.then]); refine bodyPost_ret (v := .tuple #[.agg #[.int .i64 ((wt s 0 : Nat)), .int .i64 ((wt s 2 : Nat))], .string (s.extract 8 (wt s 4)), .int .i64 0]) (results_cell3 Try.results10 _ _ (w.heap.size + 1 + 1) _ _ rfl HW3 Try.underlying23 infoR8 rfl rfl) rfl ⟨rfl, HL3⟩
set_option maxRecDepth 100000 in
set_option maxHeartbeats 4000000 in
theorem get_ok1 (s : ByteArray) (v : Bool) (hi lo : Int) (v' : Bool) (hi' lo' : Int) (hA : BA hi lo hi' lo') (hs : s.size ≤ 1099511627000) (P : List UInt8) (hPe : pseudoL v hi lo v' hi' lo' 17 (wt s 4 : Nat) = P) (w : World) (h1 : 8 ≤ s.size) (h2 : 8 ≤ wt s 4) (h3 : wt s 4 ≤ s.size) (hP : P ≠ []) (h6 : wt s 6 ≠ 0) (h7 : sumL (P ++ s.data.toList.take (wt s 4)) = 65535) (he : errG8 s P v = 0) : Calls Try.prog 10 #[.string s, .agg #[.bool v, .int .u64 hi, .int .u64 lo], .agg #[.bool v', .int .u64 hi', .int .u64 lo']] w fun e w' => e = .returned (.tuple #[.agg #[.int .i64 (spG s P v), .int .i64 (dpG s P v)], .string (payG8 s P v), .int .i64 (errG8 s P v)]) ∧ Below w.heap.size w w' := by
  have e1 : spG s P v = (wt s 0 : Nat) := if_pos he
  have e2 : dpG s P v = (wt s 2 : Nat) := if_pos he
  have e3 : payG8 s P v = s.extract 8 (wt s 4) := if_pos he
  rw [e1, e2, e3, he]
  clear he e1 e2 e3
  have h8i : ¬ (s.size : Int) < 8 := by omega
  have HM4 := R02.must_seg s 4 2 4 2 rfl rfl (by unfold maxLen; omega) (by omega) (by omega) (by omega)
  rw [show seg s 4 2 = wt s 4 from wt_num s 4 (by omega)] at HM4
  have HM4 := Lib.hid HM4
  have HM6 := R02.must_seg s 6 2 6 2 rfl rfl (by unfold maxLen; omega) (by omega) (by omega) (by omega)
  rw [show seg s 6 2 = wt s 6 from wt_num s 6 (by omega)] at HM6
  have HM6 := Lib.hid HM6
  have HX : Hid (Held3 w.heap.size (w.heap.size + 1 + 1) 23 #[.int .i64 (0), .int .i64 (0)] w.heap.size 26 #[.bool v, .int .u64 hi, .int .u64 lo] (w.heap.size + 1) 26 #[.bool v', .int .u64 hi', .int .u64 lo'] w (((w.alloc (.cells #[.bool v, .int .u64 hi, .int .u64 lo] 26)).alloc (.cells #[.bool v', .int .u64 hi', .int .u64 lo'] 26)).alloc (.cells #[.int .i64 (0), .int .i64 (0)] 23))) := by
    refine Lib.hid ⟨?_, ((HasB.new w _ _).alloc _).alloc _, ?_, (((Below.refl _ _).alloc (Nat.le_refl _) _).alloc (by simp) _).alloc (by simp; omega) _, by simp; omega⟩
    · have := HasB.new ((w.alloc (.cells #[.bool v, .int .u64 hi, .int .u64 lo] 26)).alloc (.cells #[.bool v', .int .u64 hi', .int .u64 lo'] 26)) 23 #[.int .i64 (0), .int .i64 (0)]
      simpa using this
    · have := (HasB.new (w.alloc (.cells #[.bool v, .int .u64 hi, .int .u64 lo] 26)) 26 #[.bool v', .int .u64 hi', .int .u64 lo']).alloc (.cells #[.int .i64 (0), .int .i64 (0)] 23)
      simpa using this
  obtain ⟨k0, k1, k2, k3, k4, k5⟩ := cells6A HX.out
  have hro := HasB.rowOk HX.out.1 (n := 2) rfl
  have PS := R05.pseudo_any v hi lo v' hi' lo' 17 (wt s 4 : Nat) hA.a0 hA.a1 hA.b0 hA.b1 hA.c0 hA.c1 hA.d0 hA.d1
  have hPl : P.length ≤ 40 := by rw [← hPe]; exact (pseudoL_len _ _ _ _ _ _ _ _).1
  rw [hPe] at PS
  have PS := Lib.hid PS
  have v1 : ¬ ((wt s 4 : Nat) : Int) < 8 := by omega
  have v3 : ¬ (s.size : Int) < (wt s 4 : Nat) := by omega
  have hq := nil_eq hP
  have SM := R03.sum_any (⟨P.toArray⟩ ++ s.extract 0 (wt s 4)) (by rw [ByteArray.size_append, ByteArray.size_extract]; show P.length + _ ≤ _; omega)
  rw [app_str, ext_str', List.drop_zero, Nat.sub_zero, show (⟨P.toArray⟩ : ByteArray).data.toList = P by simp] at SM
  have SM := Lib.hid SM
  have v5 : (0 : Int) ≤ (wt s 4 : Nat) := by omega
  have v6 : ((wt s 4 : Nat) : Int) ≤ s.size := by omega
  have mn : min (wt s 4) s.size = wt s 4 := by omega
  have f3 : (9223372036854775807 < P.length + wt s 4) = False := eq_false (by omega)
  have w6 : (((wt s 6 : Nat) : Int) == 0) = false := by simp; omega
  have v4 : (((sumL (P ++ s.data.toList.take (wt s 4)) : Nat) : Int) != 65535) = false := by simp; omega
  clear h7
  have hm : s.size ≤ maxLen := by unfold maxLen; omega
  have HM1 := Lib.hid (R02.must_seg s 0 2 0 2 rfl rfl hm (by omega) (by omega) (by omega))
  have HM2 := Lib.hid (R02.must_seg s 2 2 2 2 rfl rfl hm (by omega) (by omega) (by omega))
  rw [show seg s 0 2 = wt s 0 from wt_num s 0 (by omega)] at HM1
  rw [show seg s 2 2 = wt s 2 from wt_num s 2 (by omega)] at HM2
  have v7 : (8 : Int) ≤ (wt s 4 : Nat) := by omega
  have v8 : ((wt s 4 : Nat) : Int) ≤ s.size := by omega
  clear h1 h2 h3 h6 hPe hP
  go_enter Try.func10, Try.ntmps10
  go_wp2_with (first | (go_at_call 23; (with_reducible refine (HM4.out _).mono ?_); rintro e wm ⟨rfl, rfl⟩) | (go_at_call 23; (with_reducible refine (HM6.out _).mono ?_); rintro e wm ⟨rfl, rfl⟩) | (go_at_call 15; (with_reducible refine (PS.out _).mono ?_); rintro e wa ⟨rfl, hb⟩; clear k0 k1 k2 k3 k4 k5 hro; replace HX := Lib.hid (HX.out.next hb); clear hb; obtain ⟨k0, k1, k2, k3, k4, k5⟩ := cells6A HX.out; have hro := HasB.rowOk HX.out.1 (n := 2) rfl) | (go_at_call 24; (with_reducible refine (SM.out _).mono ?_); rintro e wb ⟨rfl, hb⟩; clear k0 k1 k2 k3 k4 k5 hro; replace HX := Lib.hid (HX.out.next hb); clear hb; obtain ⟨k0, k1, k2, k3, k4, k5⟩ := cells6A HX.out; have hro := HasB.rowOk HX.out.1 (n := 2) rfl) | fail)
  have d0 := HasB.cell HX.out.1 0 (.int .i64 0) rfl
  have d1 := HasB.cell HX.out.1 1 (.int .i64 0) rfl
  have f0 := HasB.free HX.out.1 0
  have f1 := HasB.free HX.out.1 1
  clear hro
  refine wp_region_noPanic ?_
  refine wp_region_held_drew (S := (fun _ => True)) (by kernel_rfl) trivial (fun hHeld => ?_)
  refine wpAnyH_take (i := 0) (oi := _) (v := ?v0a) rfl (by kernel_rfl) (by kernel_rfl) (by kernel_rfl) (fun _ _ _ h => h) (Or.inl ⟨by rfl, ?y0a⟩) (by assumption) ?r0a
  case y0a => intro w0 hSw; (try dsimp only at hSw); go_simp; try with_reducible rfl
  try simp only [Act.put, List.setIfInBounds_toArray, List.set_cons_zero, List.set_cons_succ, List.getElem_toArray, List.getElem_cons_zero]
  refine wpAnyH_take (i := 2) (oi := _) (v := ?v2a) rfl (by kernel_rfl) (by kernel_rfl) (by kernel_rfl) (fun _ _ _ h => h) (Or.inl ⟨by rfl, ?y2a⟩) (by assumption) ?r2a
  case y2a => intro w0 hSw; (try dsimp only at hSw); go_simp; try with_reducible rfl
  try simp only [Act.put, List.setIfInBounds_toArray, List.set_cons_zero, List.set_cons_succ, List.getElem_toArray, List.getElem_cons_succ, List.getElem_cons_zero]
  refine wpAnyH_take (i := 5) (oi := _) (v := ?v5a) rfl (by kernel_rfl) (by kernel_rfl) (by kernel_rfl) (fun _ _ _ h => h) (Or.inl ⟨by rfl, ?y5a⟩) (by assumption) ?r5a
  case y5a => intro w0 hSw; (try dsimp only at hSw); go_simp; try with_reducible rfl
  try simp only [Act.put, List.setIfInBounds_toArray, List.set_cons_zero, List.set_cons_succ, List.getElem_toArray, List.getElem_cons_succ, List.getElem_cons_zero]
  refine wpAnyH_take (i := 6) (oi := _) (v := ?v6a) rfl (by kernel_rfl) (by kernel_rfl) (by kernel_rfl) (fun _ _ _ h => h) (Or.inl ⟨by rfl, ?y6a⟩) (by assumption) ?r6a
  case y6a => intro w0 hSw; (try dsimp only at hSw); go_simp; try with_reducible rfl
  try simp only [Act.put, List.setIfInBounds_toArray, List.set_cons_zero, List.set_cons_succ, List.getElem_toArray, List.getElem_cons_succ, List.getElem_cons_zero]
  refine wpAnyH_take (i := 7) (oi := _) (v := ?v7a) rfl (by kernel_rfl) (by kernel_rfl) (by kernel_rfl) (fun _ _ _ h => h) (Or.inl ⟨by rfl, ?y7a⟩) (by assumption) ?r7a
  case y7a => intro w0 hSw; (try dsimp only at hSw); go_simp; try with_reducible rfl
  try simp only [Act.put, List.setIfInBounds_toArray, List.set_cons_zero, List.set_cons_succ, List.getElem_toArray, List.getElem_cons_succ, List.getElem_cons_zero]
  refine wpAnyH_ready (rs := [1]) (by kernel_rfl) (by simp) ?_
  refine AllReadyH.cons (o := _) rfl (fun K hK => ?_) AllReadyH.nil
  go_simp
  (with_reducible refine (HM1.out _).mono ?_)
  rintro e wz ⟨rfl, rfl⟩
  go_wp2_with fail
  refine hK.out _ _ trivial (fun hHeld => ?_)
  clear hK K
  try simp only [Act.put, List.setIfInBounds_toArray, List.set_cons_zero, List.set_cons_succ, List.getElem_toArray, List.getElem_cons_succ, List.getElem_cons_zero]
  refine wpAnyH_ready (rs := [3]) (by kernel_rfl) (by simp) ?_
  refine AllReadyH.cons (o := _) rfl (fun K hK => ?_) AllReadyH.nil
  go_simp
  (with_reducible refine (HM2.out _).mono ?_)
  rintro e wz ⟨rfl, rfl⟩
  go_wp2_with fail
  refine hK.out _ _ trivial (fun hHeld => ?_)
  clear hK K
  try simp only [Act.put, List.setIfInBounds_toArray, List.set_cons_zero, List.set_cons_succ, List.getElem_toArray, List.getElem_cons_succ, List.getElem_cons_zero]
  refine wpAnyH_take (i := 4) (oi := _) (v := ?v4a) rfl (by kernel_rfl) (by kernel_rfl) (by kernel_rfl) (fun _ _ _ h => h) (Or.inl ⟨by rfl, ?y4a⟩) (by assumption) ?r4a
  case y4a => intro w0 hSw; (try dsimp only at hSw); go_simp; try with_reducible rfl
  try simp only [Act.put, List.setIfInBounds_toArray, List.set_cons_zero, List.set_cons_succ, List.getElem_toArray, List.getElem_cons_succ, List.getElem_cons_zero]
  refine wpAnyH_ready (rs := [8]) (by kernel_rfl) (by simp) ?_
  refine AllReadyH.cons (o := _) rfl (fun K hK => ?_) AllReadyH.nil
  go_simp
  have HW2 := putAll_hasB HX.out.1 [.int .i64 (wt s 0 : Nat), .int .i64 (wt s 2 : Nat)] rfl
  have HL2 := putAll_below (show w.heap.size ≤ w.heap.size + 1 + 1 by omega) [.int .i64 (wt s 0 : Nat), .int .i64 (wt s 2 : Nat)] 0 _ HX.out.2.2.2.1
  simp only [putAll, Nat.zero_add] at HW2 HL2
  revert HW2 HL2
  generalize World.setCell _ (⟨w.heap.size + 1 + 1, 1, none⟩ : Addr) _ = Y
  intro HW2 HL2
  refine hK.out _ _ trivial (fun hHeld => ?_)
  clear hK K
  try simp only [Act.put, List.setIfInBounds_toArray, List.set_cons_zero, List.set_cons_succ, List.getElem_toArray, List.getElem_cons_succ, List.getElem_cons_zero]
  refine wpAnyH_take (i := 9) (oi := _) (v := ?v9a) rfl (by kernel_rfl) (by kernel_rfl) (by kernel_rfl) (fun _ _ _ h => h) (Or.inl ⟨by rfl, ?y9a⟩) (by assumption) ?r9a
  case y9a => intro w0 hSw; (try dsimp only at hSw); go_simp; try with_reducible rfl
  try simp only [Act.put, List.setIfInBounds_toArray, List.set_cons_zero, List.set_cons_succ, List.getElem_toArray, List.getElem_cons_succ, List.getElem_cons_zero]
  refine wpAnyH_take (i := 10) (oi := _) (v := ?v10a) rfl (by kernel_rfl) (by kernel_rfl) (by kernel_rfl) (fun _ _ _ h => h) (Or.inl ⟨by rfl, ?y10a⟩) (by assumption) ?r10a
  case y10a => intro w0 hSw; (try dsimp only at hSw); go_simp; try with_reducible rfl
  try simp only [Act.put, List.setIfInBounds_toArray, List.set_cons_zero, List.set_cons_succ, List.getElem_toArray, List.getElem_cons_succ, List.getElem_cons_zero]
  refine wpAnyH_done (by kernel_rfl) ?_ _
  refine NoPanic.normal ?_
  go_wp2_with fail
  have HW3 := HW2.drew
  have HL3 := HL2.drew
  (try simp only [Exit.inBlock, Exit.then]); refine bodyPost_ret (v := .tuple #[.agg #[.int .i64 ((wt s 0 : Nat)), .int .i64 ((wt s 2 : Nat))], .string (s.extract 8 (wt s 4)), .int .i64 0]) (results_cell3 Try.results10 _ _ (w.heap.size + 1 + 1) _ _ rfl HW3 Try.underlying23 infoR8 rfl rfl) rfl ⟨rfl, HL3⟩
theorem get_any (s : ByteArray) (v : Bool) (hi lo : Int) (v' : Bool) (hi' lo' : Int) (hA : BA hi lo hi' lo') (hs : s.size ≤ 1099511627000) (P : List UInt8) (hPe : pseudoL v hi lo v' hi' lo' 17 (wt s 4 : Nat) = P) (w : World) : Calls Try.prog 10 #[.string s, .agg #[.bool v, .int .u64 hi, .int .u64 lo], .agg #[.bool v', .int .u64 hi', .int .u64 lo']] w fun e w' => e = .returned (.tuple #[.agg #[.int .i64 (spG s P v), .int .i64 (dpG s P v)], .string (payG8 s P v), .int .i64 (errG8 s P v)]) ∧ Below w.heap.size w w' := by
  by_cases h1 : s.size < 8
  · exact get_short s v hi lo v' hi' lo' hA hs P hPe w h1
  · by_cases h2 : wt s 4 < 8
    · exact get_form s v hi lo v' hi' lo' hA hs P hPe w (by omega) h2
    · by_cases h3 : s.size < wt s 4
      · exact get_cut s v hi lo v' hi' lo' hA hs P hPe w (by omega) (by omega) h3
      · by_cases hP : P = []
        · exact get_addr s v hi lo v' hi' lo' hA hs P hPe w (by omega) (by omega) (by omega) hP
        · by_cases h6 : wt s 6 = 0
          · cases hv : v with
            | true => subst hv; exact get_six s true hi lo v' hi' lo' hA hs P hPe w (by omega) (by omega) (by omega) hP h6 rfl
            | false =>
              subst hv
              refine get_ok0 s false hi lo v' hi' lo' hA hs P hPe w (by omega) (by omega) (by omega) hP h6 rfl ?_
              unfold errG8; rw [if_neg (by omega), if_neg (by omega), if_neg (by omega), if_neg hP, if_pos h6]; rfl
          · by_cases h7 : sumL (P ++ s.data.toList.take (wt s 4)) = 65535
            · exact get_ok1 s v hi lo v' hi' lo' hA hs P hPe w (by omega) (by omega) (by omega) hP h6 h7 (errG8_is (by omega) (by omega) (by omega) hP h6 h7)
            · exact get_sum s v hi lo v' hi' lo' hA hs P hPe w (by omega) (by omega) (by omega) hP h6 h7
end Go.Proofs.Ytkbfiikhflehaaa.R08
