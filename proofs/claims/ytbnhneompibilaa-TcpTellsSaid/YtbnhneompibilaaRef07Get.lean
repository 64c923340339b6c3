/- The contracts of cloakroomref07: Small, Get. -/
import Derived.Test.YtbnhneompibilaaRef07Put
import Derived.Test.YtbnhneompibilaaRef07Stamp
import Derived.Test.YtbnhneompibilaaReadAt
namespace Go.Proofs.Ytbnhneompibilaa.R07
open Go.RowKit
set_option linter.unusedVariables false
attribute [local go_sem ↓] ldH7 stH7 ldR7 stR7
attribute [local go_sem] rowAt_p rowOkAt_p setAt_p aggOf_a rowOk_new rowOf_new setRow_new agg7 aggT7
attribute [local go_sem ↓] Go.wp_at_zero Go.wp_at_succ

theorem cells6A {B g g' g2 : Nat} {t t' t2 : TypeId} {cs : Array Value} {v v' : Bool} {hi lo hi' lo' : Int} {w0 w : World} (H : Held3 B g t cs g' t' #[.bool v, .int .u64 hi, .int .u64 lo] g2 t2 #[.bool v', .int .u64 hi', .int .u64 lo'] w0 w) : w.cell? ⟨g', 0, none⟩ = some (.bool v) ∧ w.cell? ⟨g', 1, none⟩ = some (.int .u64 hi) ∧ w.cell? ⟨g', 2, none⟩ = some (.int .u64 lo) ∧ w.cell? ⟨g2, 0, none⟩ = some (.bool v') ∧ w.cell? ⟨g2, 1, none⟩ = some (.int .u64 hi') ∧ w.cell? ⟨g2, 2, none⟩ = some (.int .u64 lo') :=
  ⟨HasB.cell H.2.1 0 _ rfl, HasB.cell H.2.1 1 _ rfl, HasB.cell H.2.1 2 _ rfl, HasB.cell H.2.2.1 0 _ rfl, HasB.cell H.2.2.1 1 _ rfl, HasB.cell H.2.2.1 2 _ rfl⟩
theorem get_short (s : ByteArray) (v : Bool) (hi lo : Int) (v' : Bool) (hi' lo' : Int) (hA : BA hi lo hi' lo') (hs : s.size ≤ 1099511627000) (P : List UInt8) (hPe : pseudoL v hi lo v' hi' lo' 6 (s.size : Int) = P) (w : World) (h : s.size < 20) : Calls Try.prog 12 #[.string s, .agg #[.bool v, .int .u64 hi, .int .u64 lo], .agg #[.bool v', .int .u64 hi', .int .u64 lo']] w fun e w' => e = .returned (.tuple #[.agg #[.int .i64 (headG7 s P).sp, .int .i64 (headG7 s P).dp, .int .u32 (headG7 s P).sq, .int .u32 (headG7 s P).ak, .int .i64 (headG7 s P).fl, .int .i64 (headG7 s P).wn, .int .i64 (headG7 s P).ur, .string (headG7 s P).op], .string (payG7 s P), .int .i64 (errG7 s P)]) ∧ Below w.heap.size w w' := by
  have he : errG7 s P = 2 := by unfold errG7; rw [if_pos h]
  obtain ⟨hh, hp⟩ := headG7_no he (by omega)
  rw [hh, hp, he]
  show Calls _ _ _ _ fun e' w' => e' = .returned (.tuple #[.agg #[.int .i64 0, .int .i64 0, .int .u32 0, .int .u32 0, .int .i64 0, .int .i64 0, .int .i64 0, .string ⟨#[]⟩], .string ⟨#[]⟩, .int .i64 2]) ∧ Below w.heap.size w w'
  clear he hh hp
  have h20 : (s.size : Int) < 20 := by omega
  have HX : Hid (Held3 w.heap.size (w.heap.size + 1 + 1) 24 #[.int .i64 0, .int .i64 0, .int .u32 0, .int .u32 0, .int .i64 0, .int .i64 0, .int .i64 0, .string ⟨#[]⟩] w.heap.size 27 #[.bool v, .int .u64 hi, .int .u64 lo] (w.heap.size + 1) 27 #[.bool v', .int .u64 hi', .int .u64 lo'] w (((w.alloc (.cells #[.bool v, .int .u64 hi, .int .u64 lo] 27)).alloc (.cells #[.bool v', .int .u64 hi', .int .u64 lo'] 27)).alloc (.cells #[.int .i64 0, .int .i64 0, .int .u32 0, .int .u32 0, .int .i64 0, .int .i64 0, .int .i64 0, .string ⟨#[]⟩] 24))) := by
    refine Lib.hid ⟨?_, ((HasB.new w _ _).alloc _).alloc _, ?_, (((Below.refl _ _).alloc (Nat.le_refl _) _).alloc (by simp) _).alloc (by simp; omega) _, by simp; omega⟩
    · have := HasB.new ((w.alloc (.cells #[.bool v, .int .u64 hi, .int .u64 lo] 27)).alloc (.cells #[.bool v', .int .u64 hi', .int .u64 lo'] 27)) 24 #[.int .i64 0, .int .i64 0, .int .u32 0, .int .u32 0, .int .i64 0, .int .i64 0, .int .i64 0, .string ⟨#[]⟩]
      simpa using this
    · have := (HasB.new (w.alloc (.cells #[.bool v, .int .u64 hi, .int .u64 lo] 27)) 27 #[.bool v', .int .u64 hi', .int .u64 lo']).alloc (.cells #[.int .i64 0, .int .i64 0, .int .u32 0, .int .u32 0, .int .i64 0, .int .i64 0, .int .i64 0, .string ⟨#[]⟩] 24)
      simpa using this
  go_enter Try.func12, Try.ntmps12
  go_wp2_with fail
  (try simp only [Exit.inBlock, Exit.then]); refine bodyPost_ret (v := .tuple #[.agg #[.int .i64 0, .int .i64 0, .int .u32 0, .int .u32 0, .int .i64 0, .int .i64 0, .int .i64 0, .string ⟨#[]⟩], .string ⟨#[]⟩, .int .i64 2]) (results_cell3 Try.results12 _ _ (w.heap.size + 1 + 1) _ _ rfl HX.out.1 Try.underlying24 infoR7 rfl rfl) rfl ⟨rfl, HX.out.2.2.2.1⟩
theorem get_form (s : ByteArray) (v : Bool) (hi lo : Int) (v' : Bool) (hi' lo' : Int) (hA : BA hi lo hi' lo') (hs : s.size ≤ 1099511627000) (P : List UInt8) (hPe : pseudoL v hi lo v' hi' lo' 6 (s.size : Int) = P) (w : World) (h1 : 20 ≤ s.size) (h : szG s < 20 ∨ bt s 12 % 16 ≠ 0) : Calls Try.prog 12 #[.string s, .agg #[.bool v, .int .u64 hi, .int .u64 lo], .agg #[.bool v', .int .u64 hi', .int .u64 lo']] w fun e w' => e = .returned (.tuple #[.agg #[.int .i64 (headG7 s P).sp, .int .i64 (headG7 s P).dp, .int .u32 (headG7 s P).sq, .int .u32 (headG7 s P).ak, .int .i64 (headG7 s P).fl, .int .i64 (headG7 s P).wn, .int .i64 (headG7 s P).ur, .string (headG7 s P).op], .string (payG7 s P), .int .i64 (errG7 s P)]) ∧ Below w.heap.size w w' := by
  have he : errG7 s P = 3 := by unfold errG7; rw [if_neg (by omega), if_pos h]
  obtain ⟨hh, hp⟩ := headG7_no he (by omega)
  rw [hh, hp, he]
  show Calls _ _ _ _ fun e' w' => e' = .returned (.tuple #[.agg #[.int .i64 0, .int .i64 0, .int .u32 0, .int .u32 0, .int .i64 0, .int .i64 0, .int .i64 0, .string ⟨#[]⟩], .string ⟨#[]⟩, .int .i64 3]) ∧ Below w.heap.size w w'
  clear he hh hp
  have h20i : ¬ (s.size : Int) < 20 := by omega
  have q12 := byte_at s 12 (by omega)
  have b12 := bt_lt s 12
  have i12 : (12 : Int) < s.size := by omega
  have hz : (4 : Int) * (((bt s 12 : Nat) : Int) / 16) = (szG s : Nat) := by unfold szG; omega
  have HX : Hid (Held3 w.heap.size (w.heap.size + 1 + 1) 24 #[.int .i64 0, .int .i64 0, .int .u32 0, .int .u32 0, .int .i64 0, .int .i64 0, .int .i64 0, .string ⟨#[]⟩] w.heap.size 27 #[.bool v, .int .u64 hi, .int .u64 lo] (w.heap.size + 1) 27 #[.bool v', .int .u64 hi', .int .u64 lo'] w (((w.alloc (.cells #[.bool v, .int .u64 hi, .int .u64 lo] 27)).alloc (.cells #[.bool v', .int .u64 hi', .int .u64 lo'] 27)).alloc (.cells #[.int .i64 0, .int .i64 0, .int .u32 0, .int .u32 0, .int .i64 0, .int .i64 0, .int .i64 0, .string ⟨#[]⟩] 24))) := by
    refine Lib.hid ⟨?_, ((HasB.new w _ _).alloc _).alloc _, ?_, (((Below.refl _ _).alloc (Nat.le_refl _) _).alloc (by simp) _).alloc (by simp; omega) _, by simp; omega⟩
    · have := HasB.new ((w.alloc (.cells #[.bool v, .int .u64 hi, .int .u64 lo] 27)).alloc (.cells #[.bool v', .int .u64 hi', .int .u64 lo'] 27)) 24 #[.int .i64 0, .int .i64 0, .int .u32 0, .int .u32 0, .int .i64 0, .int .i64 0, .int .i64 0, .string ⟨#[]⟩]
      simpa using this
    · have := (HasB.new (w.alloc (.cells #[.bool v, .int .u64 hi, .int .u64 lo] 27)) 27 #[.bool v', .int .u64 hi', .int .u64 lo']).alloc (.cells #[.int .i64 0, .int .i64 0, .int .u32 0, .int .u32 0, .int .i64 0, .int .i64 0, .int .i64 0, .string ⟨#[]⟩] 24)
      simpa using this
  obtain ⟨k0, k1, k2, k3, k4, k5⟩ := cells6A HX.out
  have hro := HasB.rowOk HX.out.1 (n := 8) rfl
  by_cases h2 : szG s < 20
  · have v1 : ((szG s : Nat) : Int) < 20 := by omega
    clear h h2
    go_enter Try.func12, Try.ntmps12
    go_wp2_with fail
    (try simp only [Exit.inBlock, Exit.then]); refine bodyPost_ret (v := .tuple #[.agg #[.int .i64 0, .int .i64 0, .int .u32 0, .int .u32 0, .int .i64 0, .int .i64 0, .int .i64 0, .string ⟨#[]⟩], .string ⟨#[]⟩, .int .i64 3]) (results_cell3 Try.results12 _ _ (w.heap.size + 1 + 1) _ _ rfl HX.out.1 Try.underlying24 infoR7 rfl rfl) rfl ⟨rfl, HX.out.2.2.2.1⟩
  · have v1 : ¬ ((szG s : Nat) : Int) < 20 := by omega
    have v2 : (((bt s 12 : Nat) : Int) % 16 != 0) = true := by simp; omega
    clear h h2
    go_enter Try.func12, Try.ntmps12
    go_wp2_with fail
    (try simp only [Exit.inBlock, Exit.then]); refine bodyPost_ret (v := .tuple #[.agg #[.int .i64 0, .int .i64 0, .int .u32 0, .int .u32 0, .int .i64 0, .int .i64 0, .int .i64 0, .string ⟨#[]⟩], .string ⟨#[]⟩, .int .i64 3]) (results_cell3 Try.results12 _ _ (w.heap.size + 1 + 1) _ _ rfl HX.out.1 Try.underlying24 infoR7 rfl rfl) rfl ⟨rfl, HX.out.2.2.2.1⟩
theorem get_cut (s : ByteArray) (v : Bool) (hi lo : Int) (v' : Bool) (hi' lo' : Int) (hA : BA hi lo hi' lo') (hs : s.size ≤ 1099511627000) (P : List UInt8) (hPe : pseudoL v hi lo v' hi' lo' 6 (s.size : Int) = P) (w : World) (h1 : 20 ≤ s.size) (h2 : 20 ≤ szG s) (h3 : bt s 12 % 16 = 0) (h : s.size < szG s) : Calls Try.prog 12 #[.string s, .agg #[.bool v, .int .u64 hi, .int .u64 lo], .agg #[.bool v', .int .u64 hi', .int .u64 lo']] w fun e w' => e = .returned (.tuple #[.agg #[.int .i64 (headG7 s P).sp, .int .i64 (headG7 s P).dp, .int .u32 (headG7 s P).sq, .int .u32 (headG7 s P).ak, .int .i64 (headG7 s P).fl, .int .i64 (headG7 s P).wn, .int .i64 (headG7 s P).ur, .string (headG7 s P).op], .string (payG7 s P), .int .i64 (errG7 s P)]) ∧ Below w.heap.size w w' := by
  have he : errG7 s P = 2 := by unfold errG7; rw [if_neg (by omega), if_neg (by omega), if_pos h]
  obtain ⟨hh, hp⟩ := headG7_no he (by omega)
  rw [hh, hp, he]
  show Calls _ _ _ _ fun e' w' => e' = .returned (.tuple #[.agg #[.int .i64 0, .int .i64 0, .int .u32 0, .int .u32 0, .int .i64 0, .int .i64 0, .int .i64 0, .string ⟨#[]⟩], .string ⟨#[]⟩, .int .i64 2]) ∧ Below w.heap.size w w'
  clear he hh hp
  have h20i : ¬ (s.size : Int) < 20 := by omega
  have q12 := byte_at s 12 (by omega)
  have b12 := bt_lt s 12
  have i12 : (12 : Int) < s.size := by omega
  have hz : (4 : Int) * (((bt s 12 : Nat) : Int) / 16) = (szG s : Nat) := by unfold szG; omega
  have HX : Hid (Held3 w.heap.size (w.heap.size + 1 + 1) 24 #[.int .i64 0, .int .i64 0, .int .u32 0, .int .u32 0, .int .i64 0, .int .i64 0, .int .i64 0, .string ⟨#[]⟩] w.heap.size 27 #[.bool v, .int .u64 hi, .int .u64 lo] (w.heap.size + 1) 27 #[.bool v', .int .u64 hi', .int .u64 lo'] w (((w.alloc (.cells #[.bool v, .int .u64 hi, .int .u64 lo] 27)).alloc (.cells #[.bool v', .int .u64 hi', .int .u64 lo'] 27)).alloc (.cells #[.int .i64 0, .int .i64 0, .int .u32 0, .int .u32 0, .int .i64 0, .int .i64 0, .int .i64 0, .string ⟨#[]⟩] 24))) := by
    refine Lib.hid ⟨?_, ((HasB.new w _ _).alloc _).alloc _, ?_, (((Below.refl _ _).alloc (Nat.le_refl _) _).alloc (by simp) _).alloc (by simp; omega) _, by simp; omega⟩
    · have := HasB.new ((w.alloc (.cells #[.bool v, .int .u64 hi, .int .u64 lo] 27)).alloc (.cells #[.bool v', .int .u64 hi', .int .u64 lo'] 27)) 24 #[.int .i64 0, .int .i64 0, .int .u32 0, .int .u32 0, .int .i64 0, .int .i64 0, .int .i64 0, .string ⟨#[]⟩]
      simpa using this
    · have := (HasB.new (w.alloc (.cells #[.bool v, .int .u64 hi, .int .u64 lo] 27)) 27 #[.bool v', .int .u64 hi', .int .u64 lo']).alloc (.cells #[.int .i64 0, .int .i64 0, .int .u32 0, .int .u32 0, .int .i64 0, .int .i64 0, .int .i64 0, .string ⟨#[]⟩] 24)
      simpa using this
  obtain ⟨k0, k1, k2, k3, k4, k5⟩ := cells6A HX.out
  have hro := HasB.rowOk HX.out.1 (n := 8) rfl
  have v1 : ¬ ((szG s : Nat) : Int) < 20 := by omega
  have v2 : (((bt s 12 : Nat) : Int) % 16 != 0) = false := by simp; omega
  have v3 : (s.size : Int) < (szG s : Nat) := by omega
  clear h h2 h3
  go_enter Try.func12, Try.ntmps12
  go_wp2_with fail
  (try simp only [Exit.inBlock, Exit.then]); refine bodyPost_ret (v := .tuple #[.agg #[.int .i64 0, .int .i64 0, .int .u32 0, .int .u32 0, .int .i64 0, .int .i64 0, .int .i64 0, .string ⟨#[]⟩], .string ⟨#[]⟩, .int .i64 2]) (results_cell3 Try.results12 _ _ (w.heap.size + 1 + 1) _ _ rfl HX.out.1 Try.underlying24 infoR7 rfl rfl) rfl ⟨rfl, HX.out.2.2.2.1⟩
theorem list_free (s : ByteArray) (hs : s.size ≤ 1099511627776) (w : World) :
    Calls Try.prog 15 #[.string s] w fun e w' => ∃ v, e = .returned (.tuple #[v, .int .i64 (optsE s)]) ∧ Below w.heap.size w w' := by
  refine (list_any s hs w).mono ?_
  rintro e w' ⟨v, rfl, _, hb⟩
  exact ⟨v, rfl, hb⟩
theorem get_addr (s : ByteArray) (v : Bool) (hi lo : Int) (v' : Bool) (hi' lo' : Int) (hA : BA hi lo hi' lo') (hs : s.size ≤ 1099511627000) (P : List UInt8) (hPe : pseudoL v hi lo v' hi' lo' 6 (s.size : Int) = P) (w : World) (h1 : 20 ≤ s.size) (h2 : 20 ≤ szG s) (h3 : bt s 12 % 16 = 0) (h : szG s ≤ s.size) (hP : P = []) : Calls Try.prog 12 #[.string s, .agg #[.bool v, .int .u64 hi, .int .u64 lo], .agg #[.bool v', .int .u64 hi', .int .u64 lo']] w fun e w' => e = .returned (.tuple #[.agg #[.int .i64 (headG7 s P).sp, .int .i64 (headG7 s P).dp, .int .u32 (headG7 s P).sq, .int .u32 (headG7 s P).ak, .int .i64 (headG7 s P).fl, .int .i64 (headG7 s P).wn, .int .i64 (headG7 s P).ur, .string (headG7 s P).op], .string (payG7 s P), .int .i64 (errG7 s P)]) ∧ Below w.heap.size w w' := by
  have he : errG7 s P = 1 := by unfold errG7; rw [if_neg (by omega), if_neg (by omega), if_neg (by omega), if_pos hP]
  obtain ⟨hh, hp⟩ := headG7_no he (by omega)
  rw [hh, hp, he]
  show Calls _ _ _ _ fun e' w' => e' = .returned (.tuple #[.agg #[.int .i64 0, .int .i64 0, .int .u32 0, .int .u32 0, .int .i64 0, .int .i64 0, .int .i64 0, .string ⟨#[]⟩], .string ⟨#[]⟩, .int .i64 1]) ∧ Below w.heap.size w w'
  clear he hh hp
  have h20i : ¬ (s.size : Int) < 20 := by omega
  have q12 := byte_at s 12 (by omega)
  have b12 := bt_lt s 12
  have i12 : (12 : Int) < s.size := by omega
  have hz : (4 : Int) * (((bt s 12 : Nat) : Int) / 16) = (szG s : Nat) := by unfold szG; omega
  have HX : Hid (Held3 w.heap.size (w.heap.size + 1 + 1) 24 #[.int .i64 0, .int .i64 0, .int .u32 0, .int .u32 0, .int .i64 0, .int .i64 0, .int .i64 0, .string ⟨#[]⟩] w.heap.size 27 #[.bool v, .int .u64 hi, .int .u64 lo] (w.heap.size + 1) 27 #[.bool v', .int .u64 hi', .int .u64 lo'] w (((w.alloc (.cells #[.bool v, .int .u64 hi, .int .u64 lo] 27)).alloc (.cells #[.bool v', .int .u64 hi', .int .u64 lo'] 27)).alloc (.cells #[.int .i64 0, .int .i64 0, .int .u32 0, .int .u32 0, .int .i64 0, .int .i64 0, .int .i64 0, .string ⟨#[]⟩] 24))) := by
    refine Lib.hid ⟨?_, ((HasB.new w _ _).alloc _).alloc _, ?_, (((Below.refl _ _).alloc (Nat.le_refl _) _).alloc (by simp) _).alloc (by simp; omega) _, by simp; omega⟩
    · have := HasB.new ((w.alloc (.cells #[.bool v, .int .u64 hi, .int .u64 lo] 27)).alloc (.cells #[.bool v', .int .u64 hi', .int .u64 lo'] 27)) 24 #[.int .i64 0, .int .i64 0, .int .u32 0, .int .u32 0, .int .i64 0, .int .i64 0, .int .i64 0, .string ⟨#[]⟩]
      simpa using this
    · have := (HasB.new (w.alloc (.cells #[.bool v, .int .u64 hi, .int .u64 lo] 27)) 27 #[.bool v', .int .u64 hi', .int .u64 lo']).alloc (.cells #[.int .i64 0, .int .i64 0, .int .u32 0, .int .u32 0, .int .i64 0, .int .i64 0, .int .i64 0, .string ⟨#[]⟩] 24)
      simpa using this
  obtain ⟨k0, k1, k2, k3, k4, k5⟩ := cells6A HX.out
  have hro := HasB.rowOk HX.out.1 (n := 8) rfl
  have v1 : ¬ ((szG s : Nat) : Int) < 20 := by omega
  have v2 : (((bt s 12 : Nat) : Int) % 16 != 0) = false := by simp; omega
  have PS := R05.pseudo_any v hi lo v' hi' lo' 6 (s.size : Int) hA.a0 hA.a1 hA.b0 hA.b1 hA.c0 hA.c1 hA.d0 hA.d1
  have hPl : P.length ≤ 40 := by rw [← hPe]; exact (pseudoL_len _ _ _ _ _ _ _ _).1
  rw [hPe] at PS
  have PS := Lib.hid PS
  have v3 : ¬ (s.size : Int) < (szG s : Nat) := by omega
  subst hP
  clear h h2 h3 hPe
  go_enter Try.func12, Try.ntmps12
  go_wp2_with (first | (go_at_call 25; (with_reducible refine (PS.out _).mono ?_); rintro e wa ⟨rfl, hb⟩; replace HX := Lib.hid (HX.out.next hb); clear hb k0 k1 k2 k3 k4 k5 hro; have hro := HasB.rowOk HX.out.1 (n := 8) rfl) | fail)
  have HW := HasB.setRow HX.out.1 #[.int .i64 0, .int .i64 0, .int .u32 0, .int .u32 0, .int .i64 0, .int .i64 0, .int .i64 0, .string ⟨#[]⟩]
  have HL := below_setRow HX.out.2.2.2.1 (show w.heap.size ≤ w.heap.size + 1 + 1 by omega) #[.int .i64 0, .int .i64 0, .int .u32 0, .int .u32 0, .int .i64 0, .int .i64 0, .int .i64 0, .string ⟨#[]⟩]
  (try simp only [Exit.inBlock, Exit.then]); refine bodyPost_ret (v := .tuple #[.agg #[.int .i64 0, .int .i64 0, .int .u32 0, .int .u32 0, .int .i64 0, .int .i64 0, .int .i64 0, .string ⟨#[]⟩], .string ⟨#[]⟩, .int .i64 1]) (results_cell3 Try.results12 _ _ (w.heap.size + 1 + 1) _ _ rfl HW Try.underlying24 infoR7 rfl rfl) rfl ⟨rfl, HL⟩
theorem get_sum (s : ByteArray) (v : Bool) (hi lo : Int) (v' : Bool) (hi' lo' : Int) (hA : BA hi lo hi' lo') (hs : s.size ≤ 1099511627000) (P : List UInt8) (hPe : pseudoL v hi lo v' hi' lo' 6 (s.size : Int) = P) (w : World) (h1 : 20 ≤ s.size) (h2 : 20 ≤ szG s) (h3 : bt s 12 % 16 = 0) (h : szG s ≤ s.size) (hP : P ≠ []) (h4 : sumL (P ++ s.data.toList) ≠ 65535) : Calls Try.prog 12 #[.string s, .agg #[.bool v, .int .u64 hi, .int .u64 lo], .agg #[.bool v', .int .u64 hi', .int .u64 lo']] w fun e w' => e = .returned (.tuple #[.agg #[.int .i64 (headG7 s P).sp, .int .i64 (headG7 s P).dp, .int .u32 (headG7 s P).sq, .int .u32 (headG7 s P).ak, .int .i64 (headG7 s P).fl, .int .i64 (headG7 s P).wn, .int .i64 (headG7 s P).ur, .string (headG7 s P).op], .string (payG7 s P), .int .i64 (errG7 s P)]) ∧ Below w.heap.size w w' := by
  have he : errG7 s P = 4 := by unfold errG7; rw [if_neg (by omega), if_neg (by omega), if_neg (by omega), if_neg hP, if_pos h4]
  obtain ⟨hh, hp⟩ := headG7_no he (by omega)
  rw [hh, hp, he]
  show Calls _ _ _ _ fun e' w' => e' = .returned (.tuple #[.agg #[.int .i64 0, .int .i64 0, .int .u32 0, .int .u32 0, .int .i64 0, .int .i64 0, .int .i64 0, .string ⟨#[]⟩], .string ⟨#[]⟩, .int .i64 4]) ∧ Below w.heap.size w w'
  clear he hh hp
  have h20i : ¬ (s.size : Int) < 20 := by omega
  have q12 := byte_at s 12 (by omega)
  have b12 := bt_lt s 12
  have i12 : (12 : Int) < s.size := by omega
  have hz : (4 : Int) * (((bt s 12 : Nat) : Int) / 16) = (szG s : Nat) := by unfold szG; omega
  have HX : Hid (Held3 w.heap.size (w.heap.size + 1 + 1) 24 #[.int .i64 0, .int .i64 0, .int .u32 0, .int .u32 0, .int .i64 0, .int .i64 0, .int .i64 0, .string ⟨#[]⟩] w.heap.size 27 #[.bool v, .int .u64 hi, .int .u64 lo] (w.heap.size + 1) 27 #[.bool v', .int .u64 hi', .int .u64 lo'] w (((w.alloc (.cells #[.bool v, .int .u64 hi, .int .u64 lo] 27)).alloc (.cells #[.bool v', .int .u64 hi', .int .u64 lo'] 27)).alloc (.cells #[.int .i64 0, .int .i64 0, .int .u32 0, .int .u32 0, .int .i64 0, .int .i64 0, .int .i64 0, .string ⟨#[]⟩] 24))) := by
    refine Lib.hid ⟨?_, ((HasB.new w _ _).alloc _).alloc _, ?_, (((Below.refl _ _).alloc (Nat.le_refl _) _).alloc (by simp) _).alloc (by simp; omega) _, by simp; omega⟩
    · have := HasB.new ((w.alloc (.cells #[.bool v, .int .u64 hi, .int .u64 lo] 27)).alloc (.cells #[.bool v', .int .u64 hi', .int .u64 lo'] 27)) 24 #[.int .i64 0, .int .i64 0, .int .u32 0, .int .u32 0, .int .i64 0, .int .i64 0, .int .i64 0, .string ⟨#[]⟩]
      simpa using this
    · have := (HasB.new (w.alloc (.cells #[.bool v, .int .u64 hi, .int .u64 lo] 27)) 27 #[.bool v', .int .u64 hi', .int .u64 lo']).alloc (.cells #[.int .i64 0, .int .i64 0, .int .u32 0, .int .u32 0, .int .i64 0, .int .i64 0, .int .i64 0, .string ⟨#[]⟩] 24)
      simpa using this
  obtain ⟨k0, k1, k2, k3, k4, k5⟩ := cells6A HX.out
  have hro := HasB.rowOk HX.out.1 (n := 8) rfl
  have v1 : ¬ ((szG s : Nat) : Int) < 20 := by omega
  have v2 : (((bt s 12 : Nat) : Int) % 16 != 0) = false := by simp; omega
  have PS := R05.pseudo_any v hi lo v' hi' lo' 6 (s.size : Int) hA.a0 hA.a1 hA.b0 hA.b1 hA.c0 hA.c1 hA.d0 hA.d1
  have hPl : P.length ≤ 40 := by rw [← hPe]; exact (pseudoL_len _ _ _ _ _ _ _ _).1
  rw [hPe] at PS
  have PS := Lib.hid PS
  have v3 : ¬ (s.size : Int) < (szG s : Nat) := by omega
  have SM := R03.sum_any (⟨P.toArray⟩ ++ s) (by rw [ByteArray.size_append]; show P.length + s.size ≤ _; omega)
  rw [app_str, show (⟨P.toArray⟩ : ByteArray).data.toList = P by simp] at SM
  have SM := Lib.hid SM
  have hq := nil_eq hP
  have f3 : (9223372036854775807 < P.length + s.size) = False := eq_false (by omega)
  have v4 : (((sumL (P ++ s.data.toList) : Nat) : Int) != 65535) = true := by simp; omega
  clear h h2 h3 h4 hPe hP
  go_enter Try.func12, Try.ntmps12
  go_wp2_with (first | (go_at_call 25; (with_reducible refine (PS.out _).mono ?_); rintro e wa ⟨rfl, hb⟩; replace HX := Lib.hid (HX.out.next hb); clear hb k0 k1 k2 k3 k4 k5 hro; have hro := HasB.rowOk HX.out.1 (n := 8) rfl) | (go_at_call 33; (with_reducible refine (SM.out _).mono ?_); rintro e wb ⟨rfl, hb⟩; replace HX := Lib.hid (HX.out.next hb); clear hb hro; have hro := HasB.rowOk HX.out.1 (n := 8) rfl) | fail)
  have HW := HasB.setRow HX.out.1 #[.int .i64 0, .int .i64 0, .int .u32 0, .int .u32 0, .int .i64 0, .int .i64 0, .int .i64 0, .string ⟨#[]⟩]
  have HL := below_setRow HX.out.2.2.2.1 (show w.heap.size ≤ w.heap.size + 1 + 1 by omega) #[.int .i64 0, .int .i64 0, .int .u32 0, .int .u32 0, .int .i64 0, .int .i64 0, .int .i64 0, .string ⟨#[]⟩]
  (try simp only [Exit.inBlock, Exit.then]); refine bodyPost_ret (v := .tuple #[.agg #[.int .i64 0, .int .i64 0, .int .u32 0, .int .u32 0, .int .i64 0, .int .i64 0, .int .i64 0, .string ⟨#[]⟩], .string ⟨#[]⟩, .int .i64 4]) (results_cell3 Try.results12 _ _ (w.heap.size + 1 + 1) _ _ rfl HW Try.underlying24 infoR7 rfl rfl) rfl ⟨rfl, HL⟩
theorem get_opts (s : ByteArray) (v : Bool) (hi lo : Int) (v' : Bool) (hi' lo' : Int) (hA : BA hi lo hi' lo') (hs : s.size ≤ 1099511627000) (P : List UInt8) (hPe : pseudoL v hi lo v' hi' lo' 6 (s.size : Int) = P) (w : World) (h1 : 20 ≤ s.size) (h2 : 20 ≤ szG s) (h3 : bt s 12 % 16 = 0) (h : szG s ≤ s.size) (hP : P ≠ []) (h4 : sumL (P ++ s.data.toList) = 65535) (h5 : optsL (s.extract 20 (szG s)) 0 = none) : Calls Try.prog 12 #[.string s, .agg #[.bool v, .int .u64 hi, .int .u64 lo], .agg #[.bool v', .int .u64 hi', .int .u64 lo']] w fun e w' => e = .returned (.tuple #[.agg #[.int .i64 (headG7 s P).sp, .int .i64 (headG7 s P).dp, .int .u32 (headG7 s P).sq, .int .u32 (headG7 s P).ak, .int .i64 (headG7 s P).fl, .int .i64 (headG7 s P).wn, .int .i64 (headG7 s P).ur, .string (headG7 s P).op], .string (payG7 s P), .int .i64 (errG7 s P)]) ∧ Below w.heap.size w w' := by
  have he : errG7 s P = 3 := by unfold errG7; rw [if_neg (by omega), if_neg (by omega), if_neg (by omega), if_neg hP, if_neg (by omega), if_pos h5]
  obtain ⟨hh, hp⟩ := headG7_no he (by omega)
  rw [hh, hp, he]
  show Calls _ _ _ _ fun e' w' => e' = .returned (.tuple #[.agg #[.int .i64 0, .int .i64 0, .int .u32 0, .int .u32 0, .int .i64 0, .int .i64 0, .int .i64 0, .string ⟨#[]⟩], .string ⟨#[]⟩, .int .i64 3]) ∧ Below w.heap.size w w'
  clear he hh hp
  have h20i : ¬ (s.size : Int) < 20 := by omega
  have q12 := byte_at s 12 (by omega)
  have b12 := bt_lt s 12
  have i12 : (12 : Int) < s.size := by omega
  have hz : (4 : Int) * (((bt s 12 : Nat) : Int) / 16) = (szG s : Nat) := by unfold szG; omega
  have HX : Hid (Held3 w.heap.size (w.heap.size + 1 + 1) 24 #[.int .i64 0, .int .i64 0, .int .u32 0, .int .u32 0, .int .i64 0, .int .i64 0, .int .i64 0, .string ⟨#[]⟩] w.heap.size 27 #[.bool v, .int .u64 hi, .int .u64 lo] (w.heap.size + 1) 27 #[.bool v', .int .u64 hi', .int .u64 lo'] w (((w.alloc (.cells #[.bool v, .int .u64 hi, .int .u64 lo] 27)).alloc (.cells #[.bool v', .int .u64 hi', .int .u64 lo'] 27)).alloc (.cells #[.int .i64 0, .int .i64 0, .int .u32 0, .int .u32 0, .int .i64 0, .int .i64 0, .int .i64 0, .string ⟨#[]⟩] 24))) := by
    refine Lib.hid ⟨?_, ((HasB.new w _ _).alloc _).alloc _, ?_, (((Below.refl _ _).alloc (Nat.le_refl _) _).alloc (by simp) _).alloc (by simp; omega) _, by simp; omega⟩
    · have := HasB.new ((w.alloc (.cells #[.bool v, .int .u64 hi, .int .u64 lo] 27)).alloc (.cells #[.bool v', .int .u64 hi', .int .u64 lo'] 27)) 24 #[.int .i64 0, .int .i64 0, .int .u32 0, .int .u32 0, .int .i64 0, .int .i64 0, .int .i64 0, .string ⟨#[]⟩]
      simpa using this
    · have := (HasB.new (w.alloc (.cells #[.bool v, .int .u64 hi, .int .u64 lo] 27)) 27 #[.bool v', .int .u64 hi', .int .u64 lo']).alloc (.cells #[.int .i64 0, .int .i64 0, .int .u32 0, .int .u32 0, .int .i64 0, .int .i64 0, .int .i64 0, .string ⟨#[]⟩] 24)
      simpa using this
  obtain ⟨k0, k1, k2, k3, k4, k5⟩ := cells6A HX.out
  have hro := HasB.rowOk HX.out.1 (n := 8) rfl
  have v1 : ¬ ((szG s : Nat) : Int) < 20 := by omega
  have v2 : (((bt s 12 : Nat) : Int) % 16 != 0) = false := by simp; omega
  have PS := R05.pseudo_any v hi lo v' hi' lo' 6 (s.size : Int) hA.a0 hA.a1 hA.b0 hA.b1 hA.c0 hA.c1 hA.d0 hA.d1
  have hPl : P.length ≤ 40 := by rw [← hPe]; exact (pseudoL_len _ _ _ _ _ _ _ _).1
  rw [hPe] at PS
  have PS := Lib.hid PS
  have v3 : ¬ (s.size : Int) < (szG s : Nat) := by omega
  have SM := R03.sum_any (⟨P.toArray⟩ ++ s) (by rw [ByteArray.size_append]; show P.length + s.size ≤ _; omega)
  rw [app_str, show (⟨P.toArray⟩ : ByteArray).data.toList = P by simp] at SM
  have SM := Lib.hid SM
  have hq := nil_eq hP
  have f3 : (9223372036854775807 < P.length + s.size) = False := eq_false (by omega)
  have LS := Lib.hid (list_free (s.extract 20 (szG s)) (by rw [ByteArray.size_extract]; omega))
  have v5 : (0 : Int) ≤ (szG s : Nat) := by omega
  have v6 : ((szG s : Nat) : Int) ≤ s.size := by omega
  have v7 : (20 : Int) ≤ (szG s : Nat) := by omega
  rw [(opts_none h5).2] at LS
  have v4 : (((sumL (P ++ s.data.toList) : Nat) : Int) != 65535) = false := by simp; omega
  clear h h2 h3 h4 h5 hPe hP
  go_enter Try.func12, Try.ntmps12
  go_wp2_with (first | (go_at_call 25; (with_reducible refine (PS.out _).mono ?_); rintro e wa ⟨rfl, hb⟩; replace HX := Lib.hid (HX.out.next hb); clear hb k0 k1 k2 k3 k4 k5 hro; have hro := HasB.rowOk HX.out.1 (n := 8) rfl) | (go_at_call 33; (with_reducible refine (SM.out _).mono ?_); rintro e wb ⟨rfl, hb⟩; replace HX := Lib.hid (HX.out.next hb); clear hb hro; have hro := HasB.rowOk HX.out.1 (n := 8) rfl) | (go_at_call 15; (with_reducible refine (LS.out _).mono ?_); rintro e wc ⟨l, rfl, hb⟩; replace HX := Lib.hid (HX.out.next hb); clear hb hro; have hro := HasB.rowOk HX.out.1 (n := 8) rfl) | fail)
  have HW := HasB.setRow HX.out.1 #[.int .i64 0, .int .i64 0, .int .u32 0, .int .u32 0, .int .i64 0, .int .i64 0, .int .i64 0, .string ⟨#[]⟩]
  have HL := below_setRow HX.out.2.2.2.1 (show w.heap.size ≤ w.heap.size + 1 + 1 by omega) #[.int .i64 0, .int .i64 0, .int .u32 0, .int .u32 0, .int .i64 0, .int .i64 0, .int .i64 0, .string ⟨#[]⟩]
  (try simp only [Exit.inBlock, Exit.then]); refine bodyPost_ret (v := .tuple #[.agg #[.int .i64 0, .int .i64 0, .int .u32 0, .int .u32 0, .int .i64 0, .int .i64 0, .int .i64 0, .string ⟨#[]⟩], .string ⟨#[]⟩, .int .i64 3]) (results_cell3 Try.results12 _ _ (w.heap.size + 1 + 1) _ _ rfl HW Try.underlying24 infoR7 rfl rfl) rfl ⟨rfl, HL⟩
set_option maxRecDepth 100000 in
set_option maxHeartbeats 4000000 in
theorem get_ok (s : ByteArray) (v : Bool) (hi lo : Int) (v' : Bool) (hi' lo' : Int) (hA : BA hi lo hi' lo') (hs : s.size ≤ 1099511627000) (P : List UInt8) (hPe : pseudoL v hi lo v' hi' lo' 6 (s.size : Int) = P) (w : World) (he : errG7 s P = 0) : Calls Try.prog 12 #[.string s, .agg #[.bool v, .int .u64 hi, .int .u64 lo], .agg #[.bool v', .int .u64 hi', .int .u64 lo']] w fun e w' => e = .returned (.tuple #[.agg #[.int .i64 (headG7 s P).sp, .int .i64 (headG7 s P).dp, .int .u32 (headG7 s P).sq, .int .u32 (headG7 s P).ak, .int .i64 (headG7 s P).fl, .int .i64 (headG7 s P).wn, .int .i64 (headG7 s P).ur, .string (headG7 s P).op], .string (payG7 s P), .int .i64 (errG7 s P)]) ∧ Below w.heap.size w w' := by
  obtain ⟨h1, h2, h3, h, hP, h4, h5⟩ := errG7_ok he
  have hh : headG7 s P = raw7 s := if_pos he
  have hp : payG7 s P = s.extract (szG s) s.size := if_pos he
  rw [hh, hp, he]
  show Calls _ _ _ _ fun e' w' => e' = .returned (.tuple #[.agg #[.int .i64 ((wt s 0 : Nat)), .int .i64 ((wt s 2 : Nat)), .int .u32 ((seg s 4 4 : Nat)), .int .u32 ((seg s 8 4 : Nat)), .int .i64 ((bt s 13 : Nat)), .int .i64 ((wt s 14 : Nat)), .int .i64 ((wt s 18 : Nat)), .string ((s.extract 20 (szG s)))], .string (s.extract (szG s) s.size), .int .i64 0]) ∧ Below w.heap.size w w'
  clear he hh hp
  have h20i : ¬ (s.size : Int) < 20 := by omega
  have q12 := byte_at s 12 (by omega)
  have b12 := bt_lt s 12
  have i12 : (12 : Int) < s.size := by omega
  have hz : (4 : Int) * (((bt s 12 : Nat) : Int) / 16) = (szG s : Nat) := by unfold szG; omega
  have HX : Hid (Held3 w.heap.size (w.heap.size + 1 + 1) 24 #[.int .i64 0, .int .i64 0, .int .u32 0, .int .u32 0, .int .i64 0, .int .i64 0, .int .i64 0, .string ⟨#[]⟩] w.heap.size 27 #[.bool v, .int .u64 hi, .int .u64 lo] (w.heap.size + 1) 27 #[.bool v', .int .u64 hi', .int .u64 lo'] w (((w.alloc (.cells #[.bool v, .int .u64 hi, .int .u64 lo] 27)).alloc (.cells #[.bool v', .int .u64 hi', .int .u64 lo'] 27)).alloc (.cells #[.int .i64 0, .int .i64 0, .int .u32 0, .int .u32 0, .int .i64 0, .int .i64 0, .int .i64 0, .string ⟨#[]⟩] 24))) := by
    refine Lib.hid ⟨?_, ((HasB.new w _ _).alloc _).alloc _, ?_, (((Below.refl _ _).alloc (Nat.le_refl _) _).alloc (by simp) _).alloc (by simp; omega) _, by simp; omega⟩
    · have := HasB.new ((w.alloc (.cells #[.bool v, .int .u64 hi, .int .u64 lo] 27)).alloc (.cells #[.bool v', .int .u64 hi', .int .u64 lo'] 27)) 24 #[.int .i64 0, .int .i64 0, .int .u32 0, .int .u32 0, .int .i64 0, .int .i64 0, .int .i64 0, .string ⟨#[]⟩]
      simpa using this
    · have := (HasB.new (w.alloc (.cells #[.bool v, .int .u64 hi, .int .u64 lo] 27)) 27 #[.bool v', .int .u64 hi', .int .u64 lo']).alloc (.cells #[.int .i64 0, .int .i64 0, .int .u32 0, .int .u32 0, .int .i64 0, .int .i64 0, .int .i64 0, .string ⟨#[]⟩] 24)
      simpa using this
  obtain ⟨k0, k1, k2, k3, k4, k5⟩ := cells6A HX.out
  have hro := HasB.rowOk HX.out.1 (n := 8) rfl
  have v1 : ¬ ((szG s : Nat) : Int) < 20 := by omega
  have v2 : (((bt s 12 : Nat) : Int) % 16 != 0) = false := by simp; omega
  have PS := R05.pseudo_any v hi lo v' hi' lo' 6 (s.size : Int) hA.a0 hA.a1 hA.b0 hA.b1 hA.c0 hA.c1 hA.d0 hA.d1
  have hPl : P.length ≤ 40 := by rw [← hPe]; exact (pseudoL_len _ _ _ _ _ _ _ _).1
  rw [hPe] at PS
  have PS := Lib.hid PS
  have v3 : ¬ (s.size : Int) < (szG s : Nat) := by omega
  have SM := R03.sum_any (⟨P.toArray⟩ ++ s) (by rw [ByteArray.size_append]; show P.length + s.size ≤ _; omega)
  rw [app_str, show (⟨P.toArray⟩ : ByteArray).data.toList = P by simp] at SM
  have SM := Lib.hid SM
  have hq := nil_eq hP
  have f3 : (9223372036854775807 < P.length + s.size) = False := eq_false (by omega)
  have LS := Lib.hid (list_free (s.extract 20 (szG s)) (by rw [ByteArray.size_extract]; omega))
  have v5 : (0 : Int) ≤ (szG s : Nat) := by omega
  have v6 : ((szG s : Nat) : Int) ≤ s.size := by omega
  have v7 : (20 : Int) ≤ (szG s : Nat) := by omega
  have hoE : optsE (s.extract 20 (szG s)) = 0 := by
    unfold optsE
    cases ho : optsL (s.extract 20 (szG s)) 0 with
    | none => exact absurd ho h5
    | some l => rfl
  rw [hoE] at LS
  have v4 : (((sumL (P ++ s.data.toList) : Nat) : Int) != 65535) = false := by simp; omega
  have hm : s.size ≤ maxLen := by unfold maxLen; omega
  have HM1 := Lib.hid (R02.must_seg s 0 2 0 2 rfl rfl hm (by omega) (by omega) (by omega))
  have HM2 := Lib.hid (R02.must_seg s 2 2 2 2 rfl rfl hm (by omega) (by omega) (by omega))
  have HM3 := Lib.hid (R02.must_seg s 4 4 4 4 rfl rfl hm (by omega) (by omega) (by omega))
  have HM4 := Lib.hid (R02.must_seg s 8 4 8 4 rfl rfl hm (by omega) (by omega) (by omega))
  have HM5 := Lib.hid (R02.must_seg s 14 2 14 2 rfl rfl hm (by omega) (by omega) (by omega))
  have HM6 := Lib.hid (R02.must_seg s 18 2 18 2 rfl rfl hm (by omega) (by omega) (by omega))
  rw [show seg s 0 2 = wt s 0 from wt_num s 0 (by omega)] at HM1
  rw [show seg s 2 2 = wt s 2 from wt_num s 2 (by omega)] at HM2
  rw [show seg s 14 2 = wt s 14 from wt_num s 14 (by omega)] at HM5
  rw [show seg s 18 2 = wt s 18 from wt_num s 18 (by omega)] at HM6
  have u3 : IntKind.u32.wrap (seg s 4 4 : Nat) = (seg s 4 4 : Nat) := wrap32 (seg_lt s 4 4)
  have u4 : IntKind.u32.wrap (seg s 8 4 : Nat) = (seg s 8 4 : Nat) := wrap32 (seg_lt s 8 4)
  have q13 := byte_at s 13 (by omega)
  have b13 := bt_lt s 13
  have i13 : (13 : Int) < s.size := by omega
  have y13 : IntKind.i64.wrap (bt s 13 : Nat) = (bt s 13 : Nat) := IntWalk.i64_in _ (by omega)
  clear h h2 h3 h4 h5 hPe hP hoE
  go_enter Try.func12, Try.ntmps12
  go_wp2_with (first | (go_at_call 25; (with_reducible refine (PS.out _).mono ?_); rintro e wa ⟨rfl, hb⟩; replace HX := Lib.hid (HX.out.next hb); clear hb k0 k1 k2 k3 k4 k5 hro; have hro := HasB.rowOk HX.out.1 (n := 8) rfl) | (go_at_call 33; (with_reducible refine (SM.out _).mono ?_); rintro e wb ⟨rfl, hb⟩; replace HX := Lib.hid (HX.out.next hb); clear hb hro; have hro := HasB.rowOk HX.out.1 (n := 8) rfl) | (go_at_call 15; (with_reducible refine (LS.out _).mono ?_); rintro e wc ⟨l, rfl, hb⟩; replace HX := Lib.hid (HX.out.next hb); clear hb hro; have hro := HasB.rowOk HX.out.1 (n := 8) rfl) | fail)
  have d0 := HasB.cell HX.out.1 0 (.int .i64 0) rfl
  have f0 := HasB.free HX.out.1 0
  have d1 := HasB.cell HX.out.1 1 (.int .i64 0) rfl
  have f1 := HasB.free HX.out.1 1
  have d2 := HasB.cell HX.out.1 2 (.int .u32 0) rfl
  have f2 := HasB.free HX.out.1 2
  have d3 := HasB.cell HX.out.1 3 (.int .u32 0) rfl
  have f3 := HasB.free HX.out.1 3
  have d4 := HasB.cell HX.out.1 4 (.int .i64 0) rfl
  have f4 := HasB.free HX.out.1 4
  have d5 := HasB.cell HX.out.1 5 (.int .i64 0) rfl
  have f5 := HasB.free HX.out.1 5
  have d6 := HasB.cell HX.out.1 6 (.int .i64 0) rfl
  have f6 := HasB.free HX.out.1 6
  have d7 := HasB.cell HX.out.1 7 (.string ⟨#[]⟩) rfl
  have f7 := HasB.free HX.out.1 7
  clear hro
  refine wp_region_noPanic ?_
  refine wp_region_held_drew (S := (fun _ => True)) (by kernel_rfl) trivial (fun hHeld => ?_)
  refine wpAnyH_take (i := 0) (oi := _) (v := ?v0a) rfl (by kernel_rfl) (by kernel_rfl) (by kernel_rfl) (fun _ _ _ h => h) (Or.inl ⟨by rfl, ?y0a⟩) (by assumption) ?r0a
  case y0a => intro w0 hSw; (try dsimp only at hSw); go_simp; try with_reducible rfl
  try simp only [Act.put, List.setIfInBounds_toArray, List.set_cons_zero, List.set_cons_succ, List.getElem_toArray, List.getElem_cons_zero]
  refine wpAnyH_take (i := 2) (oi := _) (v := ?v2a) rfl (by kernel_rfl) (by kernel_rfl) (by kernel_rfl) (fun _ _ _ h => h) (Or.inl ⟨by rfl, ?y2a⟩) (by assumption) ?r2a
  case y2a => intro w0 hSw; (try dsimp only at hSw); go_simp; try with_reducible rfl
  try simp only [Act.put, List.setIfInBounds_toArray, List.set_cons_zero, List.set_cons_succ, List.getElem_toArray, List.getElem_cons_succ, List.getElem_cons_zero]
  refine wpAnyH_take (i := 4) (oi := _) (v := ?v4a) rfl (by kernel_rfl) (by kernel_rfl) (by kernel_rfl) (fun _ _ _ h => h) (Or.inl ⟨by rfl, ?y4a⟩) (by assumption) ?r4a
  case y4a => intro w0 hSw; (try dsimp only at hSw); go_simp; try with_reducible rfl
  try simp only [Act.put, List.setIfInBounds_toArray, List.set_cons_zero, List.set_cons_succ, List.getElem_toArray, List.getElem_cons_succ, List.getElem_cons_zero]
  refine wpAnyH_take (i := 7) (oi := _) (v := ?v7a) rfl (by kernel_rfl) (by kernel_rfl) (by kernel_rfl) (fun _ _ _ h => h) (Or.inl ⟨by rfl, ?y7a⟩) (by assumption) ?r7a
  case y7a => intro w0 hSw; (try dsimp only at hSw); go_simp; try with_reducible rfl
  try simp only [Act.put, List.setIfInBounds_toArray, List.set_cons_zero, List.set_cons_succ, List.getElem_toArray, List.getElem_cons_succ, List.getElem_cons_zero]
  refine wpAnyH_take (i := 10) (oi := _) (v := ?v10a) rfl (by kernel_rfl) (by kernel_rfl) (by kernel_rfl) (fun _ _ _ h => h) (Or.inl ⟨by rfl, ?y10a⟩) (by assumption) ?r10a
  case y10a => intro w0 hSw; (try dsimp only at hSw); go_simp; try with_reducible rfl
  try simp only [Act.put, List.setIfInBounds_toArray, List.set_cons_zero, List.set_cons_succ, List.getElem_toArray, List.getElem_cons_succ, List.getElem_cons_zero]
  refine wpAnyH_take (i := 13) (oi := _) (v := ?v13a) rfl (by kernel_rfl) (by kernel_rfl) (by kernel_rfl) (fun _ _ _ h => h) (Or.inl ⟨by rfl, ?y13a⟩) (by assumption) ?r13a
  case y13a => intro w0 hSw; (try dsimp only at hSw); go_simp; try with_reducible rfl
  try simp only [Act.put, List.setIfInBounds_toArray, List.set_cons_zero, List.set_cons_succ, List.getElem_toArray, List.getElem_cons_succ, List.getElem_cons_zero]
  refine wpAnyH_take (i := 15) (oi := _) (v := ?v15a) rfl (by kernel_rfl) (by kernel_rfl) (by kernel_rfl) (fun _ _ _ h => h) (Or.inl ⟨by rfl, ?y15a⟩) (by assumption) ?r15a
  case y15a => intro w0 hSw; (try dsimp only at hSw); go_simp; try with_reducible rfl
  try simp only [Act.put, List.setIfInBounds_toArray, List.set_cons_zero, List.set_cons_succ, List.getElem_toArray, List.getElem_cons_succ, List.getElem_cons_zero]
  refine wpAnyH_take (i := 17) (oi := _) (v := ?v17a) rfl (by kernel_rfl) (by kernel_rfl) (by kernel_rfl) (fun _ _ _ h => h) (Or.inl ⟨by rfl, ?y17a⟩) (by assumption) ?r17a
  case y17a => intro w0 hSw; (try dsimp only at hSw); go_simp; try with_reducible rfl
  try simp only [Act.put, List.setIfInBounds_toArray, List.set_cons_zero, List.set_cons_succ, List.getElem_toArray, List.getElem_cons_succ, List.getElem_cons_zero]
  refine wpAnyH_take (i := 18) (oi := _) (v := ?v18a) rfl (by kernel_rfl) (by kernel_rfl) (by kernel_rfl) (fun _ _ _ h => h) (Or.inl ⟨by rfl, ?y18a⟩) (by assumption) ?r18a
  case y18a => intro w0 hSw; (try dsimp only at hSw); go_simp; try with_reducible rfl
  try simp only [Act.put, List.setIfInBounds_toArray, List.set_cons_zero, List.set_cons_succ, List.getElem_toArray, List.getElem_cons_succ, List.getElem_cons_zero]
  refine wpAnyH_take (i := 21) (oi := _) (v := ?v21a) rfl (by kernel_rfl) (by kernel_rfl) (by kernel_rfl) (fun _ _ _ h => h) (Or.inl ⟨by rfl, ?y21a⟩) (by assumption) ?r21a
  case y21a => intro w0 hSw; (try dsimp only at hSw); go_simp; try with_reducible rfl
  try simp only [Act.put, List.setIfInBounds_toArray, List.set_cons_zero, List.set_cons_succ, List.getElem_toArray, List.getElem_cons_succ, List.getElem_cons_zero]
  refine wpAnyH_take (i := 22) (oi := _) (v := ?v22a) rfl (by kernel_rfl) (by kernel_rfl) (by kernel_rfl) (fun _ _ _ h => h) (Or.inl ⟨by rfl, ?y22a⟩) (by assumption) ?r22a
  case y22a => intro w0 hSw; (try dsimp only at hSw); go_simp; try with_reducible rfl
  try simp only [Act.put, List.setIfInBounds_toArray, List.set_cons_zero, List.set_cons_succ, List.getElem_toArray, List.getElem_cons_succ, List.getElem_cons_zero]
  refine wpAnyH_take (i := 11) (oi := _) (v := ?v11a) rfl (by kernel_rfl) (by kernel_rfl) (by kernel_rfl) (fun _ _ _ h => h) (Or.inl ⟨by rfl, ?y11a⟩) (by assumption) ?r11a
  case y11a => intro w0 hSw; (try dsimp only at hSw); go_simp; try with_reducible rfl
  try simp only [Act.put, List.setIfInBounds_toArray, List.set_cons_zero, List.set_cons_succ, List.getElem_toArray, List.getElem_cons_succ, List.getElem_cons_zero]
  refine wpAnyH_take (i := 12) (oi := _) (v := ?v12a) rfl (by kernel_rfl) (by kernel_rfl) (by kernel_rfl) (fun _ _ _ h => h) (Or.inl ⟨by rfl, ?y12a⟩) (by assumption) ?r12a
  case y12a => intro w0 hSw; (try dsimp only at hSw); go_simp; try with_reducible rfl
  try simp only [Act.put, List.setIfInBounds_toArray, List.set_cons_zero, List.set_cons_succ, List.getElem_toArray, List.getElem_cons_succ, List.getElem_cons_zero]
  refine wpAnyH_take (i := 19) (oi := _) (v := ?v19a) rfl (by kernel_rfl) (by kernel_rfl) (by kernel_rfl) (fun _ _ _ h => h) (Or.inl ⟨by rfl, ?y19a⟩) (by assumption) ?r19a
  case y19a => intro w0 hSw; (try dsimp only at hSw); go_simp; try with_reducible rfl
  try simp only [Act.put, List.setIfInBounds_toArray, List.set_cons_zero, List.set_cons_succ, List.getElem_toArray, List.getElem_cons_succ, List.getElem_cons_zero]
  refine wpAnyH_take (i := 23) (oi := _) (v := ?v23a) rfl (by kernel_rfl) (by kernel_rfl) (by kernel_rfl) (fun _ _ _ h => h) (Or.inl ⟨by rfl, ?y23a⟩) (by assumption) ?r23a
  case y23a => intro w0 hSw; (try dsimp only at hSw); go_simp; try with_reducible rfl
  try simp only [Act.put, List.setIfInBounds_toArray, List.set_cons_zero, List.set_cons_succ, List.getElem_toArray, List.getElem_cons_succ, List.getElem_cons_zero]
  refine wpAnyH_ready (rs := [1]) (by kernel_rfl) (by simp) ?_
  refine AllReadyH.cons (o := _) rfl (fun K hK => ?_) AllReadyH.nil
  go_simp
  (with_reducible refine (HM1.out _).mono ?_)
  rintro e wz ⟨rfl, rfl⟩
  go_wp2_with fail
  refine hK.out _ _ trivial (fun hHeld => ?_)
  clear hK K
  try simp only [Act.put, List.setIfInBounds_toArray, List.set_cons_zero, List.set_cons_succ, List.getElem_toArray, List.getElem_cons_succ, List.getElem_cons_zero]
  refine wpAnyH_ready (rs := [3]) (by kernel_rfl) (by simp) ?_
  refine AllReadyH.cons (o := _) rfl (fun K hK => ?_) AllReadyH.nil
  go_simp
  (with_reducible refine (HM2.out _).mono ?_)
  rintro e wz ⟨rfl, rfl⟩
  go_wp2_with fail
  refine hK.out _ _ trivial (fun hHeld => ?_)
  clear hK K
  try simp only [Act.put, List.setIfInBounds_toArray, List.set_cons_zero, List.set_cons_succ, List.getElem_toArray, List.getElem_cons_succ, List.getElem_cons_zero]
  refine wpAnyH_ready (rs := [5]) (by kernel_rfl) (by simp) ?_
  refine AllReadyH.cons (o := _) rfl (fun K hK => ?_) AllReadyH.nil
  go_simp
  (with_reducible refine (HM3.out _).mono ?_)
  rintro e wz ⟨rfl, rfl⟩
  go_wp2_with fail
  refine hK.out _ _ trivial (fun hHeld => ?_)
  clear hK K
  try simp only [Act.put, List.setIfInBounds_toArray, List.set_cons_zero, List.set_cons_succ, List.getElem_toArray, List.getElem_cons_succ, List.getElem_cons_zero]
  refine wpAnyH_take (i := 6) (oi := _) (v := ?v6a) rfl (by kernel_rfl) (by kernel_rfl) (by kernel_rfl) (fun _ _ _ h => h) (Or.inl ⟨by rfl, ?y6a⟩) (by assumption) ?r6a
  case y6a => intro w0 hSw; (try dsimp only at hSw); go_simp; try with_reducible rfl
  try simp only [Act.put, List.setIfInBounds_toArray, List.set_cons_zero, List.set_cons_succ, List.getElem_toArray, List.getElem_cons_succ, List.getElem_cons_zero]
  refine wpAnyH_ready (rs := [8]) (by kernel_rfl) (by simp) ?_
  refine AllReadyH.cons (o := _) rfl (fun K hK => ?_) AllReadyH.nil
  go_simp
  (with_reducible refine (HM4.out _).mono ?_)
  rintro e wz ⟨rfl, rfl⟩
  go_wp2_with fail
  refine hK.out _ _ trivial (fun hHeld => ?_)
  clear hK K
  try simp only [Act.put, List.setIfInBounds_toArray, List.set_cons_zero, List.set_cons_succ, List.getElem_toArray, List.getElem_cons_succ, List.getElem_cons_zero]
  refine wpAnyH_take (i := 9) (oi := _) (v := ?v9a) rfl (by kernel_rfl) (by kernel_rfl) (by kernel_rfl) (fun _ _ _ h => h) (Or.inl ⟨by rfl, ?y9a⟩) (by assumption) ?r9a
  case y9a => intro w0 hSw; (try dsimp only at hSw); go_simp; try with_reducible rfl
  try simp only [Act.put, List.setIfInBounds_toArray, List.set_cons_zero, List.set_cons_succ, List.getElem_toArray, List.getElem_cons_succ, List.getElem_cons_zero]
  refine wpAnyH_ready (rs := [14]) (by kernel_rfl) (by simp) ?_
  refine AllReadyH.cons (o := _) rfl (fun K hK => ?_) AllReadyH.nil
  go_simp
  (with_reducible refine (HM5.out _).mono ?_)
  rintro e wz ⟨rfl, rfl⟩
  go_wp2_with fail
  refine hK.out _ _ trivial (fun hHeld => ?_)
  clear hK K
  try simp only [Act.put, List.setIfInBounds_toArray, List.set_cons_zero, List.set_cons_succ, List.getElem_toArray, List.getElem_cons_succ, List.getElem_cons_zero]
  refine wpAnyH_ready (rs := [16]) (by kernel_rfl) (by simp) ?_
  refine AllReadyH.cons (o := _) rfl (fun K hK => ?_) AllReadyH.nil
  go_simp
  (with_reducible refine (HM6.out _).mono ?_)
  rintro e wz ⟨rfl, rfl⟩
  go_wp2_with fail
  refine hK.out _ _ trivial (fun hHeld => ?_)
  clear hK K
  try simp only [Act.put, List.setIfInBounds_toArray, List.set_cons_zero, List.set_cons_succ, List.getElem_toArray, List.getElem_cons_succ, List.getElem_cons_zero]
  refine wpAnyH_take (i := 20) (oi := _) (v := ?v20a) rfl (by kernel_rfl) (by kernel_rfl) (by kernel_rfl) (fun _ _ _ h => h) (Or.inl ⟨by rfl, ?y20a⟩) (by assumption) ?r20a
  case y20a => intro w0 hSw; (try dsimp only at hSw); go_simp; try with_reducible rfl
  try simp only [Act.put, List.setIfInBounds_toArray, List.set_cons_zero, List.set_cons_succ, List.getElem_toArray, List.getElem_cons_succ, List.getElem_cons_zero]
  refine wpAnyH_ready (rs := [24]) (by kernel_rfl) (by simp) ?_
  refine AllReadyH.cons (o := _) rfl (fun K hK => ?_) AllReadyH.nil
  go_simp
  have HW2 := putAll_hasB HX.out.1 [.int .i64 (wt s 0 : Nat), .int .i64 (wt s 2 : Nat), .int .u32 (seg s 4 4 : Nat), .int .u32 (seg s 8 4 : Nat), .int .i64 (bt s 13 : Nat), .int .i64 (wt s 14 : Nat), .int .i64 (wt s 18 : Nat), .string (s.extract 20 (szG s))] rfl
  have HL2 := putAll_below (show w.heap.size ≤ w.heap.size + 1 + 1 by omega) [.int .i64 (wt s 0 : Nat), .int .i64 (wt s 2 : Nat), .int .u32 (seg s 4 4 : Nat), .int .u32 (seg s 8 4 : Nat), .int .i64 (bt s 13 : Nat), .int .i64 (wt s 14 : Nat), .int .i64 (wt s 18 : Nat), .string (s.extract 20 (szG s))] 0 _ HX.out.2.2.2.1
  simp only [putAll, Nat.zero_add, Nat.reduceAdd] at HW2 HL2
  revert HW2 HL2
  generalize World.setCell _ (⟨w.heap.size + 1 + 1, 7, none⟩ : Addr) _ = Y
  intro HW2 HL2
  refine hK.out _ _ trivial (fun hHeld => ?_)
  clear hK K
  try simp only [Act.put, List.setIfInBounds_toArray, List.set_cons_zero, List.set_cons_succ, List.getElem_toArray, List.getElem_cons_succ, List.getElem_cons_zero]
  refine wpAnyH_take (i := 25) (oi := _) (v := ?v25a) rfl (by kernel_rfl) (by kernel_rfl) (by kernel_rfl) (fun _ _ _ h => h) (Or.inl ⟨by rfl, ?y25a⟩) (by assumption) ?r25a
  case y25a => intro w0 hSw; (try dsimp only at hSw); go_simp; try with_reducible rfl
  try simp only [Act.put, List.setIfInBounds_toArray, List.set_cons_zero, List.set_cons_succ, List.getElem_toArray, List.getElem_cons_succ, List.getElem_cons_zero]
  refine wpAnyH_take (i := 26) (oi := _) (v := ?v26a) rfl (by kernel_rfl) (by kernel_rfl) (by kernel_rfl) (fun _ _ _ h => h) (Or.inl ⟨by rfl, ?y26a⟩) (by assumption) ?r26a
  case y26a => intro w0 hSw; (try dsimp only at hSw); go_simp; try with_reducible rfl
  try simp only [Act.put, List.setIfInBounds_toArray, List.set_cons_zero, List.set_cons_succ, List.getElem_toArray, List.getElem_cons_succ, List.getElem_cons_zero]
  refine wpAnyH_done (by kernel_rfl) ?_ _
  refine NoPanic.normal ?_
  go_wp2_with fail
  have HW3 := HW2.drew
  have HL3 := HL2.drew
  (try simp only [Exit.inBlock, Exit.then]); refine bodyPost_ret (v := .tuple #[.agg #[.int .i64 ((wt s 0 : Nat)), .int .i64 ((wt s 2 : Nat)), .int .u32 ((seg s 4 4 : Nat)), .int .u32 ((seg s 8 4 : Nat)), .int .i64 ((bt s 13 : Nat)), .int .i64 ((wt s 14 : Nat)), .int .i64 ((wt s 18 : Nat)), .string ((s.extract 20 (szG s)))], .string (s.extract (szG s) s.size), .int .i64 0]) (results_cell3 Try.results12 _ _ (w.heap.size + 1 + 1) _ _ rfl HW3 Try.underlying24 infoR7 rfl rfl) rfl ⟨rfl, HL3⟩
theorem get_any (s : ByteArray) (v : Bool) (hi lo : Int) (v' : Bool) (hi' lo' : Int) (hA : BA hi lo hi' lo') (hs : s.size ≤ 1099511627000) (P : List UInt8) (hPe : pseudoL v hi lo v' hi' lo' 6 (s.size : Int) = P) (w : World) : Calls Try.prog 12 #[.string s, .agg #[.bool v, .int .u64 hi, .int .u64 lo], .agg #[.bool v', .int .u64 hi', .int .u64 lo']] w fun e w' => e = .returned (.tuple #[.agg #[.int .i64 (headG7 s P).sp, .int .i64 (headG7 s P).dp, .int .u32 (headG7 s P).sq, .int .u32 (headG7 s P).ak, .int .i64 (headG7 s P).fl, .int .i64 (headG7 s P).wn, .int .i64 (headG7 s P).ur, .string (headG7 s P).op], .string (payG7 s P), .int .i64 (errG7 s P)]) ∧ Below w.heap.size w w' := by
  by_cases h1 : s.size < 20
  · exact get_short s v hi lo v' hi' lo' hA hs P hPe w h1
  · by_cases h2 : szG s < 20 ∨ bt s 12 % 16 ≠ 0
    · exact get_form s v hi lo v' hi' lo' hA hs P hPe w (by omega) h2
    · by_cases h3 : s.size < szG s
      · exact get_cut s v hi lo v' hi' lo' hA hs P hPe w (by omega) (by omega) (by omega) h3
      · by_cases h4 : P = []
        · exact get_addr s v hi lo v' hi' lo' hA hs P hPe w (by omega) (by omega) (by omega) (by omega) h4
        · by_cases h5 : sumL (P ++ s.data.toList) = 65535
          · by_cases h6 : optsL (s.extract 20 (szG s)) 0 = none
            · exact get_opts s v hi lo v' hi' lo' hA hs P hPe w (by omega) (by omega) (by omega) (by omega) h4 h5 h6
            · exact get_ok s v hi lo v' hi' lo' hA hs P hPe w (errG7_is (by omega) (by omega) (by omega) (by omega) h4 h5 h6)
          · exact get_sum s v hi lo v' hi' lo' hA hs P hPe w (by omega) (by omega) (by omega) (by omega) h4 h5
end Go.Proofs.Ytbnhneompibilaa.R07
