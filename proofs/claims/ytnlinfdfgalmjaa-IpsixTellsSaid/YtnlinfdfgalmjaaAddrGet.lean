/- The contract of package addr's Get. -/
import Derived.Test.YtnlinfdfgalmjaaOctetWalks
import Derived.Test.YtnlinfdfgalmjaaAddrMath
import Derived.Handy
namespace Go.Proofs.Ytnlinfdfgalmjaa
open Go.RowKit
set_option linter.unusedVariables false

theorem get4 (s : ByteArray) (h : s.size = 4) : getN s 0 4 = gLo s.data.toList := by
  have hl : s.data.toList.length = 4 := by simpa using h
  rw [getN_yes (by omega) (by omega) (by omega) (by omega)]
  unfold gLo
  rw [if_neg (by omega), if_pos hl]
  simp only [Int.toNat_zero, List.drop_zero]
  rw [List.take_of_length_le (by rw [hl]; decide)]
theorem get16 (s : ByteArray) (h : s.size = 16) : getN s 0 8 = gHi s.data.toList ∧ getN s 8 8 = gLo s.data.toList := by
  have hl : s.data.toList.length = 16 := by simpa using h
  rw [getN_yes (by omega) (by omega) (by omega) (by omega), getN_yes (by omega) (by omega) (by omega) (by omega)]
  unfold gHi gLo
  rw [if_pos hl, if_pos hl]
  refine ⟨rfl, ?_⟩
  rw [List.take_of_length_le (by rw [List.length_drop, hl]; decide)]; rfl
theorem get_addr (s : ByteArray) (hs : s.size ≤ maxLen) (w : World) :
    Calls Try.prog 32 #[.string s] w fun e w' => e = .returned (.tuple #[.agg #[.bool (gV s.data.toList), .int .u64 (gHi s.data.toList), .int .u64 (gLo s.data.toList)], .bool (gOk s.data.toList)]) ∧ Below w.heap.size w w' := by
  unfold maxLen at hs
  have hl : s.data.toList.length = s.size := by simp
  by_cases h4 : s.size = 4
  · have HV : Hid (gV s.data.toList = false) := Lib.hid (decide_eq_false (by omega))
    have HH : Hid (gHi s.data.toList = 0) := Lib.hid (if_neg (by omega))
    have HO : Hid (gOk s.data.toList = true) := Lib.hid (decide_eq_true (by omega))
    have HG := Lib.hid (get4 s h4)
    have h4i : ((s.size : Int) == 4) = true := by simp; omega
    clear hl
    go_enter Try.func32, Try.ntmps32
    go_wp2_with (go_at_call 31; refine (get_any _ _ _ (by unfold maxLen; omega) (by omega) (by omega) _).mono ?_; rintro e w2 ⟨rfl, rfl⟩)
    go_returns
    exact ⟨by rw [HV.out, HH.out, HO.out, HG.out], (Below.refl _ _).alloc (Nat.le_refl _) _⟩
  · by_cases h16 : s.size = 16
    · have HV : Hid (gV s.data.toList = true) := Lib.hid (decide_eq_true (by omega))
      have HO : Hid (gOk s.data.toList = true) := Lib.hid (decide_eq_true (by omega))
      have HG := Lib.hid (get16 s h16)
      have h4i : ((s.size : Int) == 4) = false := by simp; omega
      have h16i : ((s.size : Int) == 16) = true := by simp; omega
      clear hl
      go_enter Try.func32, Try.ntmps32
      go_wp2_with (go_at_call 31; refine (get_any _ _ _ (by unfold maxLen; omega) (by omega) (by omega) _).mono ?_; rintro e w2 ⟨rfl, rfl⟩)
      go_returns
      exact ⟨by rw [HV.out, HO.out, HG.out.1, HG.out.2], (Below.refl _ _).alloc (Nat.le_refl _) _⟩
    · have HV : Hid (gV s.data.toList = false) := Lib.hid (decide_eq_false (by omega))
      have HH : Hid (gHi s.data.toList = 0) := Lib.hid (if_neg (by omega))
      have HG : Hid (gLo s.data.toList = 0) := Lib.hid (by unfold gLo; rw [if_neg (by omega), if_neg (by omega)])
      have HO : Hid (gOk s.data.toList = false) := Lib.hid (decide_eq_false (by omega))
      have h4i : ((s.size : Int) == 4) = false := by simp; omega
      have h16i : ((s.size : Int) == 16) = false := by simp; omega
      clear hl
      go_enter Try.func32, Try.ntmps32
      go_wp2
      go_returns
      exact ⟨by rw [HV.out, HH.out, HO.out, HG.out], (Below.refl _ _).alloc (Nat.le_refl _) _⟩
end Go.Proofs.Ytnlinfdfgalmjaa
