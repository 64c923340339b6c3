/- The contract of cloakroomref05: Get. -/
import Derived.Test.YtdcmjmgpcpeacaaRef05Get
import Derived.Test.YtdcmjmgpcpeacaaFourGets
import Derived.BigQuiet
import Derived.StillTailTactics
namespace Go.Proofs.Ytdcmjmgpcpeacaa.R05
open Go.RowKit
set_option linter.unusedVariables false
attribute [local go_sem ↓] ld53 st53 ld31 st31 ld26 st26
attribute [local go_sem] rowAt_p rowOkAt_p setAt_p aggOf_a rowOk_new rowOf_new setRow_new agg17 agg12

theorem bt_at (s : ByteArray) (i : Nat) (h : i < s.size) : (s[i]'h).toNat = bt s i := by
  unfold bt; rw [getD_at s i h]
theorem must_at (s : ByteArray) (p : Nat) (q : Int) (hq : q = p) (hs : s.size ≤ maxLen) (h : p + 2 ≤ s.size) (w : World) :
    Calls Try.prog 26 #[.string s, .int .i64 q, .int .i64 2] w fun e w' => e = .returned (.int .i64 (wt s p : Nat)) ∧ w = w' := by
  subst hq
  have h1 := R02.must_any s p 2 hs (by unfold maxLen at hs; omega) (by omega) w
  rw [R03.getN_two s p h] at h1
  exact h1
theorem get5_short (s : ByteArray) (hs : s.size ≤ 1099511627776) (w : World) (h : s.size < 20) :
    Calls Try.prog 10 #[.string s] w fun e w' => e = .returned (.tuple #[.agg #[.int .i64 (headG s).cl, .int .i64 (headG s).id, .bool (headG s).wh, .int .i64 (headG s).tt, .int .i64 (headG s).pr, .bool (headG s).sv, .int .u64 (headG s).sh, .int .u64 (headG s).sl, .bool (headG s).dv, .int .u64 (headG s).dh, .int .u64 (headG s).dl, .string (headG s).op], .string (payG s), .int .i64 (errG s)]) ∧ Below w.heap.size w w' := by
  have he : errG s = 2 := by unfold errG; rw [if_pos h]
  obtain ⟨hh, hp⟩ := headG_no he (by omega)
  rw [hh, hp, he]
  show Calls _ _ _ _ fun e' w' => e' = .returned (.tuple #[.agg #[.int .i64 0, .int .i64 0, .bool false, .int .i64 0, .int .i64 0, .bool false, .int .u64 0, .int .u64 0, .bool false, .int .u64 0, .int .u64 0, .string ⟨#[]⟩], .string ⟨#[]⟩, .int .i64 2]) ∧ Below w.heap.size w w'
  clear he hh hp
  have h20 : (s.size : Int) < 20 := by omega
  have HW := HasB.new w 26 #[.int .i64 0, .int .i64 0, .bool false, .int .i64 0, .int .i64 0, .bool false, .int .u64 0, .int .u64 0, .bool false, .int .u64 0, .int .u64 0, .string ⟨#[]⟩]
  have HL : Below w.heap.size w (w.alloc (.cells #[.int .i64 0, .int .i64 0, .bool false, .int .i64 0, .int .i64 0, .bool false, .int .u64 0, .int .u64 0, .bool false, .int .u64 0, .int .u64 0, .string ⟨#[]⟩] 26)) := (Below.refl _ _).alloc (Nat.le_refl _) _
  go_enter Try.func10, Try.ntmps10
  go_wp2_with fail
  try simp only [Exit.inBlock, Exit.then]
  refine bodyPost_ret (v := .tuple #[.agg #[.int .i64 0, .int .i64 0, .bool false, .int .i64 0, .int .i64 0, .bool false, .int .u64 0, .int .u64 0, .bool false, .int .u64 0, .int .u64 0, .string ⟨#[]⟩], .string ⟨#[]⟩, .int .i64 2]) (results_cell3 Try.results10 _ _ w.heap.size _ _ rfl HW Try.underlying26 info26 rfl rfl) rfl ⟨rfl, HL⟩
theorem get5_form (s : ByteArray) (hs : s.size ≤ 1099511627776) (w : World) (h20 : 20 ≤ s.size) (h : ¬ (bt s 0 / 16 = 4 ∧ 20 ≤ sizeG s ∧ sizeG s ≤ wt s 2)) :
    Calls Try.prog 10 #[.string s] w fun e w' => e = .returned (.tuple #[.agg #[.int .i64 (headG s).cl, .int .i64 (headG s).id, .bool (headG s).wh, .int .i64 (headG s).tt, .int .i64 (headG s).pr, .bool (headG s).sv, .int .u64 (headG s).sh, .int .u64 (headG s).sl, .bool (headG s).dv, .int .u64 (headG s).dh, .int .u64 (headG s).dl, .string (headG s).op], .string (payG s), .int .i64 (errG s)]) ∧ Below w.heap.size w w' := by
  have he : errG s = 3 := by unfold errG; rw [if_neg (by omega), if_pos h]
  obtain ⟨hh, hp⟩ := headG_no he (by omega)
  rw [hh, hp, he]
  show Calls _ _ _ _ fun e' w' => e' = .returned (.tuple #[.agg #[.int .i64 0, .int .i64 0, .bool false, .int .i64 0, .int .i64 0, .bool false, .int .u64 0, .int .u64 0, .bool false, .int .u64 0, .int .u64 0, .string ⟨#[]⟩], .string ⟨#[]⟩, .int .i64 3]) ∧ Below w.heap.size w w'
  clear he hh hp
  have h20i : ¬ (s.size : Int) < 20 := by omega
  have hm : s.size ≤ maxLen := by unfold maxLen; omega
  have q0 := bt_at s 0 (by omega)
  have b0 := bt_lt s 0
  have hz : (4 : Int) * (((bt s 0 : Nat) : Int) % 16) = (sizeG s : Nat) := by unfold sizeG; omega
  have HM := Lib.hid (must_at s 2 2 rfl hm (by omega))
  have HW0 := HasB.new w 26 #[.int .i64 0, .int .i64 0, .bool false, .int .i64 0, .int .i64 0, .bool false, .int .u64 0, .int .u64 0, .bool false, .int .u64 0, .int .u64 0, .string ⟨#[]⟩]
  have HL0 : Below w.heap.size w (w.alloc (.cells #[.int .i64 0, .int .i64 0, .bool false, .int .i64 0, .int .i64 0, .bool false, .int .u64 0, .int .u64 0, .bool false, .int .u64 0, .int .u64 0, .string ⟨#[]⟩] 26)) := (Below.refl _ _).alloc (Nat.le_refl _) _
  go_enter Try.func10, Try.ntmps10
  go_wp2_with fail
  go_quiet ((go_at_call 26; exact quietL (HM.out _)))
  have HW := HW0.drewN nq
  have HL := below_drewN HL0 nq
  have hro := HasB.rowOk HW (n := 12) rfl
  clear HW0 HL0
  revert HW HL hro
  generalize (World.drewN _ nq) = W
  intro HW HL hro
  by_cases h1 : bt s 0 / 16 = 4
  · have v1 : (((bt s 0 : Nat) : Int) / 16 != 4) = false := by simp; omega
    by_cases h2 : 20 ≤ sizeG s
    · have v2 : ¬ ((sizeG s : Nat) : Int) < 20 := by omega
      have v3 : ((wt s 2 : Nat) : Int) < (sizeG s : Nat) := by omega
      clear h h1 h2
      go_wp2_with fail
      (try simp only [Exit.inBlock, Exit.then]); refine bodyPost_ret (v := .tuple #[.agg #[.int .i64 0, .int .i64 0, .bool false, .int .i64 0, .int .i64 0, .bool false, .int .u64 0, .int .u64 0, .bool false, .int .u64 0, .int .u64 0, .string ⟨#[]⟩], .string ⟨#[]⟩, .int .i64 3]) (results_cell3 Try.results10 _ _ w.heap.size _ _ rfl (HasB.setRow HW #[.int .i64 0, .int .i64 0, .bool false, .int .i64 0, .int .i64 0, .bool false, .int .u64 0, .int .u64 0, .bool false, .int .u64 0, .int .u64 0, .string ⟨#[]⟩]) Try.underlying26 info26 rfl rfl) rfl ⟨rfl, below_setRow HL (Nat.le_refl _) #[.int .i64 0, .int .i64 0, .bool false, .int .i64 0, .int .i64 0, .bool false, .int .u64 0, .int .u64 0, .bool false, .int .u64 0, .int .u64 0, .string ⟨#[]⟩]⟩
    · have v2 : ((sizeG s : Nat) : Int) < 20 := by omega
      clear h h1 h2
      go_wp2_with fail
      (try simp only [Exit.inBlock, Exit.then]); refine bodyPost_ret (v := .tuple #[.agg #[.int .i64 0, .int .i64 0, .bool false, .int .i64 0, .int .i64 0, .bool false, .int .u64 0, .int .u64 0, .bool false, .int .u64 0, .int .u64 0, .string ⟨#[]⟩], .string ⟨#[]⟩, .int .i64 3]) (results_cell3 Try.results10 _ _ w.heap.size _ _ rfl (HasB.setRow HW #[.int .i64 0, .int .i64 0, .bool false, .int .i64 0, .int .i64 0, .bool false, .int .u64 0, .int .u64 0, .bool false, .int .u64 0, .int .u64 0, .string ⟨#[]⟩]) Try.underlying26 info26 rfl rfl) rfl ⟨rfl, below_setRow HL (Nat.le_refl _) #[.int .i64 0, .int .i64 0, .bool false, .int .i64 0, .int .i64 0, .bool false, .int .u64 0, .int .u64 0, .bool false, .int .u64 0, .int .u64 0, .string ⟨#[]⟩]⟩
  · have v1 : (((bt s 0 : Nat) : Int) / 16 != 4) = true := by simp; omega
    clear h h1
    go_wp2_with fail
    (try simp only [Exit.inBlock, Exit.then]); refine bodyPost_ret (v := .tuple #[.agg #[.int .i64 0, .int .i64 0, .bool false, .int .i64 0, .int .i64 0, .bool false, .int .u64 0, .int .u64 0, .bool false, .int .u64 0, .int .u64 0, .string ⟨#[]⟩], .string ⟨#[]⟩, .int .i64 3]) (results_cell3 Try.results10 _ _ w.heap.size _ _ rfl (HasB.setRow HW #[.int .i64 0, .int .i64 0, .bool false, .int .i64 0, .int .i64 0, .bool false, .int .u64 0, .int .u64 0, .bool false, .int .u64 0, .int .u64 0, .string ⟨#[]⟩]) Try.underlying26 info26 rfl rfl) rfl ⟨rfl, below_setRow HL (Nat.le_refl _) #[.int .i64 0, .int .i64 0, .bool false, .int .i64 0, .int .i64 0, .bool false, .int .u64 0, .int .u64 0, .bool false, .int .u64 0, .int .u64 0, .string ⟨#[]⟩]⟩
theorem get5_cut (s : ByteArray) (hs : s.size ≤ 1099511627776) (w : World) (h20 : 20 ≤ s.size) (h : bt s 0 / 16 = 4 ∧ 20 ≤ sizeG s ∧ sizeG s ≤ wt s 2) (hc : s.size < wt s 2) :
    Calls Try.prog 10 #[.string s] w fun e w' => e = .returned (.tuple #[.agg #[.int .i64 (headG s).cl, .int .i64 (headG s).id, .bool (headG s).wh, .int .i64 (headG s).tt, .int .i64 (headG s).pr, .bool (headG s).sv, .int .u64 (headG s).sh, .int .u64 (headG s).sl, .bool (headG s).dv, .int .u64 (headG s).dh, .int .u64 (headG s).dl, .string (headG s).op], .string (payG s), .int .i64 (errG s)]) ∧ Below w.heap.size w w' := by
  have he : errG s = 2 := by unfold errG; rw [if_neg (by omega), if_neg (by omega), if_pos hc]
  obtain ⟨hh, hp⟩ := headG_no he (by omega)
  rw [hh, hp, he]
  show Calls _ _ _ _ fun e' w' => e' = .returned (.tuple #[.agg #[.int .i64 0, .int .i64 0, .bool false, .int .i64 0, .int .i64 0, .bool false, .int .u64 0, .int .u64 0, .bool false, .int .u64 0, .int .u64 0, .string ⟨#[]⟩], .string ⟨#[]⟩, .int .i64 2]) ∧ Below w.heap.size w w'
  clear he hh hp
  have h20i : ¬ (s.size : Int) < 20 := by omega
  have hm : s.size ≤ maxLen := by unfold maxLen; omega
  have q0 := bt_at s 0 (by omega)
  have b0 := bt_lt s 0
  have hz : (4 : Int) * (((bt s 0 : Nat) : Int) % 16) = (sizeG s : Nat) := by unfold sizeG; omega
  have HM := Lib.hid (must_at s 2 2 rfl hm (by omega))
  have HW0 := HasB.new w 26 #[.int .i64 0, .int .i64 0, .bool false, .int .i64 0, .int .i64 0, .bool false, .int .u64 0, .int .u64 0, .bool false, .int .u64 0, .int .u64 0, .string ⟨#[]⟩]
  have HL0 : Below w.heap.size w (w.alloc (.cells #[.int .i64 0, .int .i64 0, .bool false, .int .i64 0, .int .i64 0, .bool false, .int .u64 0, .int .u64 0, .bool false, .int .u64 0, .int .u64 0, .string ⟨#[]⟩] 26)) := (Below.refl _ _).alloc (Nat.le_refl _) _
  go_enter Try.func10, Try.ntmps10
  go_wp2_with fail
  go_quiet ((go_at_call 26; exact quietL (HM.out _)))
  have HW := HW0.drewN nq
  have HL := below_drewN HL0 nq
  have hro := HasB.rowOk HW (n := 12) rfl
  clear HW0 HL0
  revert HW HL hro
  generalize (World.drewN _ nq) = W
  intro HW HL hro
  have v1 : (((bt s 0 : Nat) : Int) / 16 != 4) = false := by simp; omega
  have v2 : ¬ ((sizeG s : Nat) : Int) < 20 := by omega
  have v3 : ¬ ((wt s 2 : Nat) : Int) < (sizeG s : Nat) := by omega
  have v4 : (s.size : Int) < (wt s 2 : Nat) := by omega
  clear h hc
  go_wp2_with fail
  (try simp only [Exit.inBlock, Exit.then]); refine bodyPost_ret (v := .tuple #[.agg #[.int .i64 0, .int .i64 0, .bool false, .int .i64 0, .int .i64 0, .bool false, .int .u64 0, .int .u64 0, .bool false, .int .u64 0, .int .u64 0, .string ⟨#[]⟩], .string ⟨#[]⟩, .int .i64 2]) (results_cell3 Try.results10 _ _ w.heap.size _ _ rfl (HasB.setRow HW #[.int .i64 0, .int .i64 0, .bool false, .int .i64 0, .int .i64 0, .bool false, .int .u64 0, .int .u64 0, .bool false, .int .u64 0, .int .u64 0, .string ⟨#[]⟩]) Try.underlying26 info26 rfl rfl) rfl ⟨rfl, below_setRow HL (Nat.le_refl _) #[.int .i64 0, .int .i64 0, .bool false, .int .i64 0, .int .i64 0, .bool false, .int .u64 0, .int .u64 0, .bool false, .int .u64 0, .int .u64 0, .string ⟨#[]⟩]⟩
theorem sum_take5 (s : ByteArray) (k : Nat) (hk : k ≤ s.size) (hs : s.size ≤ 1099511627776) (w : World) :
    Calls Try.prog 27 #[.string (s.extract 0 k)] w fun e w' => e = .returned (.int .i64 (sumL (s.data.toList.take k) : Nat)) ∧ Below w.heap.size w w' := by
  refine (R03.sum_any (s.extract 0 k) (by rw [ByteArray.size_extract]; omega) w).mono ?_
  rintro e w' ⟨rfl, hb⟩
  refine ⟨?_, hb⟩
  rw [ext_str', List.drop_zero, Nat.sub_zero]
theorem get5_sum (s : ByteArray) (hs : s.size ≤ 1099511627776) (w : World) (h20 : 20 ≤ s.size) (h : bt s 0 / 16 = 4 ∧ 20 ≤ sizeG s ∧ sizeG s ≤ wt s 2) (hc : wt s 2 ≤ s.size) (hr : ¬ sumL (s.data.toList.take (sizeG s)) = 65535) :
    Calls Try.prog 10 #[.string s] w fun e w' => e = .returned (.tuple #[.agg #[.int .i64 (headG s).cl, .int .i64 (headG s).id, .bool (headG s).wh, .int .i64 (headG s).tt, .int .i64 (headG s).pr, .bool (headG s).sv, .int .u64 (headG s).sh, .int .u64 (headG s).sl, .bool (headG s).dv, .int .u64 (headG s).dh, .int .u64 (headG s).dl, .string (headG s).op], .string (payG s), .int .i64 (errG s)]) ∧ Below w.heap.size w w' := by
  have he : errG s = 4 := by unfold errG; rw [if_neg (by omega), if_neg (by omega), if_neg (by omega), if_pos hr]
  obtain ⟨hh, hp⟩ := headG_no he (by omega)
  rw [hh, hp, he]
  show Calls _ _ _ _ fun e' w' => e' = .returned (.tuple #[.agg #[.int .i64 0, .int .i64 0, .bool false, .int .i64 0, .int .i64 0, .bool false, .int .u64 0, .int .u64 0, .bool false, .int .u64 0, .int .u64 0, .string ⟨#[]⟩], .string ⟨#[]⟩, .int .i64 4]) ∧ Below w.heap.size w w'
  clear he hh hp
  have h20i : ¬ (s.size : Int) < 20 := by omega
  have hm : s.size ≤ maxLen := by unfold maxLen; omega
  have q0 := bt_at s 0 (by omega)
  have b0 := bt_lt s 0
  have hz : (4 : Int) * (((bt s 0 : Nat) : Int) % 16) = (sizeG s : Nat) := by unfold sizeG; omega
  have HM := Lib.hid (must_at s 2 2 rfl hm (by omega))
  have HW0 := HasB.new w 26 #[.int .i64 0, .int .i64 0, .bool false, .int .i64 0, .int .i64 0, .bool false, .int .u64 0, .int .u64 0, .bool false, .int .u64 0, .int .u64 0, .string ⟨#[]⟩]
  have HL0 : Below w.heap.size w (w.alloc (.cells #[.int .i64 0, .int .i64 0, .bool false, .int .i64 0, .int .i64 0, .bool false, .int .u64 0, .int .u64 0, .bool false, .int .u64 0, .int .u64 0, .string ⟨#[]⟩] 26)) := (Below.refl _ _).alloc (Nat.le_refl _) _
  go_enter Try.func10, Try.ntmps10
  go_wp2_with fail
  go_quiet ((go_at_call 26; exact quietL (HM.out _)))
  have HW := HW0.drewN nq
  have HL := below_drewN HL0 nq
  have hro := HasB.rowOk HW (n := 12) rfl
  clear HW0 HL0
  revert HW HL hro
  generalize (World.drewN _ nq) = W
  intro HW HL hro
  have v1 : (((bt s 0 : Nat) : Int) / 16 != 4) = false := by simp; omega
  have v2 : ¬ ((sizeG s : Nat) : Int) < 20 := by omega
  have v3 : ¬ ((wt s 2 : Nat) : Int) < (sizeG s : Nat) := by omega
  have v4 : ¬ (s.size : Int) < (wt s 2 : Nat) := by omega
  have v5 : (0 : Int) ≤ (sizeG s : Nat) := by omega
  have v6 : ((sizeG s : Nat) : Int) ≤ s.size := by omega
  have hsz : sizeG s ≤ s.size := by omega
  have v7 : (((sumL (s.data.toList.take (sizeG s)) : Nat) : Int) != 65535) = true := by simp; omega
  clear h hc hr
  go_wp2_with (first | (go_at_call 27; (with_reducible refine (sum_take5 s (sizeG s) hsz hs _).mono ?_); rintro e wb ⟨rfl, hb⟩; replace HL := HL.trans (hb.mono (Nat.le_of_lt HW.lt)); replace HW := HasB.below HW hb HW.lt; clear hro hb; have hro := HasB.rowOk HW (n := 12) rfl) | fail)
  (try simp only [Exit.inBlock, Exit.then]); refine bodyPost_ret (v := .tuple #[.agg #[.int .i64 0, .int .i64 0, .bool false, .int .i64 0, .int .i64 0, .bool false, .int .u64 0, .int .u64 0, .bool false, .int .u64 0, .int .u64 0, .string ⟨#[]⟩], .string ⟨#[]⟩, .int .i64 4]) (results_cell3 Try.results10 _ _ w.heap.size _ _ rfl (HasB.setRow HW #[.int .i64 0, .int .i64 0, .bool false, .int .i64 0, .int .i64 0, .bool false, .int .u64 0, .int .u64 0, .bool false, .int .u64 0, .int .u64 0, .string ⟨#[]⟩]) Try.underlying26 info26 rfl rfl) rfl ⟨rfl, below_setRow HL (Nat.le_refl _) #[.int .i64 0, .int .i64 0, .bool false, .int .i64 0, .int .i64 0, .bool false, .int .u64 0, .int .u64 0, .bool false, .int .u64 0, .int .u64 0, .string ⟨#[]⟩]⟩
theorem get5_frag (s : ByteArray) (hs : s.size ≤ 1099511627776) (w : World) (h20 : 20 ≤ s.size) (h : bt s 0 / 16 = 4 ∧ 20 ≤ sizeG s ∧ sizeG s ≤ wt s 2) (hc : wt s 2 ≤ s.size) (hr : sumL (s.data.toList.take (sizeG s)) = 65535) (hf : wt s 6 ≠ 0 ∧ wt s 6 ≠ 16384) :
    Calls Try.prog 10 #[.string s] w fun e w' => e = .returned (.tuple #[.agg #[.int .i64 (headG s).cl, .int .i64 (headG s).id, .bool (headG s).wh, .int .i64 (headG s).tt, .int .i64 (headG s).pr, .bool (headG s).sv, .int .u64 (headG s).sh, .int .u64 (headG s).sl, .bool (headG s).dv, .int .u64 (headG s).dh, .int .u64 (headG s).dl, .string (headG s).op], .string (payG s), .int .i64 (errG s)]) ∧ Below w.heap.size w w' := by
  have he : errG s = 7 := by unfold errG; rw [if_neg (by omega), if_neg (by omega), if_neg (by omega), if_neg (by omega), if_pos hf]
  obtain ⟨hh, hp⟩ := headG_no he (by omega)
  rw [hh, hp, he]
  show Calls _ _ _ _ fun e' w' => e' = .returned (.tuple #[.agg #[.int .i64 0, .int .i64 0, .bool false, .int .i64 0, .int .i64 0, .bool false, .int .u64 0, .int .u64 0, .bool false, .int .u64 0, .int .u64 0, .string ⟨#[]⟩], .string ⟨#[]⟩, .int .i64 7]) ∧ Below w.heap.size w w'
  clear he hh hp
  have h20i : ¬ (s.size : Int) < 20 := by omega
  have hm : s.size ≤ maxLen := by unfold maxLen; omega
  have q0 := bt_at s 0 (by omega)
  have b0 := bt_lt s 0
  have hz : (4 : Int) * (((bt s 0 : Nat) : Int) % 16) = (sizeG s : Nat) := by unfold sizeG; omega
  have HM := Lib.hid (must_at s 2 2 rfl hm (by omega))
  have HW0 := HasB.new w 26 #[.int .i64 0, .int .i64 0, .bool false, .int .i64 0, .int .i64 0, .bool false, .int .u64 0, .int .u64 0, .bool false, .int .u64 0, .int .u64 0, .string ⟨#[]⟩]
  have HL0 : Below w.heap.size w (w.alloc (.cells #[.int .i64 0, .int .i64 0, .bool false, .int .i64 0, .int .i64 0, .bool false, .int .u64 0, .int .u64 0, .bool false, .int .u64 0, .int .u64 0, .string ⟨#[]⟩] 26)) := (Below.refl _ _).alloc (Nat.le_refl _) _
  go_enter Try.func10, Try.ntmps10
  go_wp2_with fail
  go_quiet ((go_at_call 26; exact quietL (HM.out _)))
  have HW := HW0.drewN nq
  have HL := below_drewN HL0 nq
  have hro := HasB.rowOk HW (n := 12) rfl
  clear HW0 HL0
  revert HW HL hro
  generalize (World.drewN _ nq) = W
  intro HW HL hro
  have v1 : (((bt s 0 : Nat) : Int) / 16 != 4) = false := by simp; omega
  have v2 : ¬ ((sizeG s : Nat) : Int) < 20 := by omega
  have v3 : ¬ ((wt s 2 : Nat) : Int) < (sizeG s : Nat) := by omega
  have v4 : ¬ (s.size : Int) < (wt s 2 : Nat) := by omega
  have v5 : (0 : Int) ≤ (sizeG s : Nat) := by omega
  have v6 : ((sizeG s : Nat) : Int) ≤ s.size := by omega
  have hsz : sizeG s ≤ s.size := by omega
  have v7 : (((sumL (s.data.toList.take (sizeG s)) : Nat) : Int) != 65535) = false := by simp; omega
  have q6 := bt_at s 6 (by omega)
  have q7 := bt_at s 7 (by omega)
  have b6 := bt_lt s 6
  have b7 := bt_lt s 7
  have i6 : (6 : Int) < s.size := by omega
  have i7 : (7 : Int) < s.size := by omega
  have hw6 : wt s 6 = bt s 6 * 256 + bt s 7 := wt_bt s 6
  by_cases g1 : bt s 6 = 0
  · have u1 : (((bt s 6 : Nat) : Int) != 0) = false := by simp; omega
    have u3 : (((bt s 7 : Nat) : Int) != 0) = true := by simp; omega
    clear h hc hr hf hw6 g1
    go_wp2_with (first | (go_at_call 27; (with_reducible refine (sum_take5 s (sizeG s) hsz hs _).mono ?_); rintro e wb ⟨rfl, hb⟩; replace HL := HL.trans (hb.mono (Nat.le_of_lt HW.lt)); replace HW := HasB.below HW hb HW.lt; clear hro hb; have hro := HasB.rowOk HW (n := 12) rfl) | fail)
    (try simp only [Exit.inBlock, Exit.then]); refine bodyPost_ret (v := .tuple #[.agg #[.int .i64 0, .int .i64 0, .bool false, .int .i64 0, .int .i64 0, .bool false, .int .u64 0, .int .u64 0, .bool false, .int .u64 0, .int .u64 0, .string ⟨#[]⟩], .string ⟨#[]⟩, .int .i64 7]) (results_cell3 Try.results10 _ _ w.heap.size _ _ rfl (HasB.setRow HW #[.int .i64 0, .int .i64 0, .bool false, .int .i64 0, .int .i64 0, .bool false, .int .u64 0, .int .u64 0, .bool false, .int .u64 0, .int .u64 0, .string ⟨#[]⟩]) Try.underlying26 info26 rfl rfl) rfl ⟨rfl, below_setRow HL (Nat.le_refl _) #[.int .i64 0, .int .i64 0, .bool false, .int .i64 0, .int .i64 0, .bool false, .int .u64 0, .int .u64 0, .bool false, .int .u64 0, .int .u64 0, .string ⟨#[]⟩]⟩
  · have u1 : (((bt s 6 : Nat) : Int) != 0) = true := by simp; omega
    by_cases g2 : bt s 6 = 64
    · have u2 : (((bt s 6 : Nat) : Int) != 64) = false := by simp; omega
      have u3 : (((bt s 7 : Nat) : Int) != 0) = true := by simp; omega
      clear h hc hr hf hw6 g1 g2
      go_wp2_with (first | (go_at_call 27; (with_reducible refine (sum_take5 s (sizeG s) hsz hs _).mono ?_); rintro e wb ⟨rfl, hb⟩; replace HL := HL.trans (hb.mono (Nat.le_of_lt HW.lt)); replace HW := HasB.below HW hb HW.lt; clear hro hb; have hro := HasB.rowOk HW (n := 12) rfl) | fail)
      (try simp only [Exit.inBlock, Exit.then]); refine bodyPost_ret (v := .tuple #[.agg #[.int .i64 0, .int .i64 0, .bool false, .int .i64 0, .int .i64 0, .bool false, .int .u64 0, .int .u64 0, .bool false, .int .u64 0, .int .u64 0, .string ⟨#[]⟩], .string ⟨#[]⟩, .int .i64 7]) (results_cell3 Try.results10 _ _ w.heap.size _ _ rfl (HasB.setRow HW #[.int .i64 0, .int .i64 0, .bool false, .int .i64 0, .int .i64 0, .bool false, .int .u64 0, .int .u64 0, .bool false, .int .u64 0, .int .u64 0, .string ⟨#[]⟩]) Try.underlying26 info26 rfl rfl) rfl ⟨rfl, below_setRow HL (Nat.le_refl _) #[.int .i64 0, .int .i64 0, .bool false, .int .i64 0, .int .i64 0, .bool false, .int .u64 0, .int .u64 0, .bool false, .int .u64 0, .int .u64 0, .string ⟨#[]⟩]⟩
    · have u2 : (((bt s 6 : Nat) : Int) != 64) = true := by simp; omega
      clear h hc hr hf hw6 g1 g2
      go_wp2_with (first | (go_at_call 27; (with_reducible refine (sum_take5 s (sizeG s) hsz hs _).mono ?_); rintro e wb ⟨rfl, hb⟩; replace HL := HL.trans (hb.mono (Nat.le_of_lt HW.lt)); replace HW := HasB.below HW hb HW.lt; clear hro hb; have hro := HasB.rowOk HW (n := 12) rfl) | fail)
      (try simp only [Exit.inBlock, Exit.then]); refine bodyPost_ret (v := .tuple #[.agg #[.int .i64 0, .int .i64 0, .bool false, .int .i64 0, .int .i64 0, .bool false, .int .u64 0, .int .u64 0, .bool false, .int .u64 0, .int .u64 0, .string ⟨#[]⟩], .string ⟨#[]⟩, .int .i64 7]) (results_cell3 Try.results10 _ _ w.heap.size _ _ rfl (HasB.setRow HW #[.int .i64 0, .int .i64 0, .bool false, .int .i64 0, .int .i64 0, .bool false, .int .u64 0, .int .u64 0, .bool false, .int .u64 0, .int .u64 0, .string ⟨#[]⟩]) Try.underlying26 info26 rfl rfl) rfl ⟨rfl, below_setRow HL (Nat.le_refl _) #[.int .i64 0, .int .i64 0, .bool false, .int .i64 0, .int .i64 0, .bool false, .int .u64 0, .int .u64 0, .bool false, .int .u64 0, .int .u64 0, .string ⟨#[]⟩]⟩
theorem getR_at (s : ByteArray) (p q : Nat) (hq : q = p + 4) (h : q ≤ s.size) (w : World) :
    Calls Try.prog 28 #[.string (s.extract p q)] w fun e w' => e = .returned (.tuple #[.agg #[.bool false, .int .u64 0, .int .u64 (lowG s p : Nat)], .bool (gOk (s.extract p q).data.toList)]) ∧ Below w.heap.size w w' := by
  subst hq
  have h1 := R04.get_addr (s.extract p (p + 4)) (by rw [ByteArray.size_extract]; unfold maxLen; omega) w
  obtain ⟨e1, e2, e3⟩ := low_addr s p h
  rw [e1, e2, e3] at h1
  exact h1
set_option maxRecDepth 100000 in
set_option maxHeartbeats 2000000 in
theorem get5_ok (s : ByteArray) (hs : s.size ≤ 1099511627776) (w : World) (he : errG s = 0) :
    Calls Try.prog 10 #[.string s] w fun e w' => e = .returned (.tuple #[.agg #[.int .i64 (headG s).cl, .int .i64 (headG s).id, .bool (headG s).wh, .int .i64 (headG s).tt, .int .i64 (headG s).pr, .bool (headG s).sv, .int .u64 (headG s).sh, .int .u64 (headG s).sl, .bool (headG s).dv, .int .u64 (headG s).dh, .int .u64 (headG s).dl, .string (headG s).op], .string (payG s), .int .i64 (errG s)]) ∧ Below w.heap.size w w' := by
  obtain ⟨h20, h1, h2, h3, hc, hr, hf⟩ := errG_ok he
  have hh : headG s = rawG s := if_pos he
  have hp : payG s = s.extract (sizeG s) (wt s 2) := if_pos he
  have hop : opG s = s.extract 20 (sizeG s) := by unfold opG; rw [if_pos ⟨h2, by omega⟩]
  have hw6 : wt s 6 = bt s 6 * 256 + bt s 7 := wt_bt s 6
  have hwh : decide (wt s 6 / 16384 % 2 = 1) = (((bt s 6 : Nat) : Int) == 64) := by
    have := bt_lt s 7
    rcases hf with hf | hf
    · rw [hf, show bt s 6 = 0 by omega]; rfl
    · rw [hf, show bt s 6 = 64 by omega]; rfl
  rw [hh, hp, he]
  show Calls _ _ _ _ fun e' w' => e' = .returned (.tuple #[.agg #[.int .i64 (bt s 1 : Nat), .int .i64 (wt s 4 : Nat), .bool (decide (wt s 6 / 16384 % 2 = 1)), .int .i64 (bt s 8 : Nat), .int .i64 (bt s 9 : Nat), .bool false, .int .u64 0, .int .u64 (lowG s 12 : Nat), .bool false, .int .u64 0, .int .u64 (lowG s 16 : Nat), .string (opG s)], .string (s.extract (sizeG s) (wt s 2)), .int .i64 0]) ∧ Below w.heap.size w w'
  rw [hwh, hop]
  have h := And.intro h1 (And.intro h2 h3)
  clear hh hp he hwh hop
  have h20i : ¬ (s.size : Int) < 20 := by omega
  have hm : s.size ≤ maxLen := by unfold maxLen; omega
  have q0 := bt_at s 0 (by omega)
  have b0 := bt_lt s 0
  have hz : (4 : Int) * (((bt s 0 : Nat) : Int) % 16) = (sizeG s : Nat) := by unfold sizeG; omega
  have HM := Lib.hid (must_at s 2 2 rfl hm (by omega))
  have HW0 := HasB.new w 26 #[.int .i64 0, .int .i64 0, .bool false, .int .i64 0, .int .i64 0, .bool false, .int .u64 0, .int .u64 0, .bool false, .int .u64 0, .int .u64 0, .string ⟨#[]⟩]
  have HL0 : Below w.heap.size w (w.alloc (.cells #[.int .i64 0, .int .i64 0, .bool false, .int .i64 0, .int .i64 0, .bool false, .int .u64 0, .int .u64 0, .bool false, .int .u64 0, .int .u64 0, .string ⟨#[]⟩] 26)) := (Below.refl _ _).alloc (Nat.le_refl _) _
  go_enter Try.func10, Try.ntmps10
  go_wp2_with fail
  go_quiet ((go_at_call 26; exact quietL (HM.out _)))
  have HW := HW0.drewN nq
  have HL := below_drewN HL0 nq
  have hro := HasB.rowOk HW (n := 12) rfl
  clear HW0 HL0
  revert HW HL hro
  generalize (World.drewN _ nq) = W
  intro HW HL hro
  have v1 : (((bt s 0 : Nat) : Int) / 16 != 4) = false := by simp; omega
  have v2 : ¬ ((sizeG s : Nat) : Int) < 20 := by omega
  have v3 : ¬ ((wt s 2 : Nat) : Int) < (sizeG s : Nat) := by omega
  have v4 : ¬ (s.size : Int) < (wt s 2 : Nat) := by omega
  have v5 : (0 : Int) ≤ (sizeG s : Nat) := by omega
  have v6 : ((sizeG s : Nat) : Int) ≤ s.size := by omega
  have hsz : sizeG s ≤ s.size := by omega
  have v7 : (((sumL (s.data.toList.take (sizeG s)) : Nat) : Int) != 65535) = false := by simp; omega
  have q6 := bt_at s 6 (by omega)
  have q7 := bt_at s 7 (by omega)
  have b6 := bt_lt s 6
  have b7 := bt_lt s 7
  have i6 : (6 : Int) < s.size := by omega
  have i7 : (7 : Int) < s.size := by omega
  have q1 := bt_at s 1 (by omega)
  have q8 := bt_at s 8 (by omega)
  have q9 := bt_at s 9 (by omega)
  have b1 := bt_lt s 1
  have b8 := bt_lt s 8
  have b9 := bt_lt s 9
  have i16 : (16 : Int) ≤ s.size := by omega
  have i20 : (20 : Int) ≤ s.size := by omega
  have i1 : (1 : Int) < s.size := by omega
  have i8 : (8 : Int) < s.size := by omega
  have i9 : (9 : Int) < s.size := by omega
  have HM4 := Lib.hid (must_at s 4 4 rfl hm (by omega))
  have v9 : ((sizeG s : Nat) : Int) ≤ (wt s 2 : Nat) := by omega
  have v10 : ((wt s 2 : Nat) : Int) ≤ s.size := by omega
  have u7 : (((bt s 7 : Nat) : Int) != 0) = false := by have := bt_lt s 7; simp; omega
  by_cases g1 : bt s 6 = 0
  · have u1 : (((bt s 6 : Nat) : Int) != 0) = false := by simp; omega
    clear h hc hr hf hw6 g1 h1 h2 h3
    go_wp2_with (first | (go_at_call 27; (with_reducible refine (sum_take5 s (sizeG s) hsz hs _).mono ?_); rintro e wb ⟨rfl, hb⟩; replace HL := HL.trans (hb.mono (Nat.le_of_lt HW.lt)); replace HW := HasB.below HW hb HW.lt; clear hro hb; have hro := HasB.rowOk HW (n := 12) rfl) | (go_at_call 28; (with_reducible refine (getR_at s 12 16 rfl (by omega) _).mono ?_); rintro e wc ⟨rfl, hb⟩; have la := Nat.lt_of_lt_of_le HW.lt hb.size; replace HL := (HL.trans (hb.mono (Nat.le_of_lt HW.lt))).alloc (Nat.le_trans (Nat.le_of_lt HW.lt) hb.size) (.cells #[.bool false, .int .u64 0, .int .u64 (lowG s 12 : Nat)] 24); replace HW := (HasB.below HW hb HW.lt).alloc (.cells #[.bool false, .int .u64 0, .int .u64 (lowG s 12 : Nat)] 24); have HA := HasB.new wc 24 #[.bool false, .int .u64 0, .int .u64 (lowG s 12 : Nat)]) | (go_at_call 28; (with_reducible refine (getR_at s 16 20 rfl (by omega) _).mono ?_); rintro e wd ⟨rfl, hb⟩; have lb := Nat.lt_of_lt_of_le HW.lt hb.size; replace HL := (HL.trans (hb.mono (Nat.le_of_lt HW.lt))).alloc (Nat.le_trans (Nat.le_of_lt HW.lt) hb.size) (.cells #[.bool false, .int .u64 0, .int .u64 (lowG s 16 : Nat)] 24); replace HW := (HasB.below HW hb HW.lt).alloc (.cells #[.bool false, .int .u64 0, .int .u64 (lowG s 16 : Nat)] 24); have HB := HasB.new wd 24 #[.bool false, .int .u64 0, .int .u64 (lowG s 16 : Nat)]) | fail)
    replace HA := (HasB.below HA hb HA.lt).alloc (.cells #[.bool false, .int .u64 0, .int .u64 (lowG s 16 : Nat)] 24)
    have HH := Lib.hid (And.intro HW (And.intro HA (And.intro HB HL)))
    clear HW HA HB HL hb hro
    revert HH
    generalize (World.alloc wd _) = X
    intro HH
    have a0 := HasB.cell HH.out.2.1 0 (.bool false) rfl
    have a1 := HasB.cell HH.out.2.1 1 (.int .u64 0) rfl
    have a2 := HasB.cell HH.out.2.1 2 (.int .u64 (lowG s 12 : Nat)) rfl
    have e0 := HasB.cell HH.out.2.2.1 0 (.bool false) rfl
    have e1 := HasB.cell HH.out.2.2.1 1 (.int .u64 0) rfl
    have e2 := HasB.cell HH.out.2.2.1 2 (.int .u64 (lowG s 16 : Nat)) rfl
    have HW := HH.out.1
    have d0 := HasB.cell HW 0 (.int .i64 0) rfl; have f0 := HasB.free HW 0; have d1 := HasB.cell HW 1 (.int .i64 0) rfl; have f1 := HasB.free HW 1; have d2 := HasB.cell HW 2 (.bool false) rfl; have f2 := HasB.free HW 2; have d3 := HasB.cell HW 3 (.int .i64 0) rfl; have f3 := HasB.free HW 3; have d4 := HasB.cell HW 4 (.int .i64 0) rfl; have f4 := HasB.free HW 4; have d5 := HasB.cell HW 5 (.bool false) rfl; have f5 := HasB.free HW 5; have d6 := HasB.cell HW 6 (.int .u64 0) rfl; have f6 := HasB.free HW 6; have d7 := HasB.cell HW 7 (.int .u64 0) rfl; have f7 := HasB.free HW 7; have d8 := HasB.cell HW 8 (.bool false) rfl; have f8 := HasB.free HW 8; have d9 := HasB.cell HW 9 (.int .u64 0) rfl; have f9 := HasB.free HW 9; have d10 := HasB.cell HW 10 (.int .u64 0) rfl; have f10 := HasB.free HW 10; have d11 := HasB.cell HW 11 (.string ⟨#[]⟩) rfl; have f11 := HasB.free HW 11
    clear HW
    have n1 : ¬ wc.heap.size = w.heap.size := by omega
    have n2 : ¬ wd.heap.size = w.heap.size := by omega
    have n3 : ¬ w.heap.size = wc.heap.size := by omega
    have n4 : ¬ w.heap.size = wd.heap.size := by omega
    clear la lb
    have j1 : 1 < s.size := by omega
    have j6 : 6 < s.size := by omega
    have j8 : 8 < s.size := by omega
    have j9 : 9 < s.size := by omega
    have t1 : IntKind.i64.wrap ((bt s 1 : Nat) : Int) = (bt s 1 : Nat) := IntWalk.i64_in _ (by omega)
    have t8 : IntKind.i64.wrap ((bt s 8 : Nat) : Int) = (bt s 8 : Nat) := IntWalk.i64_in _ (by omega)
    have t9 : IntKind.i64.wrap ((bt s 9 : Nat) : Int) = (bt s 9 : Nat) := IntWalk.i64_in _ (by omega)
    refine wp_region_noPanic ?_
    refine wp_region_held_drew (S := fun w' => w'.cell? ⟨wc.heap.size, 0, none⟩ = some (.bool false) ∧ w'.cell? ⟨wc.heap.size, 1, none⟩ = some (.int .u64 0) ∧ w'.cell? ⟨wc.heap.size, 2, none⟩ = some (.int .u64 (lowG s 12 : Nat)) ∧ w'.cell? ⟨wd.heap.size, 0, none⟩ = some (.bool false) ∧ w'.cell? ⟨wd.heap.size, 1, none⟩ = some (.int .u64 0) ∧ w'.cell? ⟨wd.heap.size, 2, none⟩ = some (.int .u64 (lowG s 16 : Nat))) (by kernel_rfl) ⟨a0, a1, a2, e0, e1, e2⟩ (fun hHeld => ?_)
    refine wpAnyH_take (i := 0) (oi := _) (v := ?v0a) rfl (by kernel_rfl) (by kernel_rfl) (by kernel_rfl) (fun _ _ _ h => h) (Or.inl ⟨by rfl, ?y0a⟩) (by assumption) ?r0a
    case y0a => intro w0 hSw; (try dsimp only at hSw); go_simp; try with_reducible rfl
    try simp only [Act.put, List.setIfInBounds_toArray, List.set_cons_zero, List.set_cons_succ, List.getElem_toArray, List.getElem_cons_zero]
    refine wpAnyH_take (i := 1) (oi := _) (v := ?v1a) rfl (by kernel_rfl) (by kernel_rfl) (by kernel_rfl) (fun _ _ _ h => h) (Or.inl ⟨by rfl, ?y1a⟩) (by assumption) ?r1a
    case y1a => intro w0 hSw; (try dsimp only at hSw); go_simp; try with_reducible rfl
    try simp only [Act.put, List.setIfInBounds_toArray, List.set_cons_zero, List.set_cons_succ, List.getElem_toArray, List.getElem_cons_succ, List.getElem_cons_zero]
    refine wpAnyH_take (i := 2) (oi := _) (v := ?v2a) rfl (by kernel_rfl) (by kernel_rfl) (by kernel_rfl) (fun _ _ _ h => h) (Or.inl ⟨by rfl, ?y2a⟩) (by assumption) ?r2a
    case y2a => intro w0 hSw; (try dsimp only at hSw); go_simp; try with_reducible rfl
    try simp only [Act.put, List.setIfInBounds_toArray, List.set_cons_zero, List.set_cons_succ, List.getElem_toArray, List.getElem_cons_succ, List.getElem_cons_zero]
    refine wpAnyH_take (i := 3) (oi := _) (v := ?v3a) rfl (by kernel_rfl) (by kernel_rfl) (by kernel_rfl) (fun _ _ _ h => h) (Or.inl ⟨by rfl, ?y3a⟩) (by assumption) ?r3a
    case y3a => intro w0 hSw; (try dsimp only at hSw); go_simp; try with_reducible rfl
    try simp only [Act.put, List.setIfInBounds_toArray, List.set_cons_zero, List.set_cons_succ, List.getElem_toArray, List.getElem_cons_succ, List.getElem_cons_zero]
    refine wpAnyH_take (i := 5) (oi := _) (v := ?v5a) rfl (by kernel_rfl) (by kernel_rfl) (by kernel_rfl) (fun _ _ _ h => h) (Or.inl ⟨by rfl, ?y5a⟩) (by assumption) ?r5a
    case y5a => intro w0 hSw; (try dsimp only at hSw); go_simp; try with_reducible rfl
    try simp only [Act.put, List.setIfInBounds_toArray, List.set_cons_zero, List.set_cons_succ, List.getElem_toArray, List.getElem_cons_succ, List.getElem_cons_zero]
    refine wpAnyH_take (i := 6) (oi := _) (v := ?v6a) rfl (by kernel_rfl) (by kernel_rfl) (by kernel_rfl) (fun _ _ _ h => h) (Or.inl ⟨by rfl, ?y6a⟩) (by assumption) ?r6a
    case y6a => intro w0 hSw; (try dsimp only at hSw); go_simp; try with_reducible rfl
    try simp only [Act.put, List.setIfInBounds_toArray, List.set_cons_zero, List.set_cons_succ, List.getElem_toArray, List.getElem_cons_succ, List.getElem_cons_zero]
    refine wpAnyH_take (i := 7) (oi := _) (v := ?v7a) rfl (by kernel_rfl) (by kernel_rfl) (by kernel_rfl) (fun _ _ _ h => h) (Or.inl ⟨by rfl, ?y7a⟩) (by assumption) ?r7a
    case y7a => intro w0 hSw; (try dsimp only at hSw); go_simp; try with_reducible rfl
    try simp only [Act.put, List.setIfInBounds_toArray, List.set_cons_zero, List.set_cons_succ, List.getElem_toArray, List.getElem_cons_succ, List.getElem_cons_zero]
    refine wpAnyH_take (i := 8) (oi := _) (v := ?v8a) rfl (by kernel_rfl) (by kernel_rfl) (by kernel_rfl) (fun _ _ _ h => h) (Or.inl ⟨by rfl, ?y8a⟩) (by assumption) ?r8a
    case y8a => intro w0 hSw; (try dsimp only at hSw); go_simp; try with_reducible rfl
    try simp only [Act.put, List.setIfInBounds_toArray, List.set_cons_zero, List.set_cons_succ, List.getElem_toArray, List.getElem_cons_succ, List.getElem_cons_zero]
    refine wpAnyH_take (i := 9) (oi := _) (v := ?v9a) rfl (by kernel_rfl) (by kernel_rfl) (by kernel_rfl) (fun _ _ _ h => h) (Or.inl ⟨by rfl, ?y9a⟩) (by assumption) ?r9a
    case y9a => intro w0 hSw; (try dsimp only at hSw); go_simp; try with_reducible rfl
    try simp only [Act.put, List.setIfInBounds_toArray, List.set_cons_zero, List.set_cons_succ, List.getElem_toArray, List.getElem_cons_succ, List.getElem_cons_zero]
    refine wpAnyH_take (i := 10) (oi := _) (v := ?v10a) rfl (by kernel_rfl) (by kernel_rfl) (by kernel_rfl) (fun _ _ _ h => h) (Or.inl ⟨by rfl, ?y10a⟩) (by assumption) ?r10a
    case y10a => intro w0 hSw; (try dsimp only at hSw); go_simp; try with_reducible rfl
    try simp only [Act.put, List.setIfInBounds_toArray, List.set_cons_zero, List.set_cons_succ, List.getElem_toArray, List.getElem_cons_succ, List.getElem_cons_zero]
    refine wpAnyH_take (i := 11) (oi := _) (v := ?v11a) rfl (by kernel_rfl) (by kernel_rfl) (by kernel_rfl) (fun _ _ _ h => h) (Or.inl ⟨by rfl, ?y11a⟩) (by assumption) ?r11a
    case y11a => intro w0 hSw; (try dsimp only at hSw); go_simp; try with_reducible rfl
    try simp only [Act.put, List.setIfInBounds_toArray, List.set_cons_zero, List.set_cons_succ, List.getElem_toArray, List.getElem_cons_succ, List.getElem_cons_zero]
    refine wpAnyH_take (i := 12) (oi := _) (v := ?v12a) rfl (by kernel_rfl) (by kernel_rfl) (by kernel_rfl) (fun _ _ _ h => h) (Or.inl ⟨by rfl, ?y12a⟩) (by assumption) ?r12a
    case y12a => intro w0 hSw; (try dsimp only at hSw); go_simp; try with_reducible rfl
    try simp only [Act.put, List.setIfInBounds_toArray, List.set_cons_zero, List.set_cons_succ, List.getElem_toArray, List.getElem_cons_succ, List.getElem_cons_zero]
    refine wpAnyH_take (i := 13) (oi := _) (v := ?v13a) rfl (by kernel_rfl) (by kernel_rfl) (by kernel_rfl) (fun _ _ _ h => h) (Or.inl ⟨by rfl, ?y13a⟩) (by assumption) ?r13a
    case y13a => intro w0 hSw; (try dsimp only at hSw); go_simp; try with_reducible rfl
    try simp only [Act.put, List.setIfInBounds_toArray, List.set_cons_zero, List.set_cons_succ, List.getElem_toArray, List.getElem_cons_succ, List.getElem_cons_zero]
    refine wpAnyH_take (i := 14) (oi := _) (v := ?v14a) rfl (by kernel_rfl) (by kernel_rfl) (by kernel_rfl) (fun _ _ _ h => h) (Or.inl ⟨by rfl, ?y14a⟩) (by assumption) ?r14a
    case y14a => intro w0 hSw; (try dsimp only at hSw); go_simp; try with_reducible rfl
    try simp only [Act.put, List.setIfInBounds_toArray, List.set_cons_zero, List.set_cons_succ, List.getElem_toArray, List.getElem_cons_succ, List.getElem_cons_zero]
    refine wpAnyH_take (i := 15) (oi := _) (v := ?v15a) rfl (by kernel_rfl) (by kernel_rfl) (by kernel_rfl) (fun _ _ _ h => h) (Or.inl ⟨by rfl, ?y15a⟩) (by assumption) ?r15a
    case y15a => intro w0 hSw; (try dsimp only at hSw); go_simp; try with_reducible rfl
    try simp only [Act.put, List.setIfInBounds_toArray, List.set_cons_zero, List.set_cons_succ, List.getElem_toArray, List.getElem_cons_succ, List.getElem_cons_zero]
    refine wpAnyH_take (i := 16) (oi := _) (v := ?v16a) rfl (by kernel_rfl) (by kernel_rfl) (by kernel_rfl) (fun _ _ _ h => h) (Or.inl ⟨by rfl, ?y16a⟩) (by assumption) ?r16a
    case y16a => intro w0 hSw; (try dsimp only at hSw); go_simp; try with_reducible rfl
    try simp only [Act.put, List.setIfInBounds_toArray, List.set_cons_zero, List.set_cons_succ, List.getElem_toArray, List.getElem_cons_succ, List.getElem_cons_zero]
    refine wpAnyH_take (i := 17) (oi := _) (v := ?v17a) rfl (by kernel_rfl) (by kernel_rfl) (by kernel_rfl) (fun _ _ _ h => h) (Or.inl ⟨by rfl, ?y17a⟩) (by assumption) ?r17a
    case y17a => intro w0 hSw; (try dsimp only at hSw); go_simp; try with_reducible rfl
    try simp only [Act.put, List.setIfInBounds_toArray, List.set_cons_zero, List.set_cons_succ, List.getElem_toArray, List.getElem_cons_succ, List.getElem_cons_zero]
    refine wpAnyH_take (i := 18) (oi := _) (v := ?v18a) rfl (by kernel_rfl) (by kernel_rfl) (by kernel_rfl) (fun _ _ _ h => h) (Or.inl ⟨by rfl, ?y18a⟩) (by assumption) ?r18a
    case y18a => intro w0 hSw; (try dsimp only at hSw); go_simp; try with_reducible rfl
    try simp only [Act.put, List.setIfInBounds_toArray, List.set_cons_zero, List.set_cons_succ, List.getElem_toArray, List.getElem_cons_succ, List.getElem_cons_zero]
    refine wpAnyH_take (i := 20) (oi := _) (v := ?v20a) rfl (by kernel_rfl) (by kernel_rfl) (by kernel_rfl) (fun _ _ _ h => h) (Or.inl ⟨by rfl, ?y20a⟩) (by assumption) ?r20a
    case y20a => intro w0 hSw; (try dsimp only at hSw); go_simp; try with_reducible rfl
    try simp only [Act.put, List.setIfInBounds_toArray, List.set_cons_zero, List.set_cons_succ, List.getElem_toArray, List.getElem_cons_succ, List.getElem_cons_zero]
    refine wpAnyH_take (i := 21) (oi := _) (v := ?v21a) rfl (by kernel_rfl) (by kernel_rfl) (by kernel_rfl) (fun _ _ _ h => h) (Or.inl ⟨by rfl, ?y21a⟩) (by assumption) ?r21a
    case y21a => intro w0 hSw; (try dsimp only at hSw); go_simp; try with_reducible rfl
    try simp only [Act.put, List.setIfInBounds_toArray, List.set_cons_zero, List.set_cons_succ, List.getElem_toArray, List.getElem_cons_succ, List.getElem_cons_zero]
    refine wpAnyH_take (i := 22) (oi := _) (v := ?v22a) rfl (by kernel_rfl) (by kernel_rfl) (by kernel_rfl) (fun _ _ _ h => h) (Or.inl ⟨by rfl, ?y22a⟩) (by assumption) ?r22a
    case y22a => intro w0 hSw; (try dsimp only at hSw); go_simp; try with_reducible rfl
    try simp only [Act.put, List.setIfInBounds_toArray, List.set_cons_zero, List.set_cons_succ, List.getElem_toArray, List.getElem_cons_succ, List.getElem_cons_zero]
    refine wpAnyH_take (i := 23) (oi := _) (v := ?v23a) rfl (by kernel_rfl) (by kernel_rfl) (by kernel_rfl) (fun _ _ _ h => h) (Or.inl ⟨by rfl, ?y23a⟩) (by assumption) ?r23a
    case y23a => intro w0 hSw; (try dsimp only at hSw); go_simp; try with_reducible rfl
    try simp only [Act.put, List.setIfInBounds_toArray, List.set_cons_zero, List.set_cons_succ, List.getElem_toArray, List.getElem_cons_succ, List.getElem_cons_zero]
    refine wpAnyH_ready (rs := [4]) (by kernel_rfl) (by simp) ?_
    refine AllReadyH.cons (o := _) rfl (fun K hK => ?_) AllReadyH.nil
    go_simp
    (with_reducible refine (HM4.out _).mono ?_)
    rintro e wz ⟨rfl, rfl⟩
    go_wp2_with fail
    refine hK.out _ _ ⟨a0, a1, a2, e0, e1, e2⟩ (fun hHeld => ?_)
    clear hK K
    try simp only [Act.put, List.setIfInBounds_toArray, List.set_cons_zero, List.set_cons_succ, List.getElem_toArray, List.getElem_cons_succ, List.getElem_cons_zero]
    refine wpAnyH_take (i := 19) (oi := _) (v := ?v19a) rfl (by kernel_rfl) (by kernel_rfl) (by kernel_rfl) (fun _ _ _ h => h) (Or.inl ⟨by rfl, ?y19a⟩) (by assumption) ?r19a
    case y19a => intro w0 hSw; (try dsimp only at hSw); go_simp; try with_reducible rfl
    try simp only [Act.put, List.setIfInBounds_toArray, List.set_cons_zero, List.set_cons_succ, List.getElem_toArray, List.getElem_cons_succ, List.getElem_cons_zero]
    refine wpAnyH_ready (rs := [24]) (by kernel_rfl) (by simp) ?_
    refine AllReadyH.cons (o := _) rfl (fun K hK => ?_) AllReadyH.nil
    go_simp
    have hk := putAll_kept (S := fun k => k = w.heap.size) (a := X) (g := w.heap.size) (.inr rfl) [.int .i64 (bt s 1 : Nat), .int .i64 (wt s 4 : Nat), .bool (((bt s 6 : Nat) : Int) == 64), .int .i64 (bt s 8 : Nat), .int .i64 (bt s 9 : Nat), .bool false, .int .u64 0, .int .u64 (lowG s 12 : Nat), .bool false, .int .u64 0, .int .u64 (lowG s 16 : Nat), .string (s.extract 20 (sizeG s))] 0 X (Kept.refl _ X)
    have HW2 := putAll_hasB HH.out.1 [.int .i64 (bt s 1 : Nat), .int .i64 (wt s 4 : Nat), .bool (((bt s 6 : Nat) : Int) == 64), .int .i64 (bt s 8 : Nat), .int .i64 (bt s 9 : Nat), .bool false, .int .u64 0, .int .u64 (lowG s 12 : Nat), .bool false, .int .u64 0, .int .u64 (lowG s 16 : Nat), .string (s.extract 20 (sizeG s))] rfl
    have HL2 := putAll_below (Nat.le_refl _) [.int .i64 (bt s 1 : Nat), .int .i64 (wt s 4 : Nat), .bool (((bt s 6 : Nat) : Int) == 64), .int .i64 (bt s 8 : Nat), .int .i64 (bt s 9 : Nat), .bool false, .int .u64 0, .int .u64 (lowG s 12 : Nat), .bool false, .int .u64 0, .int .u64 (lowG s 16 : Nat), .string (s.extract 20 (sizeG s))] 0 _ HH.out.2.2.2
    simp only [putAll, Nat.zero_add, Nat.reduceAdd] at hk HW2 HL2
    revert hk HW2 HL2
    generalize World.setCell _ (⟨w.heap.size, 11, none⟩ : Addr) _ = Y
    intro hk HW2 HL2
    have lc := HH.out.2.1.lt
    have ld := HH.out.2.2.1.lt
    refine hK.out _ _ ⟨(hk.cell ⟨wc.heap.size, 0, none⟩ lc n1).trans a0, (hk.cell ⟨wc.heap.size, 1, none⟩ lc n1).trans a1, (hk.cell ⟨wc.heap.size, 2, none⟩ lc n1).trans a2, (hk.cell ⟨wd.heap.size, 0, none⟩ ld n2).trans e0, (hk.cell ⟨wd.heap.size, 1, none⟩ ld n2).trans e1, (hk.cell ⟨wd.heap.size, 2, none⟩ ld n2).trans e2⟩ (fun hHeld => ?_)
    clear hK K hk
    try simp only [Act.put, List.setIfInBounds_toArray, List.set_cons_zero, List.set_cons_succ, List.getElem_toArray, List.getElem_cons_succ, List.getElem_cons_zero]
    refine wpAnyH_take (i := 25) (oi := _) (v := ?v25a) rfl (by kernel_rfl) (by kernel_rfl) (by kernel_rfl) (fun _ _ _ h => h) (Or.inl ⟨by rfl, ?y25a⟩) (by assumption) ?r25a
    case y25a => intro w0 hSw; (try dsimp only at hSw); go_simp; try with_reducible rfl
    try simp only [Act.put, List.setIfInBounds_toArray, List.set_cons_zero, List.set_cons_succ, List.getElem_toArray, List.getElem_cons_succ, List.getElem_cons_zero]
    refine wpAnyH_take (i := 26) (oi := _) (v := ?v26a) rfl (by kernel_rfl) (by kernel_rfl) (by kernel_rfl) (fun _ _ _ h => h) (Or.inl ⟨by rfl, ?y26a⟩) (by assumption) ?r26a
    case y26a => intro w0 hSw; (try dsimp only at hSw); go_simp; try with_reducible rfl
    try simp only [Act.put, List.setIfInBounds_toArray, List.set_cons_zero, List.set_cons_succ, List.getElem_toArray, List.getElem_cons_succ, List.getElem_cons_zero]
    refine wpAnyH_done (by kernel_rfl) ?_ _
    refine NoPanic.normal ?_
    go_wp2_with fail
    try simp only [Exit.inBlock, Exit.then]
    refine bodyPost_ret (v := .tuple #[.agg #[.int .i64 (bt s 1 : Nat), .int .i64 (wt s 4 : Nat), .bool (((bt s 6 : Nat) : Int) == 64), .int .i64 (bt s 8 : Nat), .int .i64 (bt s 9 : Nat), .bool false, .int .u64 0, .int .u64 (lowG s 12 : Nat), .bool false, .int .u64 0, .int .u64 (lowG s 16 : Nat), .string (s.extract 20 (sizeG s))], .string (s.extract (sizeG s) (wt s 2)), .int .i64 0]) (results_cell3 Try.results10 _ _ w.heap.size _ _ rfl HW2.drew Try.underlying26 info26 rfl rfl) rfl ⟨rfl, below_drewN HL2 1⟩
  · have u1 : (((bt s 6 : Nat) : Int) != 0) = true := by simp; omega
    have u2 : (((bt s 6 : Nat) : Int) != 64) = false := by have := bt_lt s 7; simp; omega
    clear h hc hr hf hw6 g1 h1 h2 h3
    go_wp2_with (first | (go_at_call 27; (with_reducible refine (sum_take5 s (sizeG s) hsz hs _).mono ?_); rintro e wb ⟨rfl, hb⟩; replace HL := HL.trans (hb.mono (Nat.le_of_lt HW.lt)); replace HW := HasB.below HW hb HW.lt; clear hro hb; have hro := HasB.rowOk HW (n := 12) rfl) | (go_at_call 28; (with_reducible refine (getR_at s 12 16 rfl (by omega) _).mono ?_); rintro e wc ⟨rfl, hb⟩; have la := Nat.lt_of_lt_of_le HW.lt hb.size; replace HL := (HL.trans (hb.mono (Nat.le_of_lt HW.lt))).alloc (Nat.le_trans (Nat.le_of_lt HW.lt) hb.size) (.cells #[.bool false, .int .u64 0, .int .u64 (lowG s 12 : Nat)] 24); replace HW := (HasB.below HW hb HW.lt).alloc (.cells #[.bool false, .int .u64 0, .int .u64 (lowG s 12 : Nat)] 24); have HA := HasB.new wc 24 #[.bool false, .int .u64 0, .int .u64 (lowG s 12 : Nat)]) | (go_at_call 28; (with_reducible refine (getR_at s 16 20 rfl (by omega) _).mono ?_); rintro e wd ⟨rfl, hb⟩; have lb := Nat.lt_of_lt_of_le HW.lt hb.size; replace HL := (HL.trans (hb.mono (Nat.le_of_lt HW.lt))).alloc (Nat.le_trans (Nat.le_of_lt HW.lt) hb.size) (.cells #[.bool false, .int .u64 0, .int .u64 (lowG s 16 : Nat)] 24); replace HW := (HasB.below HW hb HW.lt).alloc (.cells #[.bool false, .int .u64 0, .int .u64 (lowG s 16 : Nat)] 24); have HB := HasB.new wd 24 #[.bool false, .int .u64 0, .int .u64 (lowG s 16 : Nat)]) | fail)
    replace HA := (HasB.below HA hb HA.lt).alloc (.cells #[.bool false, .int .u64 0, .int .u64 (lowG s 16 : Nat)] 24)
    have HH := Lib.hid (And.intro HW (And.intro HA (And.intro HB HL)))
    clear HW HA HB HL hb hro
    revert HH
    generalize (World.alloc wd _) = X
    intro HH
    have a0 := HasB.cell HH.out.2.1 0 (.bool false) rfl
    have a1 := HasB.cell HH.out.2.1 1 (.int .u64 0) rfl
    have a2 := HasB.cell HH.out.2.1 2 (.int .u64 (lowG s 12 : Nat)) rfl
    have e0 := HasB.cell HH.out.2.2.1 0 (.bool false) rfl
    have e1 := HasB.cell HH.out.2.2.1 1 (.int .u64 0) rfl
    have e2 := HasB.cell HH.out.2.2.1 2 (.int .u64 (lowG s 16 : Nat)) rfl
    have HW := HH.out.1
    have d0 := HasB.cell HW 0 (.int .i64 0) rfl; have f0 := HasB.free HW 0; have d1 := HasB.cell HW 1 (.int .i64 0) rfl; have f1 := HasB.free HW 1; have d2 := HasB.cell HW 2 (.bool false) rfl; have f2 := HasB.free HW 2; have d3 := HasB.cell HW 3 (.int .i64 0) rfl; have f3 := HasB.free HW 3; have d4 := HasB.cell HW 4 (.int .i64 0) rfl; have f4 := HasB.free HW 4; have d5 := HasB.cell HW 5 (.bool false) rfl; have f5 := HasB.free HW 5; have d6 := HasB.cell HW 6 (.int .u64 0) rfl; have f6 := HasB.free HW 6; have d7 := HasB.cell HW 7 (.int .u64 0) rfl; have f7 := HasB.free HW 7; have d8 := HasB.cell HW 8 (.bool false) rfl; have f8 := HasB.free HW 8; have d9 := HasB.cell HW 9 (.int .u64 0) rfl; have f9 := HasB.free HW 9; have d10 := HasB.cell HW 10 (.int .u64 0) rfl; have f10 := HasB.free HW 10; have d11 := HasB.cell HW 11 (.string ⟨#[]⟩) rfl; have f11 := HasB.free HW 11
    clear HW
    have n1 : ¬ wc.heap.size = w.heap.size := by omega
    have n2 : ¬ wd.heap.size = w.heap.size := by omega
    have n3 : ¬ w.heap.size = wc.heap.size := by omega
    have n4 : ¬ w.heap.size = wd.heap.size := by omega
    clear la lb
    have j1 : 1 < s.size := by omega
    have j6 : 6 < s.size := by omega
    have j8 : 8 < s.size := by omega
    have j9 : 9 < s.size := by omega
    have t1 : IntKind.i64.wrap ((bt s 1 : Nat) : Int) = (bt s 1 : Nat) := IntWalk.i64_in _ (by omega)
    have t8 : IntKind.i64.wrap ((bt s 8 : Nat) : Int) = (bt s 8 : Nat) := IntWalk.i64_in _ (by omega)
    have t9 : IntKind.i64.wrap ((bt s 9 : Nat) : Int) = (bt s 9 : Nat) := IntWalk.i64_in _ (by omega)
    refine wp_region_noPanic ?_
    refine wp_region_held_drew (S := fun w' => w'.cell? ⟨wc.heap.size, 0, none⟩ = some (.bool false) ∧ w'.cell? ⟨wc.heap.size, 1, none⟩ = some (.int .u64 0) ∧ w'.cell? ⟨wc.heap.size, 2, none⟩ = some (.int .u64 (lowG s 12 : Nat)) ∧ w'.cell? ⟨wd.heap.size, 0, none⟩ = some (.bool false) ∧ w'.cell? ⟨wd.heap.size, 1, none⟩ = some (.int .u64 0) ∧ w'.cell? ⟨wd.heap.size, 2, none⟩ = some (.int .u64 (lowG s 16 : Nat))) (by kernel_rfl) ⟨a0, a1, a2, e0, e1, e2⟩ (fun hHeld => ?_)
    refine wpAnyH_take (i := 0) (oi := _) (v := ?v0b) rfl (by kernel_rfl) (by kernel_rfl) (by kernel_rfl) (fun _ _ _ h => h) (Or.inl ⟨by rfl, ?y0b⟩) (by assumption) ?r0b
    case y0b => intro w0 hSw; (try dsimp only at hSw); go_simp; try with_reducible rfl
    try simp only [Act.put, List.setIfInBounds_toArray, List.set_cons_zero, List.set_cons_succ, List.getElem_toArray, List.getElem_cons_zero]
    refine wpAnyH_take (i := 1) (oi := _) (v := ?v1b) rfl (by kernel_rfl) (by kernel_rfl) (by kernel_rfl) (fun _ _ _ h => h) (Or.inl ⟨by rfl, ?y1b⟩) (by assumption) ?r1b
    case y1b => intro w0 hSw; (try dsimp only at hSw); go_simp; try with_reducible rfl
    try simp only [Act.put, List.setIfInBounds_toArray, List.set_cons_zero, List.set_cons_succ, List.getElem_toArray, List.getElem_cons_succ, List.getElem_cons_zero]
    refine wpAnyH_take (i := 2) (oi := _) (v := ?v2b) rfl (by kernel_rfl) (by kernel_rfl) (by kernel_rfl) (fun _ _ _ h => h) (Or.inl ⟨by rfl, ?y2b⟩) (by assumption) ?r2b
    case y2b => intro w0 hSw; (try dsimp only at hSw); go_simp; try with_reducible rfl
    try simp only [Act.put, List.setIfInBounds_toArray, List.set_cons_zero, List.set_cons_succ, List.getElem_toArray, List.getElem_cons_succ, List.getElem_cons_zero]
    refine wpAnyH_take (i := 3) (oi := _) (v := ?v3b) rfl (by kernel_rfl) (by kernel_rfl) (by kernel_rfl) (fun _ _ _ h => h) (Or.inl ⟨by rfl, ?y3b⟩) (by assumption) ?r3b
    case y3b => intro w0 hSw; (try dsimp only at hSw); go_simp; try with_reducible rfl
    try simp only [Act.put, List.setIfInBounds_toArray, List.set_cons_zero, List.set_cons_succ, List.getElem_toArray, List.getElem_cons_succ, List.getElem_cons_zero]
    refine wpAnyH_take (i := 5) (oi := _) (v := ?v5b) rfl (by kernel_rfl) (by kernel_rfl) (by kernel_rfl) (fun _ _ _ h => h) (Or.inl ⟨by rfl, ?y5b⟩) (by assumption) ?r5b
    case y5b => intro w0 hSw; (try dsimp only at hSw); go_simp; try with_reducible rfl
    try simp only [Act.put, List.setIfInBounds_toArray, List.set_cons_zero, List.set_cons_succ, List.getElem_toArray, List.getElem_cons_succ, List.getElem_cons_zero]
    refine wpAnyH_take (i := 6) (oi := _) (v := ?v6b) rfl (by kernel_rfl) (by kernel_rfl) (by kernel_rfl) (fun _ _ _ h => h) (Or.inl ⟨by rfl, ?y6b⟩) (by assumption) ?r6b
    case y6b => intro w0 hSw; (try dsimp only at hSw); go_simp; try with_reducible rfl
    try simp only [Act.put, List.setIfInBounds_toArray, List.set_cons_zero, List.set_cons_succ, List.getElem_toArray, List.getElem_cons_succ, List.getElem_cons_zero]
    refine wpAnyH_take (i := 7) (oi := _) (v := ?v7b) rfl (by kernel_rfl) (by kernel_rfl) (by kernel_rfl) (fun _ _ _ h => h) (Or.inl ⟨by rfl, ?y7b⟩) (by assumption) ?r7b
    case y7b => intro w0 hSw; (try dsimp only at hSw); go_simp; try with_reducible rfl
    try simp only [Act.put, List.setIfInBounds_toArray, List.set_cons_zero, List.set_cons_succ, List.getElem_toArray, List.getElem_cons_succ, List.getElem_cons_zero]
    refine wpAnyH_take (i := 8) (oi := _) (v := ?v8b) rfl (by kernel_rfl) (by kernel_rfl) (by kernel_rfl) (fun _ _ _ h => h) (Or.inl ⟨by rfl, ?y8b⟩) (by assumption) ?r8b
    case y8b => intro w0 hSw; (try dsimp only at hSw); go_simp; try with_reducible rfl
    try simp only [Act.put, List.setIfInBounds_toArray, List.set_cons_zero, List.set_cons_succ, List.getElem_toArray, List.getElem_cons_succ, List.getElem_cons_zero]
    refine wpAnyH_take (i := 9) (oi := _) (v := ?v9b) rfl (by kernel_rfl) (by kernel_rfl) (by kernel_rfl) (fun _ _ _ h => h) (Or.inl ⟨by rfl, ?y9b⟩) (by assumption) ?r9b
    case y9b => intro w0 hSw; (try dsimp only at hSw); go_simp; try with_reducible rfl
    try simp only [Act.put, List.setIfInBounds_toArray, List.set_cons_zero, List.set_cons_succ, List.getElem_toArray, List.getElem_cons_succ, List.getElem_cons_zero]
    refine wpAnyH_take (i := 10) (oi := _) (v := ?v10b) rfl (by kernel_rfl) (by kernel_rfl) (by kernel_rfl) (fun _ _ _ h => h) (Or.inl ⟨by rfl, ?y10b⟩) (by assumption) ?r10b
    case y10b => intro w0 hSw; (try dsimp only at hSw); go_simp; try with_reducible rfl
    try simp only [Act.put, List.setIfInBounds_toArray, List.set_cons_zero, List.set_cons_succ, List.getElem_toArray, List.getElem_cons_succ, List.getElem_cons_zero]
    refine wpAnyH_take (i := 11) (oi := _) (v := ?v11b) rfl (by kernel_rfl) (by kernel_rfl) (by kernel_rfl) (fun _ _ _ h => h) (Or.inl ⟨by rfl, ?y11b⟩) (by assumption) ?r11b
    case y11b => intro w0 hSw; (try dsimp only at hSw); go_simp; try with_reducible rfl
    try simp only [Act.put, List.setIfInBounds_toArray, List.set_cons_zero, List.set_cons_succ, List.getElem_toArray, List.getElem_cons_succ, List.getElem_cons_zero]
    refine wpAnyH_take (i := 12) (oi := _) (v := ?v12b) rfl (by kernel_rfl) (by kernel_rfl) (by kernel_rfl) (fun _ _ _ h => h) (Or.inl ⟨by rfl, ?y12b⟩) (by assumption) ?r12b
    case y12b => intro w0 hSw; (try dsimp only at hSw); go_simp; try with_reducible rfl
    try simp only [Act.put, List.setIfInBounds_toArray, List.set_cons_zero, List.set_cons_succ, List.getElem_toArray, List.getElem_cons_succ, List.getElem_cons_zero]
    refine wpAnyH_take (i := 13) (oi := _) (v := ?v13b) rfl (by kernel_rfl) (by kernel_rfl) (by kernel_rfl) (fun _ _ _ h => h) (Or.inl ⟨by rfl, ?y13b⟩) (by assumption) ?r13b
    case y13b => intro w0 hSw; (try dsimp only at hSw); go_simp; try with_reducible rfl
    try simp only [Act.put, List.setIfInBounds_toArray, List.set_cons_zero, List.set_cons_succ, List.getElem_toArray, List.getElem_cons_succ, List.getElem_cons_zero]
    refine wpAnyH_take (i := 14) (oi := _) (v := ?v14b) rfl (by kernel_rfl) (by kernel_rfl) (by kernel_rfl) (fun _ _ _ h => h) (Or.inl ⟨by rfl, ?y14b⟩) (by assumption) ?r14b
    case y14b => intro w0 hSw; (try dsimp only at hSw); go_simp; try with_reducible rfl
    try simp only [Act.put, List.setIfInBounds_toArray, List.set_cons_zero, List.set_cons_succ, List.getElem_toArray, List.getElem_cons_succ, List.getElem_cons_zero]
    refine wpAnyH_take (i := 15) (oi := _) (v := ?v15b) rfl (by kernel_rfl) (by kernel_rfl) (by kernel_rfl) (fun _ _ _ h => h) (Or.inl ⟨by rfl, ?y15b⟩) (by assumption) ?r15b
    case y15b => intro w0 hSw; (try dsimp only at hSw); go_simp; try with_reducible rfl
    try simp only [Act.put, List.setIfInBounds_toArray, List.set_cons_zero, List.set_cons_succ, List.getElem_toArray, List.getElem_cons_succ, List.getElem_cons_zero]
    refine wpAnyH_take (i := 16) (oi := _) (v := ?v16b) rfl (by kernel_rfl) (by kernel_rfl) (by kernel_rfl) (fun _ _ _ h => h) (Or.inl ⟨by rfl, ?y16b⟩) (by assumption) ?r16b
    case y16b => intro w0 hSw; (try dsimp only at hSw); go_simp; try with_reducible rfl
    try simp only [Act.put, List.setIfInBounds_toArray, List.set_cons_zero, List.set_cons_succ, List.getElem_toArray, List.getElem_cons_succ, List.getElem_cons_zero]
    refine wpAnyH_take (i := 17) (oi := _) (v := ?v17b) rfl (by kernel_rfl) (by kernel_rfl) (by kernel_rfl) (fun _ _ _ h => h) (Or.inl ⟨by rfl, ?y17b⟩) (by assumption) ?r17b
    case y17b => intro w0 hSw; (try dsimp only at hSw); go_simp; try with_reducible rfl
    try simp only [Act.put, List.setIfInBounds_toArray, List.set_cons_zero, List.set_cons_succ, List.getElem_toArray, List.getElem_cons_succ, List.getElem_cons_zero]
    refine wpAnyH_take (i := 18) (oi := _) (v := ?v18b) rfl (by kernel_rfl) (by kernel_rfl) (by kernel_rfl) (fun _ _ _ h => h) (Or.inl ⟨by rfl, ?y18b⟩) (by assumption) ?r18b
    case y18b => intro w0 hSw; (try dsimp only at hSw); go_simp; try with_reducible rfl
    try simp only [Act.put, List.setIfInBounds_toArray, List.set_cons_zero, List.set_cons_succ, List.getElem_toArray, List.getElem_cons_succ, List.getElem_cons_zero]
    refine wpAnyH_take (i := 20) (oi := _) (v := ?v20b) rfl (by kernel_rfl) (by kernel_rfl) (by kernel_rfl) (fun _ _ _ h => h) (Or.inl ⟨by rfl, ?y20b⟩) (by assumption) ?r20b
    case y20b => intro w0 hSw; (try dsimp only at hSw); go_simp; try with_reducible rfl
    try simp only [Act.put, List.setIfInBounds_toArray, List.set_cons_zero, List.set_cons_succ, List.getElem_toArray, List.getElem_cons_succ, List.getElem_cons_zero]
    refine wpAnyH_take (i := 21) (oi := _) (v := ?v21b) rfl (by kernel_rfl) (by kernel_rfl) (by kernel_rfl) (fun _ _ _ h => h) (Or.inl ⟨by rfl, ?y21b⟩) (by assumption) ?r21b
    case y21b => intro w0 hSw; (try dsimp only at hSw); go_simp; try with_reducible rfl
    try simp only [Act.put, List.setIfInBounds_toArray, List.set_cons_zero, List.set_cons_succ, List.getElem_toArray, List.getElem_cons_succ, List.getElem_cons_zero]
    refine wpAnyH_take (i := 22) (oi := _) (v := ?v22b) rfl (by kernel_rfl) (by kernel_rfl) (by kernel_rfl) (fun _ _ _ h => h) (Or.inl ⟨by rfl, ?y22b⟩) (by assumption) ?r22b
    case y22b => intro w0 hSw; (try dsimp only at hSw); go_simp; try with_reducible rfl
    try simp only [Act.put, List.setIfInBounds_toArray, List.set_cons_zero, List.set_cons_succ, List.getElem_toArray, List.getElem_cons_succ, List.getElem_cons_zero]
    refine wpAnyH_take (i := 23) (oi := _) (v := ?v23b) rfl (by kernel_rfl) (by kernel_rfl) (by kernel_rfl) (fun _ _ _ h => h) (Or.inl ⟨by rfl, ?y23b⟩) (by assumption) ?r23b
    case y23b => intro w0 hSw; (try dsimp only at hSw); go_simp; try with_reducible rfl
    try simp only [Act.put, List.setIfInBounds_toArray, List.set_cons_zero, List.set_cons_succ, List.getElem_toArray, List.getElem_cons_succ, List.getElem_cons_zero]
    refine wpAnyH_ready (rs := [4]) (by kernel_rfl) (by simp) ?_
    refine AllReadyH.cons (o := _) rfl (fun K hK => ?_) AllReadyH.nil
    go_simp
    (with_reducible refine (HM4.out _).mono ?_)
    rintro e wz ⟨rfl, rfl⟩
    go_wp2_with fail
    refine hK.out _ _ ⟨a0, a1, a2, e0, e1, e2⟩ (fun hHeld => ?_)
    clear hK K
    try simp only [Act.put, List.setIfInBounds_toArray, List.set_cons_zero, List.set_cons_succ, List.getElem_toArray, List.getElem_cons_succ, List.getElem_cons_zero]
    refine wpAnyH_take (i := 19) (oi := _) (v := ?v19b) rfl (by kernel_rfl) (by kernel_rfl) (by kernel_rfl) (fun _ _ _ h => h) (Or.inl ⟨by rfl, ?y19b⟩) (by assumption) ?r19b
    case y19b => intro w0 hSw; (try dsimp only at hSw); go_simp; try with_reducible rfl
    try simp only [Act.put, List.setIfInBounds_toArray, List.set_cons_zero, List.set_cons_succ, List.getElem_toArray, List.getElem_cons_succ, List.getElem_cons_zero]
    refine wpAnyH_ready (rs := [24]) (by kernel_rfl) (by simp) ?_
    refine AllReadyH.cons (o := _) rfl (fun K hK => ?_) AllReadyH.nil
    go_simp
    have hk := putAll_kept (S := fun k => k = w.heap.size) (a := X) (g := w.heap.size) (.inr rfl) [.int .i64 (bt s 1 : Nat), .int .i64 (wt s 4 : Nat), .bool (((bt s 6 : Nat) : Int) == 64), .int .i64 (bt s 8 : Nat), .int .i64 (bt s 9 : Nat), .bool false, .int .u64 0, .int .u64 (lowG s 12 : Nat), .bool false, .int .u64 0, .int .u64 (lowG s 16 : Nat), .string (s.extract 20 (sizeG s))] 0 X (Kept.refl _ X)
    have HW2 := putAll_hasB HH.out.1 [.int .i64 (bt s 1 : Nat), .int .i64 (wt s 4 : Nat), .bool (((bt s 6 : Nat) : Int) == 64), .int .i64 (bt s 8 : Nat), .int .i64 (bt s 9 : Nat), .bool false, .int .u64 0, .int .u64 (lowG s 12 : Nat), .bool false, .int .u64 0, .int .u64 (lowG s 16 : Nat), .string (s.extract 20 (sizeG s))] rfl
    have HL2 := putAll_below (Nat.le_refl _) [.int .i64 (bt s 1 : Nat), .int .i64 (wt s 4 : Nat), .bool (((bt s 6 : Nat) : Int) == 64), .int .i64 (bt s 8 : Nat), .int .i64 (bt s 9 : Nat), .bool false, .int .u64 0, .int .u64 (lowG s 12 : Nat), .bool false, .int .u64 0, .int .u64 (lowG s 16 : Nat), .string (s.extract 20 (sizeG s))] 0 _ HH.out.2.2.2
    simp only [putAll, Nat.zero_add, Nat.reduceAdd] at hk HW2 HL2
    revert hk HW2 HL2
    generalize World.setCell _ (⟨w.heap.size, 11, none⟩ : Addr) _ = Y
    intro hk HW2 HL2
    have lc := HH.out.2.1.lt
    have ld := HH.out.2.2.1.lt
    refine hK.out _ _ ⟨(hk.cell ⟨wc.heap.size, 0, none⟩ lc n1).trans a0, (hk.cell ⟨wc.heap.size, 1, none⟩ lc n1).trans a1, (hk.cell ⟨wc.heap.size, 2, none⟩ lc n1).trans a2, (hk.cell ⟨wd.heap.size, 0, none⟩ ld n2).trans e0, (hk.cell ⟨wd.heap.size, 1, none⟩ ld n2).trans e1, (hk.cell ⟨wd.heap.size, 2, none⟩ ld n2).trans e2⟩ (fun hHeld => ?_)
    clear hK K hk
    try simp only [Act.put, List.setIfInBounds_toArray, List.set_cons_zero, List.set_cons_succ, List.getElem_toArray, List.getElem_cons_succ, List.getElem_cons_zero]
    refine wpAnyH_take (i := 25) (oi := _) (v := ?v25b) rfl (by kernel_rfl) (by kernel_rfl) (by kernel_rfl) (fun _ _ _ h => h) (Or.inl ⟨by rfl, ?y25b⟩) (by assumption) ?r25b
    case y25b => intro w0 hSw; (try dsimp only at hSw); go_simp; try with_reducible rfl
    try simp only [Act.put, List.setIfInBounds_toArray, List.set_cons_zero, List.set_cons_succ, List.getElem_toArray, List.getElem_cons_succ, List.getElem_cons_zero]
    refine wpAnyH_take (i := 26) (oi := _) (v := ?v26b) rfl (by kernel_rfl) (by kernel_rfl) (by kernel_rfl) (fun _ _ _ h => h) (Or.inl ⟨by rfl, ?y26b⟩) (by assumption) ?r26b
    case y26b => intro w0 hSw; (try dsimp only at hSw); go_simp; try with_reducible rfl
    try simp only [Act.put, List.setIfInBounds_toArray, List.set_cons_zero, List.set_cons_succ, List.getElem_toArray, List.getElem_cons_succ, List.getElem_cons_zero]
    refine wpAnyH_done (by kernel_rfl) ?_ _
    refine NoPanic.normal ?_
    go_wp2_with fail
    try simp only [Exit.inBlock, Exit.then]
    refine bodyPost_ret (v := .tuple #[.agg #[.int .i64 (bt s 1 : Nat), .int .i64 (wt s 4 : Nat), .bool (((bt s 6 : Nat) : Int) == 64), .int .i64 (bt s 8 : Nat), .int .i64 (bt s 9 : Nat), .bool false, .int .u64 0, .int .u64 (lowG s 12 : Nat), .bool false, .int .u64 0, .int .u64 (lowG s 16 : Nat), .string (s.extract 20 (sizeG s))], .string (s.extract (sizeG s) (wt s 2)), .int .i64 0]) (results_cell3 Try.results10 _ _ w.heap.size _ _ rfl HW2.drew Try.underlying26 info26 rfl rfl) rfl ⟨rfl, below_drewN HL2 1⟩
theorem get5_any (s : ByteArray) (hs : s.size ≤ 1099511627776) (w : World) :
    Calls Try.prog 10 #[.string s] w fun e w' => e = .returned (.tuple #[.agg #[.int .i64 (headG s).cl, .int .i64 (headG s).id, .bool (headG s).wh, .int .i64 (headG s).tt, .int .i64 (headG s).pr, .bool (headG s).sv, .int .u64 (headG s).sh, .int .u64 (headG s).sl, .bool (headG s).dv, .int .u64 (headG s).dh, .int .u64 (headG s).dl, .string (headG s).op], .string (payG s), .int .i64 (errG s)]) ∧ Below w.heap.size w w' := by
  by_cases h1 : s.size < 20
  · exact get5_short s hs w h1
  · by_cases h2 : bt s 0 / 16 = 4 ∧ 20 ≤ sizeG s ∧ sizeG s ≤ wt s 2
    · by_cases h3 : s.size < wt s 2
      · exact get5_cut s hs w (by omega) h2 h3
      · by_cases h4 : sumL (s.data.toList.take (sizeG s)) = 65535
        · by_cases h5 : wt s 6 ≠ 0 ∧ wt s 6 ≠ 16384
          · exact get5_frag s hs w (by omega) h2 (by omega) h4 h5
          · exact get5_ok s hs w (errG_is (by omega) h2.1 h2.2.1 h2.2.2 (by omega) h4 (by omega))
        · exact get5_sum s hs w (by omega) h2 (by omega) h4
    · exact get5_form s hs w (by omega) h2
end Go.Proofs.Ytdcmjmgpcpeacaa.R05
