/- The contract of package ipfour: Get. -/
import Derived.Test.YtdcmjmgpcpeacaaFourGet
import Derived.Test.YtdcmjmgpcpeacaaFourBack
import Derived.Test.YtdcmjmgpcpeacaaCheckTurned
namespace Go.Proofs.Ytdcmjmgpcpeacaa
open Go.RowKit
set_option linter.unusedVariables false
attribute [local go_sem ↓] ld53 st53 ld31 st31 ld26 st26
attribute [local go_sem] rowAt_p rowOkAt_p setAt_p aggOf_a rowOk_new rowOf_new setRow_new agg17 agg12

theorem andn14 (x : Nat) (h : x < 65536) : (bits .andNot .i64 (x : Int) 16384 != 0) = decide (x ≠ 0 ∧ x ≠ 16384) := by
  have hM : ∀ i, Nat.testBit 18446744073709535231 i = (decide (i < 64) && !decide (14 = i)) := fun i => by
    have := Nat.testBit_two_pow_sub_succ (n := 64) (x := 16384) (by decide) i
    rw [show (16384 : Nat) = 2 ^ 14 from rfl, Nat.testBit_two_pow] at this
    exact this
  have e : bits .andNot .i64 (x : Int) 16384 = ((x &&& 18446744073709535231 : Nat) : Int) := by
    show IntKind.i64.wrap ((BitVec.ofInt 64 (x : Int) &&& ~~~BitVec.ofInt 64 ((16384 : Nat) : Int)).toNat : Int) = _
    have hx : x &&& 18446744073709535231 ≤ x := Nat.and_le_left
    rw [BitVec.toNat_and, BitVec.toNat_not, BitVec.ofInt_natCast, BitVec.ofInt_natCast, BitVec.toNat_ofNat, BitVec.toNat_ofNat, Nat.mod_eq_of_lt (a := x) (by omega)]
    show IntKind.i64.wrap ((x &&& 18446744073709535231 : Nat) : Int) = _
    rw [IntKind.wrap_i64]; omega
  rw [e]
  by_cases hx : x ≠ 0 ∧ x ≠ 16384
  · rw [decide_eq_true hx]
    have : x &&& 18446744073709535231 ≠ 0 := fun h0 => by
      have key : x = x &&& 16384 := by
        apply Nat.eq_of_testBit_eq
        intro i
        rw [Nat.testBit_and, show (16384 : Nat) = 2 ^ 14 from rfl, Nat.testBit_two_pow]
        by_cases hi : 14 = i
        · simp [hi]
        · rw [decide_eq_false hi, Bool.and_false]
          have h1 : (x &&& 18446744073709535231).testBit i = false := by rw [h0]; exact Nat.zero_testBit i
          rw [Nat.testBit_and, hM, decide_eq_false hi, Bool.not_false, Bool.and_true] at h1
          by_cases h64 : i < 64
          · rw [decide_eq_true h64, Bool.and_true] at h1; exact h1
          · exact Nat.testBit_lt_two_pow (Nat.lt_of_lt_of_le h (Nat.pow_le_pow_right (n := 2) (i := 16) (j := i) (by omega) (by omega)))
      have h2 := and14 x h
      have h3 := (bits_nat .i64 62 (by decide) (fun n h0 h1 => by rw [IntKind.wrap_i64]; omega) x 16384 (by omega) (by decide)).1
      have h4 : ((x &&& 16384 : Nat) : Int) = if x / 16384 % 2 = 1 then 16384 else 0 := h3.symm.trans h2
      rw [← key] at h4
      split at h4 <;> omega
    simp; omega
  · rw [decide_eq_false hx]
    have : x = 0 ∨ x = 16384 := by omega
    rcases this with rfl | rfl <;> rfl
theorem headG_no {s : ByteArray} {e : Int} (h : errG s = e) (he : e ≠ 0) : headG s = zeroH ∧ payG s = ⟨#[]⟩ := by
  unfold headG payG; rw [if_neg (by omega), if_neg (by omega)]; exact ⟨rfl, rfl⟩
theorem get4_short (s : ByteArray) (hs : s.size ≤ 1099511627776) (w : World) (h : s.size < 20) :
    Calls Try.prog 9 #[.string s] w fun e w' => e = .returned (.tuple #[.agg #[.int .i64 (headG s).cl, .int .i64 (headG s).id, .bool (headG s).wh, .int .i64 (headG s).tt, .int .i64 (headG s).pr, .bool (headG s).sv, .int .u64 (headG s).sh, .int .u64 (headG s).sl, .bool (headG s).dv, .int .u64 (headG s).dh, .int .u64 (headG s).dl, .string (headG s).op], .string (payG s), .int .i64 (errG s)]) ∧ Below w.heap.size w w' := by
  have he : errG s = 2 := by unfold errG; rw [if_pos h]
  obtain ⟨hh, hp⟩ := headG_no he (by omega)
  rw [hh, hp, he]
  show Calls _ _ _ _ fun e w' => e = .returned (.tuple #[.agg #[.int .i64 0, .int .i64 0, .bool false, .int .i64 0, .int .i64 0, .bool false, .int .u64 0, .int .u64 0, .bool false, .int .u64 0, .int .u64 0, .string ⟨#[]⟩], .string ⟨#[]⟩, .int .i64 2]) ∧ Below w.heap.size w w'
  have h20 : (s.size : Int) < 20 := by omega
  have HW := HasB.new w 31 #[.int .i64 0, .int .i64 0, .bool false, .int .i64 0, .int .i64 0, .bool false, .int .u64 0, .int .u64 0, .bool false, .int .u64 0, .int .u64 0, .string ⟨#[]⟩]
  have HL : Below w.heap.size w (w.alloc (.cells #[.int .i64 0, .int .i64 0, .bool false, .int .i64 0, .int .i64 0, .bool false, .int .u64 0, .int .u64 0, .bool false, .int .u64 0, .int .u64 0, .string ⟨#[]⟩] 31)) := (Below.refl _ _).alloc (Nat.le_refl _) _
  clear he hh hp
  go_enter Try.func9, Try.ntmps9
  go_wp2_with fail
  try simp only [Exit.inBlock, Exit.then]
  refine bodyPost_ret (v := .tuple #[.agg #[.int .i64 0, .int .i64 0, .bool false, .int .i64 0, .int .i64 0, .bool false, .int .u64 0, .int .u64 0, .bool false, .int .u64 0, .int .u64 0, .string ⟨#[]⟩], .string ⟨#[]⟩, .int .i64 2]) (results_cell3 Try.results9 _ _ w.heap.size _ _ rfl HW Try.underlying31 info31 rfl rfl) rfl ⟨rfl, HL⟩
theorem get4_form (s : ByteArray) (hs : s.size ≤ 1099511627776) (w : World) (h20 : 20 ≤ s.size) (h : ¬ (bt s 0 / 16 = 4 ∧ 20 ≤ sizeG s ∧ sizeG s ≤ wt s 2)) :
    Calls Try.prog 9 #[.string s] w fun e w' => e = .returned (.tuple #[.agg #[.int .i64 (headG s).cl, .int .i64 (headG s).id, .bool (headG s).wh, .int .i64 (headG s).tt, .int .i64 (headG s).pr, .bool (headG s).sv, .int .u64 (headG s).sh, .int .u64 (headG s).sl, .bool (headG s).dv, .int .u64 (headG s).dh, .int .u64 (headG s).dl, .string (headG s).op], .string (payG s), .int .i64 (errG s)]) ∧ Below w.heap.size w w' := by
  have he : errG s = 3 := by unfold errG; rw [if_neg (by omega), if_pos h]
  obtain ⟨hh, hp⟩ := headG_no he (by omega)
  rw [hh, hp, he]
  show Calls _ _ _ _ fun e' w' => e' = .returned (.tuple #[.agg #[.int .i64 0, .int .i64 0, .bool false, .int .i64 0, .int .i64 0, .bool false, .int .u64 0, .int .u64 0, .bool false, .int .u64 0, .int .u64 0, .string ⟨#[]⟩], .string ⟨#[]⟩, .int .i64 3]) ∧ Below w.heap.size w w'
  have HW := HasB.new w 31 #[.int .i64 0, .int .i64 0, .bool false, .int .i64 0, .int .i64 0, .bool false, .int .u64 0, .int .u64 0, .bool false, .int .u64 0, .int .u64 0, .string ⟨#[]⟩]
  have HL : Below w.heap.size w (w.alloc (.cells #[.int .i64 0, .int .i64 0, .bool false, .int .i64 0, .int .i64 0, .bool false, .int .u64 0, .int .u64 0, .bool false, .int .u64 0, .int .u64 0, .string ⟨#[]⟩] 31)) := (Below.refl _ _).alloc (Nat.le_refl _) _
  have hm : s.size ≤ maxLen := by unfold maxLen; omega
  clear he hh hp
  by_cases h1 : bt s 0 / 16 = 4
  · have v1 : (((bt s 0 : Nat) : Int) / 16 != 4) = false := by simp; omega
    by_cases h2 : 20 ≤ sizeG s
    · have v2 : ¬ ((sizeG s : Nat) : Int) < 20 := by omega
      have v3 : ((wt s 2 : Nat) : Int) < (sizeG s : Nat) := by omega
      clear h h1 h2
      go_enter Try.func9, Try.ntmps9
      go_wp2_with (first | (go_at_call 24; (with_reducible refine (read4_any s hm h20 _).mono ?_); rintro e wa ⟨rfl, hb⟩; replace HL := (HL.trans (hb.mono (by simp))).alloc (Nat.le_trans (Nat.le_of_lt HW.lt) hb.size) (.cells #[.pointer (some ⟨(w.alloc (.cells #[.int .i64 0, .int .i64 0, .bool false, .int .i64 0, .int .i64 0, .bool false, .int .u64 0, .int .u64 0, .bool false, .int .u64 0, .int .u64 0, .string ⟨#[]⟩] 31)).heap.size + 1 + 1, 0, none⟩), .int .i64 (((bt s 0 : Nat) : Int) / 16), .int .i64 ((sizeG s : Nat)), .int .i64 ((wt s 2 : Nat)), .int .i64 ((wt s 6 : Nat)), .int .i64 ((bt s 1 : Nat)), .int .i64 ((wt s 4 : Nat)), .bool (decide (wt s 6 / 16384 % 2 = 1)), .int .i64 ((bt s 8 : Nat)), .int .i64 ((bt s 9 : Nat)), .bool (false), .int .u64 (0), .int .u64 ((lowG s 12 : Nat)), .bool (false), .int .u64 (0), .int .u64 ((lowG s 16 : Nat)), .string (opG s)] 53); replace HW := (HasB.below HW hb HW.lt).alloc (.cells #[.pointer (some ⟨(w.alloc (.cells #[.int .i64 0, .int .i64 0, .bool false, .int .i64 0, .int .i64 0, .bool false, .int .u64 0, .int .u64 0, .bool false, .int .u64 0, .int .u64 0, .string ⟨#[]⟩] 31)).heap.size + 1 + 1, 0, none⟩), .int .i64 (((bt s 0 : Nat) : Int) / 16), .int .i64 ((sizeG s : Nat)), .int .i64 ((wt s 2 : Nat)), .int .i64 ((wt s 6 : Nat)), .int .i64 ((bt s 1 : Nat)), .int .i64 ((wt s 4 : Nat)), .bool (decide (wt s 6 / 16384 % 2 = 1)), .int .i64 ((bt s 8 : Nat)), .int .i64 ((bt s 9 : Nat)), .bool (false), .int .u64 (0), .int .u64 ((lowG s 12 : Nat)), .bool (false), .int .u64 (0), .int .u64 ((lowG s 16 : Nat)), .string (opG s)] 53); rw [World.size_alloc] at HW HL; have hro := HasB.rowOk HW (n := 12) rfl; have HF := HasB.new wa 53 #[.pointer (some ⟨w.heap.size + 1 + 1 + 1, 0, none⟩), .int .i64 (((bt s 0 : Nat) : Int) / 16), .int .i64 ((sizeG s : Nat)), .int .i64 ((wt s 2 : Nat)), .int .i64 ((wt s 6 : Nat)), .int .i64 ((bt s 1 : Nat)), .int .i64 ((wt s 4 : Nat)), .bool (decide (wt s 6 / 16384 % 2 = 1)), .int .i64 ((bt s 8 : Nat)), .int .i64 ((bt s 9 : Nat)), .bool (false), .int .u64 (0), .int .u64 ((lowG s 12 : Nat)), .bool (false), .int .u64 (0), .int .u64 ((lowG s 16 : Nat)), .string (opG s)]) | fail)
      (try simp only [Exit.inBlock, Exit.then]); refine bodyPost_ret (v := .tuple #[.agg #[.int .i64 0, .int .i64 0, .bool false, .int .i64 0, .int .i64 0, .bool false, .int .u64 0, .int .u64 0, .bool false, .int .u64 0, .int .u64 0, .string ⟨#[]⟩], .string ⟨#[]⟩, .int .i64 3]) (results_cell3 Try.results9 _ _ w.heap.size _ _ rfl (HasB.setRow HW #[.int .i64 0, .int .i64 0, .bool false, .int .i64 0, .int .i64 0, .bool false, .int .u64 0, .int .u64 0, .bool false, .int .u64 0, .int .u64 0, .string ⟨#[]⟩]) Try.underlying31 info31 rfl rfl) rfl ⟨rfl, below_setRow HL (Nat.le_refl _) #[.int .i64 0, .int .i64 0, .bool false, .int .i64 0, .int .i64 0, .bool false, .int .u64 0, .int .u64 0, .bool false, .int .u64 0, .int .u64 0, .string ⟨#[]⟩]⟩
    · have v2 : ((sizeG s : Nat) : Int) < 20 := by omega
      clear h h1 h2
      go_enter Try.func9, Try.ntmps9
      go_wp2_with (first | (go_at_call 24; (with_reducible refine (read4_any s hm h20 _).mono ?_); rintro e wa ⟨rfl, hb⟩; replace HL := (HL.trans (hb.mono (by simp))).alloc (Nat.le_trans (Nat.le_of_lt HW.lt) hb.size) (.cells #[.pointer (some ⟨(w.alloc (.cells #[.int .i64 0, .int .i64 0, .bool false, .int .i64 0, .int .i64 0, .bool false, .int .u64 0, .int .u64 0, .bool false, .int .u64 0, .int .u64 0, .string ⟨#[]⟩] 31)).heap.size + 1 + 1, 0, none⟩), .int .i64 (((bt s 0 : Nat) : Int) / 16), .int .i64 ((sizeG s : Nat)), .int .i64 ((wt s 2 : Nat)), .int .i64 ((wt s 6 : Nat)), .int .i64 ((bt s 1 : Nat)), .int .i64 ((wt s 4 : Nat)), .bool (decide (wt s 6 / 16384 % 2 = 1)), .int .i64 ((bt s 8 : Nat)), .int .i64 ((bt s 9 : Nat)), .bool (false), .int .u64 (0), .int .u64 ((lowG s 12 : Nat)), .bool (false), .int .u64 (0), .int .u64 ((lowG s 16 : Nat)), .string (opG s)] 53); replace HW := (HasB.below HW hb HW.lt).alloc (.cells #[.pointer (some ⟨(w.alloc (.cells #[.int .i64 0, .int .i64 0, .bool false, .int .i64 0, .int .i64 0, .bool false, .int .u64 0, .int .u64 0, .bool false, .int .u64 0, .int .u64 0, .string ⟨#[]⟩] 31)).heap.size + 1 + 1, 0, none⟩), .int .i64 (((bt s 0 : Nat) : Int) / 16), .int .i64 ((sizeG s : Nat)), .int .i64 ((wt s 2 : Nat)), .int .i64 ((wt s 6 : Nat)), .int .i64 ((bt s 1 : Nat)), .int .i64 ((wt s 4 : Nat)), .bool (decide (wt s 6 / 16384 % 2 = 1)), .int .i64 ((bt s 8 : Nat)), .int .i64 ((bt s 9 : Nat)), .bool (false), .int .u64 (0), .int .u64 ((lowG s 12 : Nat)), .bool (false), .int .u64 (0), .int .u64 ((lowG s 16 : Nat)), .string (opG s)] 53); rw [World.size_alloc] at HW HL; have hro := HasB.rowOk HW (n := 12) rfl; have HF := HasB.new wa 53 #[.pointer (some ⟨w.heap.size + 1 + 1 + 1, 0, none⟩), .int .i64 (((bt s 0 : Nat) : Int) / 16), .int .i64 ((sizeG s : Nat)), .int .i64 ((wt s 2 : Nat)), .int .i64 ((wt s 6 : Nat)), .int .i64 ((bt s 1 : Nat)), .int .i64 ((wt s 4 : Nat)), .bool (decide (wt s 6 / 16384 % 2 = 1)), .int .i64 ((bt s 8 : Nat)), .int .i64 ((bt s 9 : Nat)), .bool (false), .int .u64 (0), .int .u64 ((lowG s 12 : Nat)), .bool (false), .int .u64 (0), .int .u64 ((lowG s 16 : Nat)), .string (opG s)]) | fail)
      (try simp only [Exit.inBlock, Exit.then]); refine bodyPost_ret (v := .tuple #[.agg #[.int .i64 0, .int .i64 0, .bool false, .int .i64 0, .int .i64 0, .bool false, .int .u64 0, .int .u64 0, .bool false, .int .u64 0, .int .u64 0, .string ⟨#[]⟩], .string ⟨#[]⟩, .int .i64 3]) (results_cell3 Try.results9 _ _ w.heap.size _ _ rfl (HasB.setRow HW #[.int .i64 0, .int .i64 0, .bool false, .int .i64 0, .int .i64 0, .bool false, .int .u64 0, .int .u64 0, .bool false, .int .u64 0, .int .u64 0, .string ⟨#[]⟩]) Try.underlying31 info31 rfl rfl) rfl ⟨rfl, below_setRow HL (Nat.le_refl _) #[.int .i64 0, .int .i64 0, .bool false, .int .i64 0, .int .i64 0, .bool false, .int .u64 0, .int .u64 0, .bool false, .int .u64 0, .int .u64 0, .string ⟨#[]⟩]⟩
  · have v1 : (((bt s 0 : Nat) : Int) / 16 != 4) = true := by simp; omega
    clear h h1
    go_enter Try.func9, Try.ntmps9
    go_wp2_with (first | (go_at_call 24; (with_reducible refine (read4_any s hm h20 _).mono ?_); rintro e wa ⟨rfl, hb⟩; replace HL := (HL.trans (hb.mono (by simp))).alloc (Nat.le_trans (Nat.le_of_lt HW.lt) hb.size) (.cells #[.pointer (some ⟨(w.alloc (.cells #[.int .i64 0, .int .i64 0, .bool false, .int .i64 0, .int .i64 0, .bool false, .int .u64 0, .int .u64 0, .bool false, .int .u64 0, .int .u64 0, .string ⟨#[]⟩] 31)).heap.size + 1 + 1, 0, none⟩), .int .i64 (((bt s 0 : Nat) : Int) / 16), .int .i64 ((sizeG s : Nat)), .int .i64 ((wt s 2 : Nat)), .int .i64 ((wt s 6 : Nat)), .int .i64 ((bt s 1 : Nat)), .int .i64 ((wt s 4 : Nat)), .bool (decide (wt s 6 / 16384 % 2 = 1)), .int .i64 ((bt s 8 : Nat)), .int .i64 ((bt s 9 : Nat)), .bool (false), .int .u64 (0), .int .u64 ((lowG s 12 : Nat)), .bool (false), .int .u64 (0), .int .u64 ((lowG s 16 : Nat)), .string (opG s)] 53); replace HW := (HasB.below HW hb HW.lt).alloc (.cells #[.pointer (some ⟨(w.alloc (.cells #[.int .i64 0, .int .i64 0, .bool false, .int .i64 0, .int .i64 0, .bool false, .int .u64 0, .int .u64 0, .bool false, .int .u64 0, .int .u64 0, .string ⟨#[]⟩] 31)).heap.size + 1 + 1, 0, none⟩), .int .i64 (((bt s 0 : Nat) : Int) / 16), .int .i64 ((sizeG s : Nat)), .int .i64 ((wt s 2 : Nat)), .int .i64 ((wt s 6 : Nat)), .int .i64 ((bt s 1 : Nat)), .int .i64 ((wt s 4 : Nat)), .bool (decide (wt s 6 / 16384 % 2 = 1)), .int .i64 ((bt s 8 : Nat)), .int .i64 ((bt s 9 : Nat)), .bool (false), .int .u64 (0), .int .u64 ((lowG s 12 : Nat)), .bool (false), .int .u64 (0), .int .u64 ((lowG s 16 : Nat)), .string (opG s)] 53); rw [World.size_alloc] at HW HL; have hro := HasB.rowOk HW (n := 12) rfl; have HF := HasB.new wa 53 #[.pointer (some ⟨w.heap.size + 1 + 1 + 1, 0, none⟩), .int .i64 (((bt s 0 : Nat) : Int) / 16), .int .i64 ((sizeG s : Nat)), .int .i64 ((wt s 2 : Nat)), .int .i64 ((wt s 6 : Nat)), .int .i64 ((bt s 1 : Nat)), .int .i64 ((wt s 4 : Nat)), .bool (decide (wt s 6 / 16384 % 2 = 1)), .int .i64 ((bt s 8 : Nat)), .int .i64 ((bt s 9 : Nat)), .bool (false), .int .u64 (0), .int .u64 ((lowG s 12 : Nat)), .bool (false), .int .u64 (0), .int .u64 ((lowG s 16 : Nat)), .string (opG s)]) | fail)
    (try simp only [Exit.inBlock, Exit.then]); refine bodyPost_ret (v := .tuple #[.agg #[.int .i64 0, .int .i64 0, .bool false, .int .i64 0, .int .i64 0, .bool false, .int .u64 0, .int .u64 0, .bool false, .int .u64 0, .int .u64 0, .string ⟨#[]⟩], .string ⟨#[]⟩, .int .i64 3]) (results_cell3 Try.results9 _ _ w.heap.size _ _ rfl (HasB.setRow HW #[.int .i64 0, .int .i64 0, .bool false, .int .i64 0, .int .i64 0, .bool false, .int .u64 0, .int .u64 0, .bool false, .int .u64 0, .int .u64 0, .string ⟨#[]⟩]) Try.underlying31 info31 rfl rfl) rfl ⟨rfl, below_setRow HL (Nat.le_refl _) #[.int .i64 0, .int .i64 0, .bool false, .int .i64 0, .int .i64 0, .bool false, .int .u64 0, .int .u64 0, .bool false, .int .u64 0, .int .u64 0, .string ⟨#[]⟩]⟩
theorem get4_cut (s : ByteArray) (hs : s.size ≤ 1099511627776) (w : World) (h20 : 20 ≤ s.size) (h : bt s 0 / 16 = 4 ∧ 20 ≤ sizeG s ∧ sizeG s ≤ wt s 2) (hc : s.size < wt s 2) :
    Calls Try.prog 9 #[.string s] w fun e w' => e = .returned (.tuple #[.agg #[.int .i64 (headG s).cl, .int .i64 (headG s).id, .bool (headG s).wh, .int .i64 (headG s).tt, .int .i64 (headG s).pr, .bool (headG s).sv, .int .u64 (headG s).sh, .int .u64 (headG s).sl, .bool (headG s).dv, .int .u64 (headG s).dh, .int .u64 (headG s).dl, .string (headG s).op], .string (payG s), .int .i64 (errG s)]) ∧ Below w.heap.size w w' := by
  have he : errG s = 2 := by unfold errG; rw [if_neg (by omega), if_neg (by omega), if_pos hc]
  obtain ⟨hh, hp⟩ := headG_no he (by omega)
  rw [hh, hp, he]
  show Calls _ _ _ _ fun e' w' => e' = .returned (.tuple #[.agg #[.int .i64 0, .int .i64 0, .bool false, .int .i64 0, .int .i64 0, .bool false, .int .u64 0, .int .u64 0, .bool false, .int .u64 0, .int .u64 0, .string ⟨#[]⟩], .string ⟨#[]⟩, .int .i64 2]) ∧ Below w.heap.size w w'
  have HW := HasB.new w 31 #[.int .i64 0, .int .i64 0, .bool false, .int .i64 0, .int .i64 0, .bool false, .int .u64 0, .int .u64 0, .bool false, .int .u64 0, .int .u64 0, .string ⟨#[]⟩]
  have HL : Below w.heap.size w (w.alloc (.cells #[.int .i64 0, .int .i64 0, .bool false, .int .i64 0, .int .i64 0, .bool false, .int .u64 0, .int .u64 0, .bool false, .int .u64 0, .int .u64 0, .string ⟨#[]⟩] 31)) := (Below.refl _ _).alloc (Nat.le_refl _) _
  have hm : s.size ≤ maxLen := by unfold maxLen; omega
  clear he hh hp
  have v1 : (((bt s 0 : Nat) : Int) / 16 != 4) = false := by simp; omega
  have v2 : ¬ ((sizeG s : Nat) : Int) < 20 := by omega
  have v3 : ¬ ((wt s 2 : Nat) : Int) < (sizeG s : Nat) := by omega
  have v4 : (s.size : Int) < (wt s 2 : Nat) := by omega
  clear h hc
  go_enter Try.func9, Try.ntmps9
  go_wp2_with (first | (go_at_call 24; (with_reducible refine (read4_any s hm h20 _).mono ?_); rintro e wa ⟨rfl, hb⟩; replace HL := (HL.trans (hb.mono (by simp))).alloc (Nat.le_trans (Nat.le_of_lt HW.lt) hb.size) (.cells #[.pointer (some ⟨(w.alloc (.cells #[.int .i64 0, .int .i64 0, .bool false, .int .i64 0, .int .i64 0, .bool false, .int .u64 0, .int .u64 0, .bool false, .int .u64 0, .int .u64 0, .string ⟨#[]⟩] 31)).heap.size + 1 + 1, 0, none⟩), .int .i64 (((bt s 0 : Nat) : Int) / 16), .int .i64 ((sizeG s : Nat)), .int .i64 ((wt s 2 : Nat)), .int .i64 ((wt s 6 : Nat)), .int .i64 ((bt s 1 : Nat)), .int .i64 ((wt s 4 : Nat)), .bool (decide (wt s 6 / 16384 % 2 = 1)), .int .i64 ((bt s 8 : Nat)), .int .i64 ((bt s 9 : Nat)), .bool (false), .int .u64 (0), .int .u64 ((lowG s 12 : Nat)), .bool (false), .int .u64 (0), .int .u64 ((lowG s 16 : Nat)), .string (opG s)] 53); replace HW := (HasB.below HW hb HW.lt).alloc (.cells #[.pointer (some ⟨(w.alloc (.cells #[.int .i64 0, .int .i64 0, .bool false, .int .i64 0, .int .i64 0, .bool false, .int .u64 0, .int .u64 0, .bool false, .int .u64 0, .int .u64 0, .string ⟨#[]⟩] 31)).heap.size + 1 + 1, 0, none⟩), .int .i64 (((bt s 0 : Nat) : Int) / 16), .int .i64 ((sizeG s : Nat)), .int .i64 ((wt s 2 : Nat)), .int .i64 ((wt s 6 : Nat)), .int .i64 ((bt s 1 : Nat)), .int .i64 ((wt s 4 : Nat)), .bool (decide (wt s 6 / 16384 % 2 = 1)), .int .i64 ((bt s 8 : Nat)), .int .i64 ((bt s 9 : Nat)), .bool (false), .int .u64 (0), .int .u64 ((lowG s 12 : Nat)), .bool (false), .int .u64 (0), .int .u64 ((lowG s 16 : Nat)), .string (opG s)] 53); rw [World.size_alloc] at HW HL; have hro := HasB.rowOk HW (n := 12) rfl; have HF := HasB.new wa 53 #[.pointer (some ⟨w.heap.size + 1 + 1 + 1, 0, none⟩), .int .i64 (((bt s 0 : Nat) : Int) / 16), .int .i64 ((sizeG s : Nat)), .int .i64 ((wt s 2 : Nat)), .int .i64 ((wt s 6 : Nat)), .int .i64 ((bt s 1 : Nat)), .int .i64 ((wt s 4 : Nat)), .bool (decide (wt s 6 / 16384 % 2 = 1)), .int .i64 ((bt s 8 : Nat)), .int .i64 ((bt s 9 : Nat)), .bool (false), .int .u64 (0), .int .u64 ((lowG s 12 : Nat)), .bool (false), .int .u64 (0), .int .u64 ((lowG s 16 : Nat)), .string (opG s)]) | fail)
  (try simp only [Exit.inBlock, Exit.then]); refine bodyPost_ret (v := .tuple #[.agg #[.int .i64 0, .int .i64 0, .bool false, .int .i64 0, .int .i64 0, .bool false, .int .u64 0, .int .u64 0, .bool false, .int .u64 0, .int .u64 0, .string ⟨#[]⟩], .string ⟨#[]⟩, .int .i64 2]) (results_cell3 Try.results9 _ _ w.heap.size _ _ rfl (HasB.setRow HW #[.int .i64 0, .int .i64 0, .bool false, .int .i64 0, .int .i64 0, .bool false, .int .u64 0, .int .u64 0, .bool false, .int .u64 0, .int .u64 0, .string ⟨#[]⟩]) Try.underlying31 info31 rfl rfl) rfl ⟨rfl, below_setRow HL (Nat.le_refl _) #[.int .i64 0, .int .i64 0, .bool false, .int .i64 0, .int .i64 0, .bool false, .int .u64 0, .int .u64 0, .bool false, .int .u64 0, .int .u64 0, .string ⟨#[]⟩]⟩
theorem right_take (s : ByteArray) (k : Nat) (hk : k ≤ s.size) (hs : s.size ≤ 1099511627776) (w : World) :
    Calls Try.prog 25 #[.string (s.extract 0 k)] w fun e w' => e = .returned (.bool (decide (sumL (s.data.toList.take k) = 65535))) ∧ Below w.heap.size w w' := by
  refine (rightS_any (s.extract 0 k) (by rw [ByteArray.size_extract]; omega) w).mono ?_
  rintro e w' ⟨rfl, hb⟩
  refine ⟨?_, hb⟩
  rw [ext_str', List.drop_zero, Nat.sub_zero]
  by_cases h : sumL (s.data.toList.take k) = 65535
  · rw [decide_eq_true h, h]; rfl
  · rw [decide_eq_false h]
    have : (((sumL (s.data.toList.take k) : Nat) : Int) == 65535) = false := by simp; omega
    rw [this]
theorem get4_sum (s : ByteArray) (hs : s.size ≤ 1099511627776) (w : World) (h20 : 20 ≤ s.size) (h : bt s 0 / 16 = 4 ∧ 20 ≤ sizeG s ∧ sizeG s ≤ wt s 2) (hc : wt s 2 ≤ s.size) (hr : ¬ sumL (s.data.toList.take (sizeG s)) = 65535) :
    Calls Try.prog 9 #[.string s] w fun e w' => e = .returned (.tuple #[.agg #[.int .i64 (headG s).cl, .int .i64 (headG s).id, .bool (headG s).wh, .int .i64 (headG s).tt, .int .i64 (headG s).pr, .bool (headG s).sv, .int .u64 (headG s).sh, .int .u64 (headG s).sl, .bool (headG s).dv, .int .u64 (headG s).dh, .int .u64 (headG s).dl, .string (headG s).op], .string (payG s), .int .i64 (errG s)]) ∧ Below w.heap.size w w' := by
  have he : errG s = 4 := by unfold errG; rw [if_neg (by omega), if_neg (by omega), if_neg (by omega), if_pos hr]
  obtain ⟨hh, hp⟩ := headG_no he (by omega)
  rw [hh, hp, he]
  show Calls _ _ _ _ fun e' w' => e' = .returned (.tuple #[.agg #[.int .i64 0, .int .i64 0, .bool false, .int .i64 0, .int .i64 0, .bool false, .int .u64 0, .int .u64 0, .bool false, .int .u64 0, .int .u64 0, .string ⟨#[]⟩], .string ⟨#[]⟩, .int .i64 4]) ∧ Below w.heap.size w w'
  have HW := HasB.new w 31 #[.int .i64 0, .int .i64 0, .bool false, .int .i64 0, .int .i64 0, .bool false, .int .u64 0, .int .u64 0, .bool false, .int .u64 0, .int .u64 0, .string ⟨#[]⟩]
  have HL : Below w.heap.size w (w.alloc (.cells #[.int .i64 0, .int .i64 0, .bool false, .int .i64 0, .int .i64 0, .bool false, .int .u64 0, .int .u64 0, .bool false, .int .u64 0, .int .u64 0, .string ⟨#[]⟩] 31)) := (Below.refl _ _).alloc (Nat.le_refl _) _
  have hm : s.size ≤ maxLen := by unfold maxLen; omega
  clear he hh hp
  have v1 : (((bt s 0 : Nat) : Int) / 16 != 4) = false := by simp; omega
  have v2 : ¬ ((sizeG s : Nat) : Int) < 20 := by omega
  have v3 : ¬ ((wt s 2 : Nat) : Int) < (sizeG s : Nat) := by omega
  have v4 : ¬ (s.size : Int) < (wt s 2 : Nat) := by omega
  have v5 : (0 : Int) ≤ (sizeG s : Nat) := by omega
  have v6 : ((sizeG s : Nat) : Int) ≤ s.size := by omega
  have hsz : sizeG s ≤ s.size := by omega
  have v7 := decide_eq_false hr
  clear h hc hr
  go_enter Try.func9, Try.ntmps9
  go_wp2_with (first | (go_at_call 24; (with_reducible refine (read4_any s hm h20 _).mono ?_); rintro e wa ⟨rfl, hb⟩; replace HL := (HL.trans (hb.mono (by simp))).alloc (Nat.le_trans (Nat.le_of_lt HW.lt) hb.size) (.cells #[.pointer (some ⟨(w.alloc (.cells #[.int .i64 0, .int .i64 0, .bool false, .int .i64 0, .int .i64 0, .bool false, .int .u64 0, .int .u64 0, .bool false, .int .u64 0, .int .u64 0, .string ⟨#[]⟩] 31)).heap.size + 1 + 1, 0, none⟩), .int .i64 (((bt s 0 : Nat) : Int) / 16), .int .i64 ((sizeG s : Nat)), .int .i64 ((wt s 2 : Nat)), .int .i64 ((wt s 6 : Nat)), .int .i64 ((bt s 1 : Nat)), .int .i64 ((wt s 4 : Nat)), .bool (decide (wt s 6 / 16384 % 2 = 1)), .int .i64 ((bt s 8 : Nat)), .int .i64 ((bt s 9 : Nat)), .bool (false), .int .u64 (0), .int .u64 ((lowG s 12 : Nat)), .bool (false), .int .u64 (0), .int .u64 ((lowG s 16 : Nat)), .string (opG s)] 53); replace HW := (HasB.below HW hb HW.lt).alloc (.cells #[.pointer (some ⟨(w.alloc (.cells #[.int .i64 0, .int .i64 0, .bool false, .int .i64 0, .int .i64 0, .bool false, .int .u64 0, .int .u64 0, .bool false, .int .u64 0, .int .u64 0, .string ⟨#[]⟩] 31)).heap.size + 1 + 1, 0, none⟩), .int .i64 (((bt s 0 : Nat) : Int) / 16), .int .i64 ((sizeG s : Nat)), .int .i64 ((wt s 2 : Nat)), .int .i64 ((wt s 6 : Nat)), .int .i64 ((bt s 1 : Nat)), .int .i64 ((wt s 4 : Nat)), .bool (decide (wt s 6 / 16384 % 2 = 1)), .int .i64 ((bt s 8 : Nat)), .int .i64 ((bt s 9 : Nat)), .bool (false), .int .u64 (0), .int .u64 ((lowG s 12 : Nat)), .bool (false), .int .u64 (0), .int .u64 ((lowG s 16 : Nat)), .string (opG s)] 53); rw [World.size_alloc] at HW HL; have hro := HasB.rowOk HW (n := 12) rfl; have HF := HasB.new wa 53 #[.pointer (some ⟨w.heap.size + 1 + 1 + 1, 0, none⟩), .int .i64 (((bt s 0 : Nat) : Int) / 16), .int .i64 ((sizeG s : Nat)), .int .i64 ((wt s 2 : Nat)), .int .i64 ((wt s 6 : Nat)), .int .i64 ((bt s 1 : Nat)), .int .i64 ((wt s 4 : Nat)), .bool (decide (wt s 6 / 16384 % 2 = 1)), .int .i64 ((bt s 8 : Nat)), .int .i64 ((bt s 9 : Nat)), .bool (false), .int .u64 (0), .int .u64 ((lowG s 12 : Nat)), .bool (false), .int .u64 (0), .int .u64 ((lowG s 16 : Nat)), .string (opG s)]) | (go_at_call 25; (with_reducible refine (right_take s (sizeG s) hsz hs _).mono ?_); rintro e wb ⟨rfl, hb⟩; replace HL := HL.trans (hb.mono (Nat.le_of_lt HW.lt)); replace HW := HasB.below HW hb HW.lt; replace HF := HasB.below HF hb HF.lt; have hz := HF.lt; clear hro hb; have hro := HasB.rowOk HW (n := 12) rfl; have c2 := HasB.cell HF 2 (.int .i64 (sizeG s : Nat)) rfl; have c3 := HasB.cell HF 3 (.int .i64 (wt s 2 : Nat)) rfl; have c4 := HasB.cell HF 4 (.int .i64 (wt s 6 : Nat)) rfl) | fail)
  (try simp only [Exit.inBlock, Exit.then]); refine bodyPost_ret (v := .tuple #[.agg #[.int .i64 0, .int .i64 0, .bool false, .int .i64 0, .int .i64 0, .bool false, .int .u64 0, .int .u64 0, .bool false, .int .u64 0, .int .u64 0, .string ⟨#[]⟩], .string ⟨#[]⟩, .int .i64 4]) (results_cell3 Try.results9 _ _ w.heap.size _ _ rfl (HasB.setRow HW #[.int .i64 0, .int .i64 0, .bool false, .int .i64 0, .int .i64 0, .bool false, .int .u64 0, .int .u64 0, .bool false, .int .u64 0, .int .u64 0, .string ⟨#[]⟩]) Try.underlying31 info31 rfl rfl) rfl ⟨rfl, below_setRow HL (Nat.le_refl _) #[.int .i64 0, .int .i64 0, .bool false, .int .i64 0, .int .i64 0, .bool false, .int .u64 0, .int .u64 0, .bool false, .int .u64 0, .int .u64 0, .string ⟨#[]⟩]⟩
theorem get4_frag (s : ByteArray) (hs : s.size ≤ 1099511627776) (w : World) (h20 : 20 ≤ s.size) (h : bt s 0 / 16 = 4 ∧ 20 ≤ sizeG s ∧ sizeG s ≤ wt s 2) (hc : wt s 2 ≤ s.size) (hr : sumL (s.data.toList.take (sizeG s)) = 65535) (hf : wt s 6 ≠ 0 ∧ wt s 6 ≠ 16384) :
    Calls Try.prog 9 #[.string s] w fun e w' => e = .returned (.tuple #[.agg #[.int .i64 (headG s).cl, .int .i64 (headG s).id, .bool (headG s).wh, .int .i64 (headG s).tt, .int .i64 (headG s).pr, .bool (headG s).sv, .int .u64 (headG s).sh, .int .u64 (headG s).sl, .bool (headG s).dv, .int .u64 (headG s).dh, .int .u64 (headG s).dl, .string (headG s).op], .string (payG s), .int .i64 (errG s)]) ∧ Below w.heap.size w w' := by
  have he : errG s = 7 := by unfold errG; rw [if_neg (by omega), if_neg (by omega), if_neg (by omega), if_neg (by omega), if_pos hf]
  obtain ⟨hh, hp⟩ := headG_no he (by omega)
  rw [hh, hp, he]
  show Calls _ _ _ _ fun e' w' => e' = .returned (.tuple #[.agg #[.int .i64 0, .int .i64 0, .bool false, .int .i64 0, .int .i64 0, .bool false, .int .u64 0, .int .u64 0, .bool false, .int .u64 0, .int .u64 0, .string ⟨#[]⟩], .string ⟨#[]⟩, .int .i64 7]) ∧ Below w.heap.size w w'
  have HW := HasB.new w 31 #[.int .i64 0, .int .i64 0, .bool false, .int .i64 0, .int .i64 0, .bool false, .int .u64 0, .int .u64 0, .bool false, .int .u64 0, .int .u64 0, .string ⟨#[]⟩]
  have HL : Below w.heap.size w (w.alloc (.cells #[.int .i64 0, .int .i64 0, .bool false, .int .i64 0, .int .i64 0, .bool false, .int .u64 0, .int .u64 0, .bool false, .int .u64 0, .int .u64 0, .string ⟨#[]⟩] 31)) := (Below.refl _ _).alloc (Nat.le_refl _) _
  have hm : s.size ≤ maxLen := by unfold maxLen; omega
  clear he hh hp
  have v1 : (((bt s 0 : Nat) : Int) / 16 != 4) = false := by simp; omega
  have v2 : ¬ ((sizeG s : Nat) : Int) < 20 := by omega
  have v3 : ¬ ((wt s 2 : Nat) : Int) < (sizeG s : Nat) := by omega
  have v4 : ¬ (s.size : Int) < (wt s 2 : Nat) := by omega
  have v5 : (0 : Int) ≤ (sizeG s : Nat) := by omega
  have v6 : ((sizeG s : Nat) : Int) ≤ s.size := by omega
  have hsz : sizeG s ≤ s.size := by omega
  have v7 := decide_eq_true hr
  have v8 := andn14 (wt s 6) (by have := wt_le s 6; omega)
  rw [decide_eq_true hf] at v8
  clear h hc hr hf
  go_enter Try.func9, Try.ntmps9
  go_wp2_with (first | (go_at_call 24; (with_reducible refine (read4_any s hm h20 _).mono ?_); rintro e wa ⟨rfl, hb⟩; replace HL := (HL.trans (hb.mono (by simp))).alloc (Nat.le_trans (Nat.le_of_lt HW.lt) hb.size) (.cells #[.pointer (some ⟨(w.alloc (.cells #[.int .i64 0, .int .i64 0, .bool false, .int .i64 0, .int .i64 0, .bool false, .int .u64 0, .int .u64 0, .bool false, .int .u64 0, .int .u64 0, .string ⟨#[]⟩] 31)).heap.size + 1 + 1, 0, none⟩), .int .i64 (((bt s 0 : Nat) : Int) / 16), .int .i64 ((sizeG s : Nat)), .int .i64 ((wt s 2 : Nat)), .int .i64 ((wt s 6 : Nat)), .int .i64 ((bt s 1 : Nat)), .int .i64 ((wt s 4 : Nat)), .bool (decide (wt s 6 / 16384 % 2 = 1)), .int .i64 ((bt s 8 : Nat)), .int .i64 ((bt s 9 : Nat)), .bool (false), .int .u64 (0), .int .u64 ((lowG s 12 : Nat)), .bool (false), .int .u64 (0), .int .u64 ((lowG s 16 : Nat)), .string (opG s)] 53); replace HW := (HasB.below HW hb HW.lt).alloc (.cells #[.pointer (some ⟨(w.alloc (.cells #[.int .i64 0, .int .i64 0, .bool false, .int .i64 0, .int .i64 0, .bool false, .int .u64 0, .int .u64 0, .bool false, .int .u64 0, .int .u64 0, .string ⟨#[]⟩] 31)).heap.size + 1 + 1, 0, none⟩), .int .i64 (((bt s 0 : Nat) : Int) / 16), .int .i64 ((sizeG s : Nat)), .int .i64 ((wt s 2 : Nat)), .int .i64 ((wt s 6 : Nat)), .int .i64 ((bt s 1 : Nat)), .int .i64 ((wt s 4 : Nat)), .bool (decide (wt s 6 / 16384 % 2 = 1)), .int .i64 ((bt s 8 : Nat)), .int .i64 ((bt s 9 : Nat)), .bool (false), .int .u64 (0), .int .u64 ((lowG s 12 : Nat)), .bool (false), .int .u64 (0), .int .u64 ((lowG s 16 : Nat)), .string (opG s)] 53); rw [World.size_alloc] at HW HL; have hro := HasB.rowOk HW (n := 12) rfl; have HF := HasB.new wa 53 #[.pointer (some ⟨w.heap.size + 1 + 1 + 1, 0, none⟩), .int .i64 (((bt s 0 : Nat) : Int) / 16), .int .i64 ((sizeG s : Nat)), .int .i64 ((wt s 2 : Nat)), .int .i64 ((wt s 6 : Nat)), .int .i64 ((bt s 1 : Nat)), .int .i64 ((wt s 4 : Nat)), .bool (decide (wt s 6 / 16384 % 2 = 1)), .int .i64 ((bt s 8 : Nat)), .int .i64 ((bt s 9 : Nat)), .bool (false), .int .u64 (0), .int .u64 ((lowG s 12 : Nat)), .bool (false), .int .u64 (0), .int .u64 ((lowG s 16 : Nat)), .string (opG s)]) | (go_at_call 25; (with_reducible refine (right_take s (sizeG s) hsz hs _).mono ?_); rintro e wb ⟨rfl, hb⟩; replace HL := HL.trans (hb.mono (Nat.le_of_lt HW.lt)); replace HW := HasB.below HW hb HW.lt; replace HF := HasB.below HF hb HF.lt; have hz := HF.lt; clear hro hb; have hro := HasB.rowOk HW (n := 12) rfl; have c2 := HasB.cell HF 2 (.int .i64 (sizeG s : Nat)) rfl; have c3 := HasB.cell HF 3 (.int .i64 (wt s 2 : Nat)) rfl; have c4 := HasB.cell HF 4 (.int .i64 (wt s 6 : Nat)) rfl) | fail)
  (try simp only [Exit.inBlock, Exit.then]); refine bodyPost_ret (v := .tuple #[.agg #[.int .i64 0, .int .i64 0, .bool false, .int .i64 0, .int .i64 0, .bool false, .int .u64 0, .int .u64 0, .bool false, .int .u64 0, .int .u64 0, .string ⟨#[]⟩], .string ⟨#[]⟩, .int .i64 7]) (results_cell3 Try.results9 _ _ w.heap.size _ _ rfl (HasB.setRow HW #[.int .i64 0, .int .i64 0, .bool false, .int .i64 0, .int .i64 0, .bool false, .int .u64 0, .int .u64 0, .bool false, .int .u64 0, .int .u64 0, .string ⟨#[]⟩]) Try.underlying31 info31 rfl rfl) rfl ⟨rfl, below_setRow HL (Nat.le_refl _) #[.int .i64 0, .int .i64 0, .bool false, .int .i64 0, .int .i64 0, .bool false, .int .u64 0, .int .u64 0, .bool false, .int .u64 0, .int .u64 0, .string ⟨#[]⟩]⟩
set_option maxRecDepth 100000 in
theorem get4_ok (s : ByteArray) (hs : s.size ≤ 1099511627776) (w : World) (he : errG s = 0) :
    Calls Try.prog 9 #[.string s] w fun e w' => e = .returned (.tuple #[.agg #[.int .i64 (headG s).cl, .int .i64 (headG s).id, .bool (headG s).wh, .int .i64 (headG s).tt, .int .i64 (headG s).pr, .bool (headG s).sv, .int .u64 (headG s).sh, .int .u64 (headG s).sl, .bool (headG s).dv, .int .u64 (headG s).dh, .int .u64 (headG s).dl, .string (headG s).op], .string (payG s), .int .i64 (errG s)]) ∧ Below w.heap.size w w' := by
  obtain ⟨h20, h1, h2, h3, hc, hr, hf⟩ := errG_ok he
  have hh : headG s = rawG s := if_pos he
  have hp : payG s = s.extract (sizeG s) (wt s 2) := if_pos he
  rw [hh, hp, he]
  show Calls _ _ _ _ fun e' w' => e' = .returned (.tuple #[.agg #[.int .i64 (bt s 1 : Nat), .int .i64 (wt s 4 : Nat), .bool (decide (wt s 6 / 16384 % 2 = 1)), .int .i64 (bt s 8 : Nat), .int .i64 (bt s 9 : Nat), .bool false, .int .u64 0, .int .u64 (lowG s 12 : Nat), .bool false, .int .u64 0, .int .u64 (lowG s 16 : Nat), .string (opG s)], .string (s.extract (sizeG s) (wt s 2)), .int .i64 0]) ∧ Below w.heap.size w w'
  have HW := HasB.new w 31 #[.int .i64 0, .int .i64 0, .bool false, .int .i64 0, .int .i64 0, .bool false, .int .u64 0, .int .u64 0, .bool false, .int .u64 0, .int .u64 0, .string ⟨#[]⟩]
  have HL : Below w.heap.size w (w.alloc (.cells #[.int .i64 0, .int .i64 0, .bool false, .int .i64 0, .int .i64 0, .bool false, .int .u64 0, .int .u64 0, .bool false, .int .u64 0, .int .u64 0, .string ⟨#[]⟩] 31)) := (Below.refl _ _).alloc (Nat.le_refl _) _
  have hm : s.size ≤ maxLen := by unfold maxLen; omega
  have v1 : (((bt s 0 : Nat) : Int) / 16 != 4) = false := by simp; omega
  have v2 : ¬ ((sizeG s : Nat) : Int) < 20 := by omega
  have v3 : ¬ ((wt s 2 : Nat) : Int) < (sizeG s : Nat) := by omega
  have v4 : ¬ (s.size : Int) < (wt s 2 : Nat) := by omega
  have v5 : (0 : Int) ≤ (sizeG s : Nat) := by omega
  have v6 : ((sizeG s : Nat) : Int) ≤ s.size := by omega
  have hsz : sizeG s ≤ s.size := by omega
  have v7 := decide_eq_true hr
  have v8 := andn14 (wt s 6) (by have := wt_le s 6; omega)
  rw [decide_eq_false (by omega)] at v8
  have v9 : ((sizeG s : Nat) : Int) ≤ (wt s 2 : Nat) := by omega
  have v10 : ((wt s 2 : Nat) : Int) ≤ s.size := by omega
  clear h1 h2 h3 hc hr hf hh hp he
  go_enter Try.func9, Try.ntmps9
  go_wp2_with (first | (go_at_call 24; (with_reducible refine (read4_any s hm h20 _).mono ?_); rintro e wa ⟨rfl, hb⟩; replace HL := (HL.trans (hb.mono (by simp))).alloc (Nat.le_trans (Nat.le_of_lt HW.lt) hb.size) (.cells #[.pointer (some ⟨(w.alloc (.cells #[.int .i64 0, .int .i64 0, .bool false, .int .i64 0, .int .i64 0, .bool false, .int .u64 0, .int .u64 0, .bool false, .int .u64 0, .int .u64 0, .string ⟨#[]⟩] 31)).heap.size + 1 + 1, 0, none⟩), .int .i64 (((bt s 0 : Nat) : Int) / 16), .int .i64 ((sizeG s : Nat)), .int .i64 ((wt s 2 : Nat)), .int .i64 ((wt s 6 : Nat)), .int .i64 ((bt s 1 : Nat)), .int .i64 ((wt s 4 : Nat)), .bool (decide (wt s 6 / 16384 % 2 = 1)), .int .i64 ((bt s 8 : Nat)), .int .i64 ((bt s 9 : Nat)), .bool (false), .int .u64 (0), .int .u64 ((lowG s 12 : Nat)), .bool (false), .int .u64 (0), .int .u64 ((lowG s 16 : Nat)), .string (opG s)] 53); replace HW := (HasB.below HW hb HW.lt).alloc (.cells #[.pointer (some ⟨(w.alloc (.cells #[.int .i64 0, .int .i64 0, .bool false, .int .i64 0, .int .i64 0, .bool false, .int .u64 0, .int .u64 0, .bool false, .int .u64 0, .int .u64 0, .string ⟨#[]⟩] 31)).heap.size + 1 + 1, 0, none⟩), .int .i64 (((bt s 0 : Nat) : Int) / 16), .int .i64 ((sizeG s : Nat)), .int .i64 ((wt s 2 : Nat)), .int .i64 ((wt s 6 : Nat)), .int .i64 ((bt s 1 : Nat)), .int .i64 ((wt s 4 : Nat)), .bool (decide (wt s 6 / 16384 % 2 = 1)), .int .i64 ((bt s 8 : Nat)), .int .i64 ((bt s 9 : Nat)), .bool (false), .int .u64 (0), .int .u64 ((lowG s 12 : Nat)), .bool (false), .int .u64 (0), .int .u64 ((lowG s 16 : Nat)), .string (opG s)] 53); rw [World.size_alloc] at HW HL; have hro := HasB.rowOk HW (n := 12) rfl; have HF := HasB.new wa 53 #[.pointer (some ⟨w.heap.size + 1 + 1 + 1, 0, none⟩), .int .i64 (((bt s 0 : Nat) : Int) / 16), .int .i64 ((sizeG s : Nat)), .int .i64 ((wt s 2 : Nat)), .int .i64 ((wt s 6 : Nat)), .int .i64 ((bt s 1 : Nat)), .int .i64 ((wt s 4 : Nat)), .bool (decide (wt s 6 / 16384 % 2 = 1)), .int .i64 ((bt s 8 : Nat)), .int .i64 ((bt s 9 : Nat)), .bool (false), .int .u64 (0), .int .u64 ((lowG s 12 : Nat)), .bool (false), .int .u64 (0), .int .u64 ((lowG s 16 : Nat)), .string (opG s)]) | (go_at_call 25; (with_reducible refine (right_take s (sizeG s) hsz hs _).mono ?_); rintro e wb ⟨rfl, hb⟩; replace HL := HL.trans (hb.mono (Nat.le_of_lt HW.lt)); replace HW := HasB.below HW hb HW.lt; replace HF := HasB.below HF hb HF.lt; have hz := HF.lt; clear hro hb; have hro := HasB.rowOk HW (n := 12) rfl; have c2 := HasB.cell HF 2 (.int .i64 (sizeG s : Nat)) rfl; have c3 := HasB.cell HF 3 (.int .i64 (wt s 2 : Nat)) rfl; have c4 := HasB.cell HF 4 (.int .i64 (wt s 6 : Nat)) rfl) | fail)
  have c5 := HasB.cell HF 5 (.int .i64 (bt s 1 : Nat)) rfl
  have c6 := HasB.cell HF 6 (.int .i64 (wt s 4 : Nat)) rfl
  have c7 := HasB.cell HF 7 (.bool (decide (wt s 6 / 16384 % 2 = 1))) rfl
  have c8 := HasB.cell HF 8 (.int .i64 (bt s 8 : Nat)) rfl
  have c9 := HasB.cell HF 9 (.int .i64 (bt s 9 : Nat)) rfl
  have c10 := HasB.cell HF 10 (.bool false) rfl
  have c11 := HasB.cell HF 11 (.int .u64 0) rfl
  have c12 := HasB.cell HF 12 (.int .u64 (lowG s 12 : Nat)) rfl
  have c13 := HasB.cell HF 13 (.bool false) rfl
  have c14 := HasB.cell HF 14 (.int .u64 0) rfl
  have c15 := HasB.cell HF 15 (.int .u64 (lowG s 16 : Nat)) rfl
  have c16 := HasB.cell HF 16 (.string (opG s)) rfl
  have d0 := HasB.cell HW 0 (.int .i64 0) rfl
  have f0 := HasB.free HW 0
  have d1 := HasB.cell HW 1 (.int .i64 0) rfl
  have f1 := HasB.free HW 1
  have d2 := HasB.cell HW 2 (.bool false) rfl
  have f2 := HasB.free HW 2
  have d3 := HasB.cell HW 3 (.int .i64 0) rfl
  have f3 := HasB.free HW 3
  have d4 := HasB.cell HW 4 (.int .i64 0) rfl
  have f4 := HasB.free HW 4
  have d5 := HasB.cell HW 5 (.bool false) rfl
  have f5 := HasB.free HW 5
  have d6 := HasB.cell HW 6 (.int .u64 0) rfl
  have f6 := HasB.free HW 6
  have d7 := HasB.cell HW 7 (.int .u64 0) rfl
  have f7 := HasB.free HW 7
  have d8 := HasB.cell HW 8 (.bool false) rfl
  have f8 := HasB.free HW 8
  have d9 := HasB.cell HW 9 (.int .u64 0) rfl
  have f9 := HasB.free HW 9
  have d10 := HasB.cell HW 10 (.int .u64 0) rfl
  have f10 := HasB.free HW 10
  have d11 := HasB.cell HW 11 (.string ⟨#[]⟩) rfl
  have f11 := HasB.free HW 11
  have H5 : Hid (HasB wb w.heap.size 31 #[.int .i64 0, .int .i64 0, .bool false, .int .i64 0, .int .i64 0, .bool false, .int .u64 0, .int .u64 0, .bool false, .int .u64 0, .int .u64 0, .string ⟨#[]⟩] ∧ Below w.heap.size w wb) := Lib.hid ⟨HW, HL⟩
  have hlt : w.heap.size < wa.heap.size := by have := hb.size; simp at this; omega
  have n1 : ¬ wa.heap.size = w.heap.size := by omega
  have n2 : ¬ w.heap.size = wa.heap.size := by omega
  clear c4 hb HF hro HW HL
  go_region
  all_goals
    have HW2 := (putAll_hasB H5.out.1 [.int .i64 (bt s 1 : Nat), .int .i64 (wt s 4 : Nat), .bool (decide (wt s 6 / 16384 % 2 = 1)), .int .i64 (bt s 8 : Nat), .int .i64 (bt s 9 : Nat), .bool false, .int .u64 0, .int .u64 (lowG s 12 : Nat), .bool false, .int .u64 0, .int .u64 (lowG s 16 : Nat), .string (opG s)] rfl).drew
    have HL2 := below_drewN (putAll_below (Nat.le_refl _) [.int .i64 (bt s 1 : Nat), .int .i64 (wt s 4 : Nat), .bool (decide (wt s 6 / 16384 % 2 = 1)), .int .i64 (bt s 8 : Nat), .int .i64 (bt s 9 : Nat), .bool false, .int .u64 0, .int .u64 (lowG s 12 : Nat), .bool false, .int .u64 0, .int .u64 (lowG s 16 : Nat), .string (opG s)] 0 _ H5.out.2) 1
    go_wp2_with fail
    try simp only [Exit.inBlock, Exit.then]
    refine bodyPost_ret (v := .tuple #[.agg #[.int .i64 (bt s 1 : Nat), .int .i64 (wt s 4 : Nat), .bool (decide (wt s 6 / 16384 % 2 = 1)), .int .i64 (bt s 8 : Nat), .int .i64 (bt s 9 : Nat), .bool false, .int .u64 0, .int .u64 (lowG s 12 : Nat), .bool false, .int .u64 0, .int .u64 (lowG s 16 : Nat), .string (opG s)], .string (s.extract (sizeG s) (wt s 2)), .int .i64 0]) (results_cell3 Try.results9 _ _ w.heap.size _ _ rfl HW2 Try.underlying31 info31 rfl rfl) rfl ⟨rfl, HL2⟩
theorem get4_any (s : ByteArray) (hs : s.size ≤ 1099511627776) (w : World) :
    Calls Try.prog 9 #[.string s] w fun e w' => e = .returned (.tuple #[.agg #[.int .i64 (headG s).cl, .int .i64 (headG s).id, .bool (headG s).wh, .int .i64 (headG s).tt, .int .i64 (headG s).pr, .bool (headG s).sv, .int .u64 (headG s).sh, .int .u64 (headG s).sl, .bool (headG s).dv, .int .u64 (headG s).dh, .int .u64 (headG s).dl, .string (headG s).op], .string (payG s), .int .i64 (errG s)]) ∧ Below w.heap.size w w' := by
  by_cases h1 : s.size < 20
  · exact get4_short s hs w h1
  · by_cases h2 : bt s 0 / 16 = 4 ∧ 20 ≤ sizeG s ∧ sizeG s ≤ wt s 2
    · by_cases h3 : s.size < wt s 2
      · exact get4_cut s hs w (by omega) h2 h3
      · by_cases h4 : sumL (s.data.toList.take (sizeG s)) = 65535
        · by_cases h5 : wt s 6 ≠ 0 ∧ wt s 6 ≠ 16384
          · exact get4_frag s hs w (by omega) h2 (by omega) h4 h5
          · exact get4_ok s hs w (errG_is (by omega) h2.1 h2.2.1 h2.2.2 (by omega) h4 (by omega))
        · exact get4_sum s hs w (by omega) h2 (by omega) h4
    · exact get4_form s hs w (by omega) h2
end Go.Proofs.Ytdcmjmgpcpeacaa
