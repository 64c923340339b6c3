/- The contract of cloakroomref10: Get. -/
import Derived.Test.YtklilelbebhinaaTenCells
import Derived.Test.YtklilelbebhinaaRef02At
import Derived.Test.YtklilelbebhinaaRef03Turned
import Derived.Deep.RegionHeld3
import Derived.Deep.DrawnRows
namespace Go.Proofs.Ytklilelbebhinaa.R10
open Go.RowKit
set_option linter.unusedVariables false
attribute [local go_sem ↓] ldCV stCV
attribute [local go_sem] rowAt_p rowOkAt_p setAt_p aggOf_a rowOk_new rowOf_new setRow_new aggCV aggCT
attribute [local go_sem ↓] Go.wp_at_zero Go.wp_at_succ

theorem get_short (s : ByteArray) (hs : s.size ≤ 1099511627776) (w : World) (h : s.size < 18) : Calls Try.prog 9 #[.string s] w fun e w' => e = .returned (.tuple #[.agg #[.bool (coverG s).v6, .int .i64 (coverG s).bk, .int .u64 (coverG s).ck, .bool (coverG s).fi, .int .i64 (coverG s).ins], .string (payG10 s), .int .i64 (errG10 s)]) ∧ Below w.heap.size w w' := by
  have he : errG10 s = 2 := by unfold errG10; rw [if_pos h]
  obtain ⟨hh, hp⟩ := coverG_no (s := s) (by omega)
  rw [hh, hp, he]
  show Calls _ _ _ _ fun e' w' => e' = .returned (.tuple #[.agg #[.bool false, .int .i64 0, .int .u64 0, .bool false, .int .i64 0], .string ⟨#[]⟩, .int .i64 2]) ∧ Below w.heap.size w w'
  clear he hh hp
  have v1 : (s.size : Int) < 18 := by omega
  have HW := HasB.new w 24 #[.bool false, .int .i64 0, .int .u64 0, .bool false, .int .i64 0]
  have HL : Below w.heap.size w (w.alloc (.cells #[.bool false, .int .i64 0, .int .u64 0, .bool false, .int .i64 0] 24)) := (Below.refl _ _).alloc (Nat.le_refl _) _
  (go_enter Try.func9, Try.ntmps9; go_wp2_with fail)
  (try simp only [Exit.inBlock, Exit.then]); refine bodyPost_ret (v := .tuple #[.agg #[.bool false, .int .i64 0, .int .u64 0, .bool false, .int .i64 0], .string ⟨#[]⟩, .int .i64 2]) (results_cell3 Try.results9 _ _ w.heap.size _ _ rfl HW Try.underlying24 infoCV rfl rfl) rfl ⟨rfl, HL⟩
theorem magic {s : ByteArray} (h : 3 ≤ s.size) : ((s.extract 0 3).toList == [71, 85, 1]) = decide (bt s 0 = 71 ∧ bt s 1 = 85 ∧ bt s 2 = 1) := by
  have e : (s.extract 0 3).toList = [s.data.toList.getD 0 0, s.data.toList.getD 1 0, s.data.toList.getD 2 0] := by
    rw [ByteArray.toList_eq, ext_str', List.drop_zero, Nat.sub_zero]
    rw [size_list] at h
    match hl : s.data.toList, h with
    | a :: b :: c :: r, _ => rfl
    | [], h => simp at h
    | [_], h => simp at h
    | [_, _], h => simp at h
  rw [e]
  unfold bt
  generalize s.data.toList.getD 0 0 = a
  generalize s.data.toList.getD 1 0 = b
  generalize s.data.toList.getD 2 0 = c
  by_cases hh : a.toNat = 71 ∧ b.toNat = 85 ∧ c.toNat = 1
  · obtain ⟨h1, h2, h3⟩ := hh
    have e1 : a = 71 := UInt8.toNat_inj.1 h1
    have e2 : b = 85 := UInt8.toNat_inj.1 h2
    have e3 : c = 1 := UInt8.toNat_inj.1 h3
    subst e1 e2 e3
    rfl
  · rw [decide_eq_false hh]
    cases hb : ([a, b, c] == [71, 85, 1]) with
    | false => rfl
    | true =>
      have := eq_of_beq hb
      simp only [List.cons.injEq, and_true] at this
      obtain ⟨e1, e2, e3⟩ := this
      subst e1 e2 e3
      exact absurd ⟨rfl, rfl, rfl⟩ hh
theorem get_form (s : ByteArray) (hs : s.size ≤ 1099511627776) (w : World) (h0 : 18 ≤ s.size) (h : form10 s = false) : Calls Try.prog 9 #[.string s] w fun e w' => e = .returned (.tuple #[.agg #[.bool (coverG s).v6, .int .i64 (coverG s).bk, .int .u64 (coverG s).ck, .bool (coverG s).fi, .int .i64 (coverG s).ins], .string (payG10 s), .int .i64 (errG10 s)]) ∧ Below w.heap.size w w' := by
  have he : errG10 s = 3 := by unfold errG10; rw [if_neg (by omega), if_pos h]
  obtain ⟨hh, hp⟩ := coverG_no (s := s) (by omega)
  rw [hh, hp, he]
  show Calls _ _ _ _ fun e' w' => e' = .returned (.tuple #[.agg #[.bool false, .int .i64 0, .int .u64 0, .bool false, .int .i64 0], .string ⟨#[]⟩, .int .i64 3]) ∧ Below w.heap.size w w'
  clear he hh hp
  have l3 : 3 < s.size := by omega
  have l6 : 6 < s.size := by omega
  have l7 : 7 < s.size := by omega
  have q3 := byte_at s 3 l3
  have q6 := byte_at s 6 l6
  have q7 := byte_at s 7 l7
  have b3 := bt_lt s 3
  have b6 := bt_lt s 6
  have b7 := bt_lt s 7
  have j3 : (3 : Int) < s.size := by omega
  have j6 : (6 : Int) < s.size := by omega
  have j7 : (7 : Int) < s.size := by omega
  have j3e : (3 : Int) ≤ s.size := by omega
  have j18 : (18 : Int) ≤ s.size := by omega
  have v1 : ¬ (s.size : Int) < 18 := by omega
  have hm := magic (s := s) (by omega)
  have HW := HasB.new w 24 #[.bool false, .int .i64 0, .int .u64 0, .bool false, .int .i64 0]
  have HL : Below w.heap.size w (w.alloc (.cells #[.bool false, .int .i64 0, .int .u64 0, .bool false, .int .i64 0] 24)) := (Below.refl _ _).alloc (Nat.le_refl _) _
  by_cases h1 : bt s 0 = 71 ∧ bt s 1 = 85 ∧ bt s 2 = 1
  · rw [decide_eq_true h1] at hm
    by_cases h2 : bt s 3 = 4 ∨ bt s 3 = 41
    · have h3 : 1 < bt s 6 := by
        unfold form10 at h
        rw [decide_eq_true h1, decide_eq_true h2] at h
        simpa using h
      have v3 : (1 : Int) < (bt s 6 : Nat) := by omega
      rcases h2 with h2 | h2
      · have v2 : (((bt s 3 : Nat) : Int) != 4) = false := by simp; omega
        clear h h0 h1 h2 h3
        (go_enter Try.func9, Try.ntmps9; go_wp2_with fail)
        (try simp only [Exit.inBlock, Exit.then]); refine bodyPost_ret (v := .tuple #[.agg #[.bool false, .int .i64 0, .int .u64 0, .bool false, .int .i64 0], .string ⟨#[]⟩, .int .i64 3]) (results_cell3 Try.results9 _ _ w.heap.size _ _ rfl HW Try.underlying24 infoCV rfl rfl) rfl ⟨rfl, HL⟩
      · have v2 : (((bt s 3 : Nat) : Int) != 4) = true := by simp; omega
        have v4 : (((bt s 3 : Nat) : Int) != 41) = false := by simp; omega
        clear h h0 h1 h2 h3
        (go_enter Try.func9, Try.ntmps9; go_wp2_with fail)
        (try simp only [Exit.inBlock, Exit.then]); refine bodyPost_ret (v := .tuple #[.agg #[.bool false, .int .i64 0, .int .u64 0, .bool false, .int .i64 0], .string ⟨#[]⟩, .int .i64 3]) (results_cell3 Try.results9 _ _ w.heap.size _ _ rfl HW Try.underlying24 infoCV rfl rfl) rfl ⟨rfl, HL⟩
    · have v2 : (((bt s 3 : Nat) : Int) != 4) = true := by simp; omega
      have v4 : (((bt s 3 : Nat) : Int) != 41) = true := by simp; omega
      clear h h0 h1 h2
      (go_enter Try.func9, Try.ntmps9; go_wp2_with fail)
      (try simp only [Exit.inBlock, Exit.then]); refine bodyPost_ret (v := .tuple #[.agg #[.bool false, .int .i64 0, .int .u64 0, .bool false, .int .i64 0], .string ⟨#[]⟩, .int .i64 3]) (results_cell3 Try.results9 _ _ w.heap.size _ _ rfl HW Try.underlying24 infoCV rfl rfl) rfl ⟨rfl, HL⟩
  · rw [decide_eq_false h1] at hm
    clear h h0 h1
    (go_enter Try.func9, Try.ntmps9; go_wp2_with fail)
    (try simp only [Exit.inBlock, Exit.then]); refine bodyPost_ret (v := .tuple #[.agg #[.bool false, .int .i64 0, .int .u64 0, .bool false, .int .i64 0], .string ⟨#[]⟩, .int .i64 3]) (results_cell3 Try.results9 _ _ w.heap.size _ _ rfl HW Try.underlying24 infoCV rfl rfl) rfl ⟨rfl, HL⟩
theorem form_is {s : ByteArray} (h : form10 s = true) : (bt s 0 = 71 ∧ bt s 1 = 85 ∧ bt s 2 = 1) ∧ (bt s 3 = 4 ∨ bt s 3 = 41) ∧ bt s 6 ≤ 1 := by
  unfold form10 at h
  simpa using h
theorem get_long (s : ByteArray) (hs : s.size ≤ 1099511627776) (w : World) (h0 : 18 ≤ s.size) (h : form10 s = true) (hl : 9018 < s.size) : Calls Try.prog 9 #[.string s] w fun e w' => e = .returned (.tuple #[.agg #[.bool (coverG s).v6, .int .i64 (coverG s).bk, .int .u64 (coverG s).ck, .bool (coverG s).fi, .int .i64 (coverG s).ins], .string (payG10 s), .int .i64 (errG10 s)]) ∧ Below w.heap.size w w' := by
  have he : errG10 s = 5 := by unfold errG10; rw [if_neg (by omega), if_neg (by simp [h]), if_pos hl]
  obtain ⟨hh, hp⟩ := coverG_no (s := s) (by omega)
  rw [hh, hp, he]
  show Calls _ _ _ _ fun e' w' => e' = .returned (.tuple #[.agg #[.bool false, .int .i64 0, .int .u64 0, .bool false, .int .i64 0], .string ⟨#[]⟩, .int .i64 5]) ∧ Below w.heap.size w w'
  clear he hh hp
  obtain ⟨h1, h2, h3⟩ := form_is h
  have l3 : 3 < s.size := by omega
  have l6 : 6 < s.size := by omega
  have l7 : 7 < s.size := by omega
  have q3 := byte_at s 3 l3
  have q6 := byte_at s 6 l6
  have q7 := byte_at s 7 l7
  have b3 := bt_lt s 3
  have b6 := bt_lt s 6
  have b7 := bt_lt s 7
  have j3 : (3 : Int) < s.size := by omega
  have j6 : (6 : Int) < s.size := by omega
  have j7 : (7 : Int) < s.size := by omega
  have j3e : (3 : Int) ≤ s.size := by omega
  have j18 : (18 : Int) ≤ s.size := by omega
  have v1 : ¬ (s.size : Int) < 18 := by omega
  have hm := magic (s := s) (by omega)
  have HW := HasB.new w 24 #[.bool false, .int .i64 0, .int .u64 0, .bool false, .int .i64 0]
  have HL : Below w.heap.size w (w.alloc (.cells #[.bool false, .int .i64 0, .int .u64 0, .bool false, .int .i64 0] 24)) := (Below.refl _ _).alloc (Nat.le_refl _) _
  rw [decide_eq_true h1] at hm
  have v3 : ¬ (1 : Int) < (bt s 6 : Nat) := by omega
  have v2 : ((((bt s 3 : Nat) : Int) != 4) = false) ∨ ((((bt s 3 : Nat) : Int) != 4) = true ∧ (((bt s 3 : Nat) : Int) != 41) = false) := by
    rcases h2 with h2 | h2
    · exact .inl (by simp; omega)
    · exact .inr ⟨by simp; omega, by simp; omega⟩
  have v5 : (9018 : Int) < s.size := by omega
  clear h h0 h1 h2 h3 hl
  rcases v2 with v2 | ⟨v2, v4⟩
  · (go_enter Try.func9, Try.ntmps9; go_wp2_with fail)
    (try simp only [Exit.inBlock, Exit.then]); refine bodyPost_ret (v := .tuple #[.agg #[.bool false, .int .i64 0, .int .u64 0, .bool false, .int .i64 0], .string ⟨#[]⟩, .int .i64 5]) (results_cell3 Try.results9 _ _ w.heap.size _ _ rfl HW Try.underlying24 infoCV rfl rfl) rfl ⟨rfl, HL⟩
  · (go_enter Try.func9, Try.ntmps9; go_wp2_with fail)
    (try simp only [Exit.inBlock, Exit.then]); refine bodyPost_ret (v := .tuple #[.agg #[.bool false, .int .i64 0, .int .u64 0, .bool false, .int .i64 0], .string ⟨#[]⟩, .int .i64 5]) (results_cell3 Try.results9 _ _ w.heap.size _ _ rfl HW Try.underlying24 infoCV rfl rfl) rfl ⟨rfl, HL⟩
theorem get_sum (s : ByteArray) (hs : s.size ≤ 1099511627776) (w : World) (h0 : 18 ≤ s.size) (h : form10 s = true) (hl : s.size ≤ 9018) (h4 : sumL (s.data.toList.take 18) ≠ 65535) : Calls Try.prog 9 #[.string s] w fun e w' => e = .returned (.tuple #[.agg #[.bool (coverG s).v6, .int .i64 (coverG s).bk, .int .u64 (coverG s).ck, .bool (coverG s).fi, .int .i64 (coverG s).ins], .string (payG10 s), .int .i64 (errG10 s)]) ∧ Below w.heap.size w w' := by
  have he : errG10 s = 4 := by unfold errG10; rw [if_neg (by omega), if_neg (by simp [h]), if_neg (by omega), if_pos h4]
  obtain ⟨hh, hp⟩ := coverG_no (s := s) (by omega)
  rw [hh, hp, he]
  show Calls _ _ _ _ fun e' w' => e' = .returned (.tuple #[.agg #[.bool false, .int .i64 0, .int .u64 0, .bool false, .int .i64 0], .string ⟨#[]⟩, .int .i64 4]) ∧ Below w.heap.size w w'
  clear he hh hp
  obtain ⟨h1, h2, h3⟩ := form_is h
  have l3 : 3 < s.size := by omega
  have l6 : 6 < s.size := by omega
  have l7 : 7 < s.size := by omega
  have q3 := byte_at s 3 l3
  have q6 := byte_at s 6 l6
  have q7 := byte_at s 7 l7
  have b3 := bt_lt s 3
  have b6 := bt_lt s 6
  have b7 := bt_lt s 7
  have j3 : (3 : Int) < s.size := by omega
  have j6 : (6 : Int) < s.size := by omega
  have j7 : (7 : Int) < s.size := by omega
  have j3e : (3 : Int) ≤ s.size := by omega
  have j18 : (18 : Int) ≤ s.size := by omega
  have v1 : ¬ (s.size : Int) < 18 := by omega
  have hm := magic (s := s) (by omega)
  have HW := HasB.new w 24 #[.bool false, .int .i64 0, .int .u64 0, .bool false, .int .i64 0]
  have HL : Below w.heap.size w (w.alloc (.cells #[.bool false, .int .i64 0, .int .u64 0, .bool false, .int .i64 0] 24)) := (Below.refl _ _).alloc (Nat.le_refl _) _
  rw [decide_eq_true h1] at hm
  have v3 : ¬ (1 : Int) < (bt s 6 : Nat) := by omega
  have v2 : ((((bt s 3 : Nat) : Int) != 4) = false) ∨ ((((bt s 3 : Nat) : Int) != 4) = true ∧ (((bt s 3 : Nat) : Int) != 41) = false) := by
    rcases h2 with h2 | h2
    · exact .inl (by simp; omega)
    · exact .inr ⟨by simp; omega, by simp; omega⟩
  have hSM := R03.sum_any (s.extract 0 18) (by rw [ByteArray.size_extract]; omega)
  rw [ext_str', List.drop_zero, show (18 : Nat) - 0 = 18 from rfl] at hSM
  have SM := Lib.hid hSM
  have v5 : ¬ (9018 : Int) < s.size := by omega
  have v6 : (((sumL (s.data.toList.take 18) : Nat) : Int) != 65535) = true := by simp; omega
  generalize sumL (s.data.toList.take 18) = X at *
  clear h h0 h1 h2 h3 h4 hl hSM
  rcases v2 with v2 | ⟨v2, v4⟩
  · (go_enter Try.func9, Try.ntmps9; go_wp2_with (first | (go_at_call 20; (with_reducible refine (SM.out _).mono ?_); rintro e wb ⟨rfl, hb⟩; replace HL := HL.trans (hb.mono HL.size); replace HW := HasB.below HW hb HW.lt; have hro := HasB.rowOk HW (n := 5) rfl; clear hb) | fail))
    (have HW3 := HasB.setRow HW #[.bool false, .int .i64 0, .int .u64 0, .bool false, .int .i64 0]; have HL3 := below_setRow HL (Nat.le_refl _) #[.bool false, .int .i64 0, .int .u64 0, .bool false, .int .i64 0]; (try simp only [Exit.inBlock, Exit.then]); refine bodyPost_ret (v := .tuple #[.agg #[.bool false, .int .i64 0, .int .u64 0, .bool false, .int .i64 0], .string ⟨#[]⟩, .int .i64 4]) (results_cell3 Try.results9 _ _ w.heap.size _ _ rfl HW3 Try.underlying24 infoCV rfl rfl) rfl ⟨rfl, HL3⟩)
  · (go_enter Try.func9, Try.ntmps9; go_wp2_with (first | (go_at_call 20; (with_reducible refine (SM.out _).mono ?_); rintro e wb ⟨rfl, hb⟩; replace HL := HL.trans (hb.mono HL.size); replace HW := HasB.below HW hb HW.lt; have hro := HasB.rowOk HW (n := 5) rfl; clear hb) | fail))
    (have HW3 := HasB.setRow HW #[.bool false, .int .i64 0, .int .u64 0, .bool false, .int .i64 0]; have HL3 := below_setRow HL (Nat.le_refl _) #[.bool false, .int .i64 0, .int .u64 0, .bool false, .int .i64 0]; (try simp only [Exit.inBlock, Exit.then]); refine bodyPost_ret (v := .tuple #[.agg #[.bool false, .int .i64 0, .int .u64 0, .bool false, .int .i64 0], .string ⟨#[]⟩, .int .i64 4]) (results_cell3 Try.results9 _ _ w.heap.size _ _ rfl HW3 Try.underlying24 infoCV rfl rfl) rfl ⟨rfl, HL3⟩)
set_option maxHeartbeats 4000000 in
theorem get_ok4 (s : ByteArray) (hs : s.size ≤ 1099511627776) (w : World) (he : errG10 s = 0) (h40 : bt s 3 = 4) : Calls Try.prog 9 #[.string s] w fun e w' => e = .returned (.tuple #[.agg #[.bool (coverG s).v6, .int .i64 (coverG s).bk, .int .u64 (coverG s).ck, .bool (coverG s).fi, .int .i64 (coverG s).ins], .string (payG10 s), .int .i64 (errG10 s)]) ∧ Below w.heap.size w w' := by
  obtain ⟨h0, h, hl, h4⟩ := errG10_ok he
  have hh : coverG s = rawC s := if_pos he
  have hp : payG10 s = s.extract 18 s.size := if_pos he
  rw [hh, hp, he]
  obtain ⟨B3, hB3⟩ : ∃ B3, B3 = decide (bt s 3 = 41) := ⟨_, rfl⟩
  obtain ⟨B6, hB6⟩ : ∃ B6, B6 = decide (bt s 6 = 1) := ⟨_, rfl⟩
  unfold rawC
  rw [← hB3, ← hB6]
  show Calls _ _ _ _ fun e' w' => e' = .returned (.tuple #[.agg #[.bool (B3), .int .i64 ((wt s 4 : Nat)), .int .u64 ((seg s 10 8 : Nat)), .bool (B6), .int .i64 ((bt s 7 : Nat))], .string (s.extract 18 s.size), .int .i64 0]) ∧ Below w.heap.size w w'
  obtain ⟨h1, h2, h3⟩ := form_is h
  have l3 : 3 < s.size := by omega
  have l6 : 6 < s.size := by omega
  have l7 : 7 < s.size := by omega
  have q3 := byte_at s 3 l3
  have q6 := byte_at s 6 l6
  have q7 := byte_at s 7 l7
  have b3 := bt_lt s 3
  have b6 := bt_lt s 6
  have b7 := bt_lt s 7
  have j3 : (3 : Int) < s.size := by omega
  have j6 : (6 : Int) < s.size := by omega
  have j7 : (7 : Int) < s.size := by omega
  have j3e : (3 : Int) ≤ s.size := by omega
  have j18 : (18 : Int) ≤ s.size := by omega
  have v1 : ¬ (s.size : Int) < 18 := by omega
  have hm := magic (s := s) (by omega)
  have HW := HasB.new w 24 #[.bool false, .int .i64 0, .int .u64 0, .bool false, .int .i64 0]
  have HL : Below w.heap.size w (w.alloc (.cells #[.bool false, .int .i64 0, .int .u64 0, .bool false, .int .i64 0] 24)) := (Below.refl _ _).alloc (Nat.le_refl _) _
  rw [decide_eq_true h1] at hm
  have v3 : ¬ (1 : Int) < (bt s 6 : Nat) := by omega
  have v2 : ((((bt s 3 : Nat) : Int) != 4) = false) ∨ ((((bt s 3 : Nat) : Int) != 4) = true ∧ (((bt s 3 : Nat) : Int) != 41) = false) := by
    rcases h2 with h2 | h2
    · exact .inl (by simp; omega)
    · exact .inr ⟨by simp; omega, by simp; omega⟩
  have hSM := R03.sum_any (s.extract 0 18) (by rw [ByteArray.size_extract]; omega)
  rw [ext_str', List.drop_zero, show (18 : Nat) - 0 = 18 from rfl] at hSM
  have SM := Lib.hid hSM
  have v5 : ¬ (9018 : Int) < s.size := by omega
  have v6 : (((sumL (s.data.toList.take 18) : Nat) : Int) != 65535) = false := by simp; omega
  generalize sumL (s.data.toList.take 18) = X at *
  have e3 : (((bt s 3 : Nat) : Int) == 41) = B3 := by
    rw [hB3]
    by_cases hc : bt s 3 = 41
    · rw [decide_eq_true hc]; simp; omega
    · rw [decide_eq_false hc]; simp; omega
  have e6 : (((bt s 6 : Nat) : Int) == 1) = B6 := by
    rw [hB6]
    by_cases hc : bt s 6 = 1
    · rw [decide_eq_true hc]; simp; omega
    · rw [decide_eq_false hc]; simp; omega
  have hmx : s.size ≤ maxLen := by unfold maxLen; omega
  have hM := R02.must_seg s 4 2 4 2 rfl rfl hmx (by omega) (by omega) (by omega)
  rw [show seg s 4 2 = wt s 4 from wt_num s 4 (by omega)] at hM
  have HM := Lib.hid hM
  have hG := R02.get_any s 10 8 hmx (by omega) (by omega)
  rw [getN_yes (by omega) (by omega) (by omega) (by omega), getOk_yes (by omega) (by omega) (by omega) (by omega), show (10 : Int).toNat = 10 from rfl, show (8 : Int).toNat = 8 from rfl, show numB ((s.data.toList.drop 10).take 8) = seg s 10 8 from rfl] at hG
  have GM := Lib.hid hG
  have y7 : IntKind.i64.wrap (bt s 7 : Nat) = (bt s 7 : Nat) := IntWalk.i64_in _ (by omega)
  clear v2
  have v2 : (((bt s 3 : Nat) : Int) != 4) = false := by simp; omega
  clear h40
  clear h h0 h1 h2 h3 h4 hl hSM hh hp he hB3 hB6 hM hG
  (go_enter Try.func9, Try.ntmps9; go_wp2_with (first | (go_at_call 20; (with_reducible refine (SM.out _).mono ?_); rintro e wb ⟨rfl, hb⟩; replace HL := HL.trans (hb.mono HL.size); replace HW := HasB.below HW hb HW.lt; have hro := HasB.rowOk HW (n := 5) rfl; clear hb) | (go_at_call 21; (with_reducible refine (GM.out _).mono ?_); rintro e wg ⟨rfl, rfl⟩) | fail))
  clear hro
  have hro := HasB.rowOk (HasB.drew HW) (n := 5) rfl
  refine wp_region_noPanic ?_
  refine wp_region_held_drew (S := (fun _ => True)) (by kernel_rfl) trivial (fun hHeld => ?_)
  refine wpAnyH_take (i := 0) (oi := _) (v := ?v0a) rfl (by kernel_rfl) (by kernel_rfl) (by kernel_rfl) (fun _ _ _ h => h) (Or.inl ⟨by rfl, ?y0a⟩) (by assumption) ?r0a
  case y0a => intro w0 hSw; (try dsimp only at hSw); go_simp; try with_reducible rfl
  try simp only [Act.put, List.setIfInBounds_toArray, List.set_cons_zero, List.set_cons_succ, List.getElem_toArray, List.getElem_cons_zero]
  refine wpAnyH_take (i := 1) (oi := _) (v := ?v1a) rfl (by kernel_rfl) (by kernel_rfl) (by kernel_rfl) (fun _ _ _ h => h) (Or.inl ⟨by rfl, ?y1a⟩) (by assumption) ?r1a
  case y1a => intro w0 hSw; (try dsimp only at hSw); go_simp; try with_reducible rfl
  try simp only [Act.put, List.setIfInBounds_toArray, List.set_cons_zero, List.set_cons_succ, List.getElem_toArray, List.getElem_cons_succ, List.getElem_cons_zero]
  refine wpAnyH_take (i := 2) (oi := _) (v := ?v2a) rfl (by kernel_rfl) (by kernel_rfl) (by kernel_rfl) (fun _ _ _ h => h) (Or.inl ⟨by rfl, ?y2a⟩) (by assumption) ?r2a
  case y2a => intro w0 hSw; (try dsimp only at hSw); go_simp; try with_reducible rfl
  try simp only [Act.put, List.setIfInBounds_toArray, List.set_cons_zero, List.set_cons_succ, List.getElem_toArray, List.getElem_cons_succ, List.getElem_cons_zero]
  refine wpAnyH_take (i := 3) (oi := _) (v := ?v3a) rfl (by kernel_rfl) (by kernel_rfl) (by kernel_rfl) (fun _ _ _ h => h) (Or.inl ⟨by rfl, ?y3a⟩) (by assumption) ?r3a
  case y3a => intro w0 hSw; (try dsimp only at hSw); go_simp; try with_reducible rfl
  try simp only [Act.put, List.setIfInBounds_toArray, List.set_cons_zero, List.set_cons_succ, List.getElem_toArray, List.getElem_cons_succ, List.getElem_cons_zero]
  refine wpAnyH_take (i := 5) (oi := _) (v := ?v5a) rfl (by kernel_rfl) (by kernel_rfl) (by kernel_rfl) (fun _ _ _ h => h) (Or.inl ⟨by rfl, ?y5a⟩) (by assumption) ?r5a
  case y5a => intro w0 hSw; (try dsimp only at hSw); go_simp; try with_reducible rfl
  try simp only [Act.put, List.setIfInBounds_toArray, List.set_cons_zero, List.set_cons_succ, List.getElem_toArray, List.getElem_cons_succ, List.getElem_cons_zero]
  refine wpAnyH_take (i := 6) (oi := _) (v := ?v6a) rfl (by kernel_rfl) (by kernel_rfl) (by kernel_rfl) (fun _ _ _ h => h) (Or.inl ⟨by rfl, ?y6a⟩) (by assumption) ?r6a
  case y6a => intro w0 hSw; (try dsimp only at hSw); go_simp; try with_reducible rfl
  try simp only [Act.put, List.setIfInBounds_toArray, List.set_cons_zero, List.set_cons_succ, List.getElem_toArray, List.getElem_cons_succ, List.getElem_cons_zero]
  refine wpAnyH_take (i := 7) (oi := _) (v := ?v7a) rfl (by kernel_rfl) (by kernel_rfl) (by kernel_rfl) (fun _ _ _ h => h) (Or.inl ⟨by rfl, ?y7a⟩) (by assumption) ?r7a
  case y7a => intro w0 hSw; (try dsimp only at hSw); go_simp; try with_reducible rfl
  try simp only [Act.put, List.setIfInBounds_toArray, List.set_cons_zero, List.set_cons_succ, List.getElem_toArray, List.getElem_cons_succ, List.getElem_cons_zero]
  refine wpAnyH_take (i := 8) (oi := _) (v := ?v8a) rfl (by kernel_rfl) (by kernel_rfl) (by kernel_rfl) (fun _ _ _ h => h) (Or.inl ⟨by rfl, ?y8a⟩) (by assumption) ?r8a
  case y8a => intro w0 hSw; (try dsimp only at hSw); go_simp; try with_reducible rfl
  try simp only [Act.put, List.setIfInBounds_toArray, List.set_cons_zero, List.set_cons_succ, List.getElem_toArray, List.getElem_cons_succ, List.getElem_cons_zero]
  refine wpAnyH_take (i := 9) (oi := _) (v := ?v9a) rfl (by kernel_rfl) (by kernel_rfl) (by kernel_rfl) (fun _ _ _ h => h) (Or.inl ⟨by rfl, ?y9a⟩) (by assumption) ?r9a
  case y9a => intro w0 hSw; (try dsimp only at hSw); go_simp; try with_reducible rfl
  try simp only [Act.put, List.setIfInBounds_toArray, List.set_cons_zero, List.set_cons_succ, List.getElem_toArray, List.getElem_cons_succ, List.getElem_cons_zero]
  refine wpAnyH_take (i := 10) (oi := _) (v := ?v10a) rfl (by kernel_rfl) (by kernel_rfl) (by kernel_rfl) (fun _ _ _ h => h) (Or.inl ⟨by rfl, ?y10a⟩) (by assumption) ?r10a
  case y10a => intro w0 hSw; (try dsimp only at hSw); go_simp; try with_reducible rfl
  try simp only [Act.put, List.setIfInBounds_toArray, List.set_cons_zero, List.set_cons_succ, List.getElem_toArray, List.getElem_cons_succ, List.getElem_cons_zero]
  refine wpAnyH_take (i := 11) (oi := _) (v := ?v11a) rfl (by kernel_rfl) (by kernel_rfl) (by kernel_rfl) (fun _ _ _ h => h) (Or.inl ⟨by rfl, ?y11a⟩) (by assumption) ?r11a
  case y11a => intro w0 hSw; (try dsimp only at hSw); go_simp; try with_reducible rfl
  try simp only [Act.put, List.setIfInBounds_toArray, List.set_cons_zero, List.set_cons_succ, List.getElem_toArray, List.getElem_cons_succ, List.getElem_cons_zero]
  refine wpAnyH_take (i := 13) (oi := _) (v := ?v13a) rfl (by kernel_rfl) (by kernel_rfl) (by kernel_rfl) (fun _ _ _ h => h) (Or.inl ⟨by rfl, ?y13a⟩) (by assumption) ?r13a
  case y13a => intro w0 hSw; (try dsimp only at hSw); go_simp; try with_reducible rfl
  try simp only [Act.put, List.setIfInBounds_toArray, List.set_cons_zero, List.set_cons_succ, List.getElem_toArray, List.getElem_cons_succ, List.getElem_cons_zero]
  refine wpAnyH_take (i := 14) (oi := _) (v := ?v14a) rfl (by kernel_rfl) (by kernel_rfl) (by kernel_rfl) (fun _ _ _ h => h) (Or.inl ⟨by rfl, ?y14a⟩) (by assumption) ?r14a
  case y14a => intro w0 hSw; (try dsimp only at hSw); go_simp; try with_reducible rfl
  try simp only [Act.put, List.setIfInBounds_toArray, List.set_cons_zero, List.set_cons_succ, List.getElem_toArray, List.getElem_cons_succ, List.getElem_cons_zero]
  refine wpAnyH_ready (rs := [4]) (by kernel_rfl) (by simp) ?_
  refine AllReadyH.cons (o := _) rfl (fun K hK => ?_) AllReadyH.nil
  go_simp
  (with_reducible refine (HM.out _).mono ?_)
  rintro e wz ⟨rfl, rfl⟩
  go_wp2_with fail
  refine hK.out _ _ trivial (fun hHeld => ?_)
  clear hK K
  try simp only [Act.put, List.setIfInBounds_toArray, List.set_cons_zero, List.set_cons_succ, List.getElem_toArray, List.getElem_cons_succ, List.getElem_cons_zero]
  refine wpAnyH_take (i := 12) (oi := _) (v := ?v12a) rfl (by kernel_rfl) (by kernel_rfl) (by kernel_rfl) (fun _ _ _ h => h) (Or.inl ⟨by rfl, ?y12a⟩) (by assumption) ?r12a
  case y12a => intro w0 hSw; (try dsimp only at hSw); go_simp; try with_reducible rfl
  try simp only [Act.put, List.setIfInBounds_toArray, List.set_cons_zero, List.set_cons_succ, List.getElem_toArray, List.getElem_cons_succ, List.getElem_cons_zero]
  refine wpAnyH_ready (rs := [15]) (by kernel_rfl) (by simp) ?_
  refine AllReadyH.cons (o := _) rfl (fun K hK => ?_) AllReadyH.nil
  go_simp
  refine hK.out _ _ trivial (fun hHeld => ?_)
  clear hK K
  try simp only [Act.put, List.setIfInBounds_toArray, List.set_cons_zero, List.set_cons_succ, List.getElem_toArray, List.getElem_cons_succ, List.getElem_cons_zero]
  refine wpAnyH_take (i := 16) (oi := _) (v := ?v16a) rfl (by kernel_rfl) (by kernel_rfl) (by kernel_rfl) (fun _ _ _ h => h) (Or.inl ⟨by rfl, ?y16a⟩) (by assumption) ?r16a
  case y16a => intro w0 hSw; (try dsimp only at hSw); go_simp; try with_reducible rfl
  try simp only [Act.put, List.setIfInBounds_toArray, List.set_cons_zero, List.set_cons_succ, List.getElem_toArray, List.getElem_cons_succ, List.getElem_cons_zero]
  refine wpAnyH_take (i := 17) (oi := _) (v := ?v17a) rfl (by kernel_rfl) (by kernel_rfl) (by kernel_rfl) (fun _ _ _ h => h) (Or.inl ⟨by rfl, ?y17a⟩) (by assumption) ?r17a
  case y17a => intro w0 hSw; (try dsimp only at hSw); go_simp; try with_reducible rfl
  try simp only [Act.put, List.setIfInBounds_toArray, List.set_cons_zero, List.set_cons_succ, List.getElem_toArray, List.getElem_cons_succ, List.getElem_cons_zero]
  refine wpAnyH_done (by kernel_rfl) ?_ _
  refine NoPanic.normal ?_
  go_wp2_with fail
  have HW3 := HasB.setRow (HasB.drew HW) #[.bool (B3), .int .i64 ((wt s 4 : Nat)), .int .u64 ((seg s 10 8 : Nat)), .bool (B6), .int .i64 ((bt s 7 : Nat))]
  have HL3 := below_setRow HL.drew (Nat.le_refl _) #[.bool (B3), .int .i64 ((wt s 4 : Nat)), .int .u64 ((seg s 10 8 : Nat)), .bool (B6), .int .i64 ((bt s 7 : Nat))]
  (try simp only [Exit.inBlock, Exit.then]); refine bodyPost_ret (v := .tuple #[.agg #[.bool (B3), .int .i64 ((wt s 4 : Nat)), .int .u64 ((seg s 10 8 : Nat)), .bool (B6), .int .i64 ((bt s 7 : Nat))], .string (s.extract 18 s.size), .int .i64 0]) (results_cell3 Try.results9 _ _ w.heap.size _ _ rfl HW3 Try.underlying24 infoCV rfl rfl) rfl ⟨rfl, HL3⟩
set_option maxHeartbeats 4000000 in
theorem get_ok41 (s : ByteArray) (hs : s.size ≤ 1099511627776) (w : World) (he : errG10 s = 0) (h40 : bt s 3 = 41) : Calls Try.prog 9 #[.string s] w fun e w' => e = .returned (.tuple #[.agg #[.bool (coverG s).v6, .int .i64 (coverG s).bk, .int .u64 (coverG s).ck, .bool (coverG s).fi, .int .i64 (coverG s).ins], .string (payG10 s), .int .i64 (errG10 s)]) ∧ Below w.heap.size w w' := by
  obtain ⟨h0, h, hl, h4⟩ := errG10_ok he
  have hh : coverG s = rawC s := if_pos he
  have hp : payG10 s = s.extract 18 s.size := if_pos he
  rw [hh, hp, he]
  obtain ⟨B3, hB3⟩ : ∃ B3, B3 = decide (bt s 3 = 41) := ⟨_, rfl⟩
  obtain ⟨B6, hB6⟩ : ∃ B6, B6 = decide (bt s 6 = 1) := ⟨_, rfl⟩
  unfold rawC
  rw [← hB3, ← hB6]
  show Calls _ _ _ _ fun e' w' => e' = .returned (.tuple #[.agg #[.bool (B3), .int .i64 ((wt s 4 : Nat)), .int .u64 ((seg s 10 8 : Nat)), .bool (B6), .int .i64 ((bt s 7 : Nat))], .string (s.extract 18 s.size), .int .i64 0]) ∧ Below w.heap.size w w'
  obtain ⟨h1, h2, h3⟩ := form_is h
  have l3 : 3 < s.size := by omega
  have l6 : 6 < s.size := by omega
  have l7 : 7 < s.size := by omega
  have q3 := byte_at s 3 l3
  have q6 := byte_at s 6 l6
  have q7 := byte_at s 7 l7
  have b3 := bt_lt s 3
  have b6 := bt_lt s 6
  have b7 := bt_lt s 7
  have j3 : (3 : Int) < s.size := by omega
  have j6 : (6 : Int) < s.size := by omega
  have j7 : (7 : Int) < s.size := by omega
  have j3e : (3 : Int) ≤ s.size := by omega
  have j18 : (18 : Int) ≤ s.size := by omega
  have v1 : ¬ (s.size : Int) < 18 := by omega
  have hm := magic (s := s) (by omega)
  have HW := HasB.new w 24 #[.bool false, .int .i64 0, .int .u64 0, .bool false, .int .i64 0]
  have HL : Below w.heap.size w (w.alloc (.cells #[.bool false, .int .i64 0, .int .u64 0, .bool false, .int .i64 0] 24)) := (Below.refl _ _).alloc (Nat.le_refl _) _
  rw [decide_eq_true h1] at hm
  have v3 : ¬ (1 : Int) < (bt s 6 : Nat) := by omega
  have v2 : ((((bt s 3 : Nat) : Int) != 4) = false) ∨ ((((bt s 3 : Nat) : Int) != 4) = true ∧ (((bt s 3 : Nat) : Int) != 41) = false) := by
    rcases h2 with h2 | h2
    · exact .inl (by simp; omega)
    · exact .inr ⟨by simp; omega, by simp; omega⟩
  have hSM := R03.sum_any (s.extract 0 18) (by rw [ByteArray.size_extract]; omega)
  rw [ext_str', List.drop_zero, show (18 : Nat) - 0 = 18 from rfl] at hSM
  have SM := Lib.hid hSM
  have v5 : ¬ (9018 : Int) < s.size := by omega
  have v6 : (((sumL (s.data.toList.take 18) : Nat) : Int) != 65535) = false := by simp; omega
  generalize sumL (s.data.toList.take 18) = X at *
  have e3 : (((bt s 3 : Nat) : Int) == 41) = B3 := by
    rw [hB3]
    by_cases hc : bt s 3 = 41
    · rw [decide_eq_true hc]; simp; omega
    · rw [decide_eq_false hc]; simp; omega
  have e6 : (((bt s 6 : Nat) : Int) == 1) = B6 := by
    rw [hB6]
    by_cases hc : bt s 6 = 1
    · rw [decide_eq_true hc]; simp; omega
    · rw [decide_eq_false hc]; simp; omega
  have hmx : s.size ≤ maxLen := by unfold maxLen; omega
  have hM := R02.must_seg s 4 2 4 2 rfl rfl hmx (by omega) (by omega) (by omega)
  rw [show seg s 4 2 = wt s 4 from wt_num s 4 (by omega)] at hM
  have HM := Lib.hid hM
  have hG := R02.get_any s 10 8 hmx (by omega) (by omega)
  rw [getN_yes (by omega) (by omega) (by omega) (by omega), getOk_yes (by omega) (by omega) (by omega) (by omega), show (10 : Int).toNat = 10 from rfl, show (8 : Int).toNat = 8 from rfl, show numB ((s.data.toList.drop 10).take 8) = seg s 10 8 from rfl] at hG
  have GM := Lib.hid hG
  have y7 : IntKind.i64.wrap (bt s 7 : Nat) = (bt s 7 : Nat) := IntWalk.i64_in _ (by omega)
  clear v2
  have v2 : (((bt s 3 : Nat) : Int) != 4) = true := by simp; omega
  have v4 : (((bt s 3 : Nat) : Int) != 41) = false := by simp; omega
  clear h40
  clear h h0 h1 h2 h3 h4 hl hSM hh hp he hB3 hB6 hM hG
  (go_enter Try.func9, Try.ntmps9; go_wp2_with (first | (go_at_call 20; (with_reducible refine (SM.out _).mono ?_); rintro e wb ⟨rfl, hb⟩; replace HL := HL.trans (hb.mono HL.size); replace HW := HasB.below HW hb HW.lt; have hro := HasB.rowOk HW (n := 5) rfl; clear hb) | (go_at_call 21; (with_reducible refine (GM.out _).mono ?_); rintro e wg ⟨rfl, rfl⟩) | fail))
  clear hro
  have hro := HasB.rowOk (HasB.drew HW) (n := 5) rfl
  refine wp_region_noPanic ?_
  refine wp_region_held_drew (S := (fun _ => True)) (by kernel_rfl) trivial (fun hHeld => ?_)
  refine wpAnyH_take (i := 0) (oi := _) (v := ?v0a) rfl (by kernel_rfl) (by kernel_rfl) (by kernel_rfl) (fun _ _ _ h => h) (Or.inl ⟨by rfl, ?y0a⟩) (by assumption) ?r0a
  case y0a => intro w0 hSw; (try dsimp only at hSw); go_simp; try with_reducible rfl
  try simp only [Act.put, List.setIfInBounds_toArray, List.set_cons_zero, List.set_cons_succ, List.getElem_toArray, List.getElem_cons_zero]
  refine wpAnyH_take (i := 1) (oi := _) (v := ?v1a) rfl (by kernel_rfl) (by kernel_rfl) (by kernel_rfl) (fun _ _ _ h => h) (Or.inl ⟨by rfl, ?y1a⟩) (by assumption) ?r1a
  case y1a => intro w0 hSw; (try dsimp only at hSw); go_simp; try with_reducible rfl
  try simp only [Act.put, List.setIfInBounds_toArray, List.set_cons_zero, List.set_cons_succ, List.getElem_toArray, List.getElem_cons_succ, List.getElem_cons_zero]
  refine wpAnyH_take (i := 2) (oi := _) (v := ?v2a) rfl (by kernel_rfl) (by kernel_rfl) (by kernel_rfl) (fun _ _ _ h => h) (Or.inl ⟨by rfl, ?y2a⟩) (by assumption) ?r2a
  case y2a => intro w0 hSw; (try dsimp only at hSw); go_simp; try with_reducible rfl
  try simp only [Act.put, List.setIfInBounds_toArray, List.set_cons_zero, List.set_cons_succ, List.getElem_toArray, List.getElem_cons_succ, List.getElem_cons_zero]
  refine wpAnyH_take (i := 3) (oi := _) (v := ?v3a) rfl (by kernel_rfl) (by kernel_rfl) (by kernel_rfl) (fun _ _ _ h => h) (Or.inl ⟨by rfl, ?y3a⟩) (by assumption) ?r3a
  case y3a => intro w0 hSw; (try dsimp only at hSw); go_simp; try with_reducible rfl
  try simp only [Act.put, List.setIfInBounds_toArray, List.set_cons_zero, List.set_cons_succ, List.getElem_toArray, List.getElem_cons_succ, List.getElem_cons_zero]
  refine wpAnyH_take (i := 5) (oi := _) (v := ?v5a) rfl (by kernel_rfl) (by kernel_rfl) (by kernel_rfl) (fun _ _ _ h => h) (Or.inl ⟨by rfl, ?y5a⟩) (by assumption) ?r5a
  case y5a => intro w0 hSw; (try dsimp only at hSw); go_simp; try with_reducible rfl
  try simp only [Act.put, List.setIfInBounds_toArray, List.set_cons_zero, List.set_cons_succ, List.getElem_toArray, List.getElem_cons_succ, List.getElem_cons_zero]
  refine wpAnyH_take (i := 6) (oi := _) (v := ?v6a) rfl (by kernel_rfl) (by kernel_rfl) (by kernel_rfl) (fun _ _ _ h => h) (Or.inl ⟨by rfl, ?y6a⟩) (by assumption) ?r6a
  case y6a => intro w0 hSw; (try dsimp only at hSw); go_simp; try with_reducible rfl
  try simp only [Act.put, List.setIfInBounds_toArray, List.set_cons_zero, List.set_cons_succ, List.getElem_toArray, List.getElem_cons_succ, List.getElem_cons_zero]
  refine wpAnyH_take (i := 7) (oi := _) (v := ?v7a) rfl (by kernel_rfl) (by kernel_rfl) (by kernel_rfl) (fun _ _ _ h => h) (Or.inl ⟨by rfl, ?y7a⟩) (by assumption) ?r7a
  case y7a => intro w0 hSw; (try dsimp only at hSw); go_simp; try with_reducible rfl
  try simp only [Act.put, List.setIfInBounds_toArray, List.set_cons_zero, List.set_cons_succ, List.getElem_toArray, List.getElem_cons_succ, List.getElem_cons_zero]
  refine wpAnyH_take (i := 8) (oi := _) (v := ?v8a) rfl (by kernel_rfl) (by kernel_rfl) (by kernel_rfl) (fun _ _ _ h => h) (Or.inl ⟨by rfl, ?y8a⟩) (by assumption) ?r8a
  case y8a => intro w0 hSw; (try dsimp only at hSw); go_simp; try with_reducible rfl
  try simp only [Act.put, List.setIfInBounds_toArray, List.set_cons_zero, List.set_cons_succ, List.getElem_toArray, List.getElem_cons_succ, List.getElem_cons_zero]
  refine wpAnyH_take (i := 9) (oi := _) (v := ?v9a) rfl (by kernel_rfl) (by kernel_rfl) (by kernel_rfl) (fun _ _ _ h => h) (Or.inl ⟨by rfl, ?y9a⟩) (by assumption) ?r9a
  case y9a => intro w0 hSw; (try dsimp only at hSw); go_simp; try with_reducible rfl
  try simp only [Act.put, List.setIfInBounds_toArray, List.set_cons_zero, List.set_cons_succ, List.getElem_toArray, List.getElem_cons_succ, List.getElem_cons_zero]
  refine wpAnyH_take (i := 10) (oi := _) (v := ?v10a) rfl (by kernel_rfl) (by kernel_rfl) (by kernel_rfl) (fun _ _ _ h => h) (Or.inl ⟨by rfl, ?y10a⟩) (by assumption) ?r10a
  case y10a => intro w0 hSw; (try dsimp only at hSw); go_simp; try with_reducible rfl
  try simp only [Act.put, List.setIfInBounds_toArray, List.set_cons_zero, List.set_cons_succ, List.getElem_toArray, List.getElem_cons_succ, List.getElem_cons_zero]
  refine wpAnyH_take (i := 11) (oi := _) (v := ?v11a) rfl (by kernel_rfl) (by kernel_rfl) (by kernel_rfl) (fun _ _ _ h => h) (Or.inl ⟨by rfl, ?y11a⟩) (by assumption) ?r11a
  case y11a => intro w0 hSw; (try dsimp only at hSw); go_simp; try with_reducible rfl
  try simp only [Act.put, List.setIfInBounds_toArray, List.set_cons_zero, List.set_cons_succ, List.getElem_toArray, List.getElem_cons_succ, List.getElem_cons_zero]
  refine wpAnyH_take (i := 13) (oi := _) (v := ?v13a) rfl (by kernel_rfl) (by kernel_rfl) (by kernel_rfl) (fun _ _ _ h => h) (Or.inl ⟨by rfl, ?y13a⟩) (by assumption) ?r13a
  case y13a => intro w0 hSw; (try dsimp only at hSw); go_simp; try with_reducible rfl
  try simp only [Act.put, List.setIfInBounds_toArray, List.set_cons_zero, List.set_cons_succ, List.getElem_toArray, List.getElem_cons_succ, List.getElem_cons_zero]
  refine wpAnyH_take (i := 14) (oi := _) (v := ?v14a) rfl (by kernel_rfl) (by kernel_rfl) (by kernel_rfl) (fun _ _ _ h => h) (Or.inl ⟨by rfl, ?y14a⟩) (by assumption) ?r14a
  case y14a => intro w0 hSw; (try dsimp only at hSw); go_simp; try with_reducible rfl
  try simp only [Act.put, List.setIfInBounds_toArray, List.set_cons_zero, List.set_cons_succ, List.getElem_toArray, List.getElem_cons_succ, List.getElem_cons_zero]
  refine wpAnyH_ready (rs := [4]) (by kernel_rfl) (by simp) ?_
  refine AllReadyH.cons (o := _) rfl (fun K hK => ?_) AllReadyH.nil
  go_simp
  (with_reducible refine (HM.out _).mono ?_)
  rintro e wz ⟨rfl, rfl⟩
  go_wp2_with fail
  refine hK.out _ _ trivial (fun hHeld => ?_)
  clear hK K
  try simp only [Act.put, List.setIfInBounds_toArray, List.set_cons_zero, List.set_cons_succ, List.getElem_toArray, List.getElem_cons_succ, List.getElem_cons_zero]
  refine wpAnyH_take (i := 12) (oi := _) (v := ?v12a) rfl (by kernel_rfl) (by kernel_rfl) (by kernel_rfl) (fun _ _ _ h => h) (Or.inl ⟨by rfl, ?y12a⟩) (by assumption) ?r12a
  case y12a => intro w0 hSw; (try dsimp only at hSw); go_simp; try with_reducible rfl
  try simp only [Act.put, List.setIfInBounds_toArray, List.set_cons_zero, List.set_cons_succ, List.getElem_toArray, List.getElem_cons_succ, List.getElem_cons_zero]
  refine wpAnyH_ready (rs := [15]) (by kernel_rfl) (by simp) ?_
  refine AllReadyH.cons (o := _) rfl (fun K hK => ?_) AllReadyH.nil
  go_simp
  refine hK.out _ _ trivial (fun hHeld => ?_)
  clear hK K
  try simp only [Act.put, List.setIfInBounds_toArray, List.set_cons_zero, List.set_cons_succ, List.getElem_toArray, List.getElem_cons_succ, List.getElem_cons_zero]
  refine wpAnyH_take (i := 16) (oi := _) (v := ?v16a) rfl (by kernel_rfl) (by kernel_rfl) (by kernel_rfl) (fun _ _ _ h => h) (Or.inl ⟨by rfl, ?y16a⟩) (by assumption) ?r16a
  case y16a => intro w0 hSw; (try dsimp only at hSw); go_simp; try with_reducible rfl
  try simp only [Act.put, List.setIfInBounds_toArray, List.set_cons_zero, List.set_cons_succ, List.getElem_toArray, List.getElem_cons_succ, List.getElem_cons_zero]
  refine wpAnyH_take (i := 17) (oi := _) (v := ?v17a) rfl (by kernel_rfl) (by kernel_rfl) (by kernel_rfl) (fun _ _ _ h => h) (Or.inl ⟨by rfl, ?y17a⟩) (by assumption) ?r17a
  case y17a => intro w0 hSw; (try dsimp only at hSw); go_simp; try with_reducible rfl
  try simp only [Act.put, List.setIfInBounds_toArray, List.set_cons_zero, List.set_cons_succ, List.getElem_toArray, List.getElem_cons_succ, List.getElem_cons_zero]
  refine wpAnyH_done (by kernel_rfl) ?_ _
  refine NoPanic.normal ?_
  go_wp2_with fail
  have HW3 := HasB.setRow (HasB.drew HW) #[.bool (B3), .int .i64 ((wt s 4 : Nat)), .int .u64 ((seg s 10 8 : Nat)), .bool (B6), .int .i64 ((bt s 7 : Nat))]
  have HL3 := below_setRow HL.drew (Nat.le_refl _) #[.bool (B3), .int .i64 ((wt s 4 : Nat)), .int .u64 ((seg s 10 8 : Nat)), .bool (B6), .int .i64 ((bt s 7 : Nat))]
  (try simp only [Exit.inBlock, Exit.then]); refine bodyPost_ret (v := .tuple #[.agg #[.bool (B3), .int .i64 ((wt s 4 : Nat)), .int .u64 ((seg s 10 8 : Nat)), .bool (B6), .int .i64 ((bt s 7 : Nat))], .string (s.extract 18 s.size), .int .i64 0]) (results_cell3 Try.results9 _ _ w.heap.size _ _ rfl HW3 Try.underlying24 infoCV rfl rfl) rfl ⟨rfl, HL3⟩
theorem get_any (s : ByteArray) (hs : s.size ≤ 1099511627776) (w : World) : Calls Try.prog 9 #[.string s] w fun e w' => e = .returned (.tuple #[.agg #[.bool (coverG s).v6, .int .i64 (coverG s).bk, .int .u64 (coverG s).ck, .bool (coverG s).fi, .int .i64 (coverG s).ins], .string (payG10 s), .int .i64 (errG10 s)]) ∧ Below w.heap.size w w' := by
  by_cases h0 : s.size < 18
  · exact get_short s hs w h0
  · cases h : form10 s with
    | false => exact get_form s hs w (by omega) h
    | true =>
      by_cases hl : 9018 < s.size
      · exact get_long s hs w (by omega) h hl
      · by_cases h4 : sumL (s.data.toList.take 18) = 65535
        · rcases (form_is h).2.1 with h2 | h2
          · exact get_ok4 s hs w (errG10_is (by omega) h (by omega) h4) h2
          · exact get_ok41 s hs w (errG10_is (by omega) h (by omega) h4) h2
        · exact get_sum s hs w (by omega) h (by omega) h4
end Go.Proofs.Ytklilelbebhinaa.R10
