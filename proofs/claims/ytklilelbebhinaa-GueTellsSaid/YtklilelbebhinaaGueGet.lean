/- The contract of package gue: Get. -/
import Derived.Test.YtklilelbebhinaaGueRead
import Derived.Test.YtklilelbebhinaaRef10Get
namespace Go.Proofs.Ytklilelbebhinaa
open Go.RowKit
set_option linter.unusedVariables false
attribute [local go_sem ↓] ldCV stCV
attribute [local go_sem] rowAt_p rowOkAt_p setAt_p aggOf_a rowOk_new rowOf_new setRow_new aggCV aggCT
attribute [local go_sem ↓] Go.wp_at_zero Go.wp_at_succ ldFG stFG
attribute [local go_sem] aggFG

theorem Held.allocG {B g : Nat} {t : TypeId} {cs : Array Value} {w0 w : World} (h : Held B g t cs w0 w) (o : Obj) : Held B g t cs w0 (w.alloc o) :=
  ⟨HasB.alloc h.1 o, h.2.1.alloc h.2.2 o, by rw [World.size_alloc]; have := h.2.2; omega⟩
theorem ext_ext0 (s : ByteArray) (n a b : Nat) (h : b ≤ n) : (s.extract 0 n).extract a b = s.extract a b := by
  apply ext_eq
  rw [ext_str', ext_str', ext_str', List.drop_zero, Nat.sub_zero, List.drop_take, List.take_take, Nat.min_eq_left (by omega)]
theorem bt_ext0 (s : ByteArray) (n i : Nat) (h : i < n) : bt (s.extract 0 n) i = bt s i := by
  unfold bt
  rw [ext_str', List.drop_zero, Nat.sub_zero, List.getD_eq_getElem?_getD, List.getD_eq_getElem?_getD, List.getElem?_take_of_lt h]
theorem wt_ext0 (s : ByteArray) (n i : Nat) (h : i + 1 < n) : wt (s.extract 0 n) i = wt s i := by
  rw [wt_bt, wt_bt, bt_ext0 _ _ _ (by omega), bt_ext0 _ _ _ (by omega)]
theorem seg_ext0 (s : ByteArray) (n i k : Nat) (h : i + k ≤ n) : seg (s.extract 0 n) i k = seg s i k := by
  unfold seg
  rw [ext_str', List.drop_zero, Nat.sub_zero, List.drop_take, List.take_take, Nat.min_eq_left (by omega)]
theorem read10_at (s : ByteArray) (h : 18 ≤ s.size) (w : World) :
    Calls Try.prog 17 #[.string (s.extract 0 18)] w fun e w' => e = .returned (.agg #[.string (s.extract 0 3), .int .i64 (bt s 3 : Nat), .int .i64 (bt s 6 : Nat), .bool (decide (bt s 3 = 41)), .int .i64 (wt s 4 : Nat), .int .u64 (seg s 10 8 : Nat), .bool (decide (bt s 6 = 1)), .int .i64 (bt s 7 : Nat)]) ∧ Below w.heap.size w w' := by
  have h1 := read10_any (s.extract 0 18) (by rw [ByteArray.size_extract]; omega) w
  rw [ext_ext0 s 18 0 3 (by omega), bt_ext0 s 18 3 (by omega), bt_ext0 s 18 6 (by omega), bt_ext0 s 18 7 (by omega), wt_ext0 s 18 4 (by omega), seg_ext0 s 18 10 8 (by omega)] at h1
  exact h1
theorem get10_short (s : ByteArray) (hs : s.size ≤ 1000000) (w : World) (h : s.size < 18) : Calls Try.prog 8 #[.string s] w fun e w' => e = .returned (.tuple #[.agg #[.bool (coverG s).v6, .int .i64 (coverG s).bk, .int .u64 (coverG s).ck, .bool (coverG s).fi, .int .i64 (coverG s).ins], .string (payG10 s), .int .i64 (errG10 s)]) ∧ Below w.heap.size w w' := by
  have he : errG10 s = 2 := by unfold errG10; rw [if_pos h]
  obtain ⟨hh, hp⟩ := coverG_no (s := s) (by omega)
  rw [hh, hp, he]
  show Calls _ _ _ _ fun e' w' => e' = .returned (.tuple #[.agg #[.bool false, .int .i64 0, .int .u64 0, .bool false, .int .i64 0], .string ⟨#[]⟩, .int .i64 2]) ∧ Below w.heap.size w w'
  clear he hh hp
  have v1 : (s.size : Int) < 18 := by omega
  have HX : Hid (Held w.heap.size w.heap.size 24 #[.bool false, .int .i64 0, .int .u64 0, .bool false, .int .i64 0] w (w.alloc (.cells #[.bool false, .int .i64 0, .int .u64 0, .bool false, .int .i64 0] 24))) := Lib.hid ⟨HasB.new w _ _, (Below.refl _ _).alloc (Nat.le_refl _) _, by simp⟩
  have hro := HasB.rowOk HX.out.1 (n := 5) rfl
  go_enter Try.func8, Try.ntmps8
  go_wp2_with fail
  (try simp only [Exit.inBlock, Exit.then]); refine bodyPost_ret (v := .tuple #[.agg #[.bool false, .int .i64 0, .int .u64 0, .bool false, .int .i64 0], .string ⟨#[]⟩, .int .i64 2]) (results_cell3 Try.results8 _ _ w.heap.size _ _ rfl HX.out.1 Try.underlying24 infoCV rfl rfl) rfl ⟨rfl, HX.out.2.1⟩
set_option maxHeartbeats 4000000 in
theorem get10_form (s : ByteArray) (hs : s.size ≤ 1000000) (w : World) (h0 : 18 ≤ s.size) (h : form10 s = false) : Calls Try.prog 8 #[.string s] w fun e w' => e = .returned (.tuple #[.agg #[.bool (coverG s).v6, .int .i64 (coverG s).bk, .int .u64 (coverG s).ck, .bool (coverG s).fi, .int .i64 (coverG s).ins], .string (payG10 s), .int .i64 (errG10 s)]) ∧ Below w.heap.size w w' := by
  have he : errG10 s = 3 := by unfold errG10; rw [if_neg (by omega), if_pos h]
  obtain ⟨hh, hp⟩ := coverG_no (s := s) (by omega)
  rw [hh, hp, he]
  show Calls _ _ _ _ fun e' w' => e' = .returned (.tuple #[.agg #[.bool false, .int .i64 0, .int .u64 0, .bool false, .int .i64 0], .string ⟨#[]⟩, .int .i64 3]) ∧ Below w.heap.size w w'
  clear he hh hp
  have v1 : ¬ (s.size : Int) < 18 := by omega
  have j18 : (18 : Int) ≤ s.size := by omega
  have hm := R10.magic (s := s) (by omega)
  have RD := read10_at s h0
  obtain ⟨V, hV⟩ : ∃ V, decide (bt s 3 = 41) = V := ⟨_, rfl⟩
  obtain ⟨F, hF⟩ : ∃ F, decide (bt s 6 = 1) = F := ⟨_, rfl⟩
  rw [hV, hF] at RD
  replace RD := Lib.hid RD
  have HVF := Lib.hid (And.intro hV hF)
  clear hV hF
  have IP := isProto10_any (bt s 3)
  have HX : Hid (Held w.heap.size w.heap.size 24 #[.bool false, .int .i64 0, .int .u64 0, .bool false, .int .i64 0] w (w.alloc (.cells #[.bool false, .int .i64 0, .int .u64 0, .bool false, .int .i64 0] 24))) := Lib.hid ⟨HasB.new w _ _, (Below.refl _ _).alloc (Nat.le_refl _) _, by simp⟩
  by_cases h1 : bt s 0 = 71 ∧ bt s 1 = 85 ∧ bt s 2 = 1
  · rw [decide_eq_true h1] at hm
    by_cases h2 : bt s 3 = 4 ∨ bt s 3 = 41
    · have h3 : 1 < bt s 6 := by
        unfold form10 at h
        rw [decide_eq_true h1, decide_eq_true h2] at h
        simpa using h
      have v3 : (1 : Int) < (bt s 6 : Nat) := by omega
      rw [decide_eq_true h2] at IP
      replace IP := Lib.hid IP
      clear h h0 h1 h2 h3
      (go_enter Try.func8, Try.ntmps8; go_wp2_with (first | (go_at_call 17; (with_reducible refine (RD.out _).mono ?_); rintro e wa ⟨rfl, hb⟩; have hza := (HX.out.next hb).1.lt; replace HX := Lib.hid ((HX.out.next hb).allocG (.cells #[.string (s.extract 0 3), .int .i64 (bt s 3 : Nat), .int .i64 (bt s 6 : Nat), .bool V, .int .i64 (wt s 4 : Nat), .int .u64 (seg s 10 8 : Nat), .bool F, .int .i64 (bt s 7 : Nat)] 40)); have HF := Lib.hid (HasB.new wa 40 #[.string (s.extract 0 3), .int .i64 (bt s 3 : Nat), .int .i64 (bt s 6 : Nat), .bool V, .int .i64 (wt s 4 : Nat), .int .u64 (seg s 10 8 : Nat), .bool F, .int .i64 (bt s 7 : Nat)]); clear hb; (have c0 := HasB.cell HF.out 0 (.string (s.extract 0 3)) rfl; have c1 := HasB.cell HF.out 1 (.int .i64 (bt s 3 : Nat)) rfl; have c2 := HasB.cell HF.out 2 (.int .i64 (bt s 6 : Nat)) rfl; have c3 := HasB.cell HF.out 3 (.bool V) rfl; have c4 := HasB.cell HF.out 4 (.int .i64 (wt s 4 : Nat)) rfl; have c5 := HasB.cell HF.out 5 (.int .u64 (seg s 10 8 : Nat)) rfl; have c6 := HasB.cell HF.out 6 (.bool F) rfl; have c7 := HasB.cell HF.out 7 (.int .i64 (bt s 7 : Nat)) rfl; have hro := HasB.rowOk HX.out.1 (n := 5) rfl)) | (go_at_call 18; (with_reducible refine (IP.out _).mono ?_); rintro e wp ⟨rfl, rfl⟩) | fail | fail))
      (have HW := HasB.setRow HX.out.1 #[.bool false, .int .i64 0, .int .u64 0, .bool false, .int .i64 0]; have HL := below_setRow HX.out.2.1 (Nat.le_refl _) #[.bool false, .int .i64 0, .int .u64 0, .bool false, .int .i64 0]; (try simp only [Exit.inBlock, Exit.then]); refine bodyPost_ret (v := .tuple #[.agg #[.bool false, .int .i64 0, .int .u64 0, .bool false, .int .i64 0], .string ⟨#[]⟩, .int .i64 3]) (results_cell3 Try.results8 _ _ w.heap.size _ _ rfl HW Try.underlying24 infoCV rfl rfl) rfl ⟨rfl, HL⟩)
    · rw [decide_eq_false h2] at IP
      replace IP := Lib.hid IP
      clear h h0 h1 h2
      (go_enter Try.func8, Try.ntmps8; go_wp2_with (first | (go_at_call 17; (with_reducible refine (RD.out _).mono ?_); rintro e wa ⟨rfl, hb⟩; have hza := (HX.out.next hb).1.lt; replace HX := Lib.hid ((HX.out.next hb).allocG (.cells #[.string (s.extract 0 3), .int .i64 (bt s 3 : Nat), .int .i64 (bt s 6 : Nat), .bool V, .int .i64 (wt s 4 : Nat), .int .u64 (seg s 10 8 : Nat), .bool F, .int .i64 (bt s 7 : Nat)] 40)); have HF := Lib.hid (HasB.new wa 40 #[.string (s.extract 0 3), .int .i64 (bt s 3 : Nat), .int .i64 (bt s 6 : Nat), .bool V, .int .i64 (wt s 4 : Nat), .int .u64 (seg s 10 8 : Nat), .bool F, .int .i64 (bt s 7 : Nat)]); clear hb; (have c0 := HasB.cell HF.out 0 (.string (s.extract 0 3)) rfl; have c1 := HasB.cell HF.out 1 (.int .i64 (bt s 3 : Nat)) rfl; have c2 := HasB.cell HF.out 2 (.int .i64 (bt s 6 : Nat)) rfl; have c3 := HasB.cell HF.out 3 (.bool V) rfl; have c4 := HasB.cell HF.out 4 (.int .i64 (wt s 4 : Nat)) rfl; have c5 := HasB.cell HF.out 5 (.int .u64 (seg s 10 8 : Nat)) rfl; have c6 := HasB.cell HF.out 6 (.bool F) rfl; have c7 := HasB.cell HF.out 7 (.int .i64 (bt s 7 : Nat)) rfl; have hro := HasB.rowOk HX.out.1 (n := 5) rfl)) | (go_at_call 18; (with_reducible refine (IP.out _).mono ?_); rintro e wp ⟨rfl, rfl⟩) | fail | fail))
      (have HW := HasB.setRow HX.out.1 #[.bool false, .int .i64 0, .int .u64 0, .bool false, .int .i64 0]; have HL := below_setRow HX.out.2.1 (Nat.le_refl _) #[.bool false, .int .i64 0, .int .u64 0, .bool false, .int .i64 0]; (try simp only [Exit.inBlock, Exit.then]); refine bodyPost_ret (v := .tuple #[.agg #[.bool false, .int .i64 0, .int .u64 0, .bool false, .int .i64 0], .string ⟨#[]⟩, .int .i64 3]) (results_cell3 Try.results8 _ _ w.heap.size _ _ rfl HW Try.underlying24 infoCV rfl rfl) rfl ⟨rfl, HL⟩)
  · rw [decide_eq_false h1] at hm
    replace IP := Lib.hid IP
    clear h h0 h1
    (go_enter Try.func8, Try.ntmps8; go_wp2_with (first | (go_at_call 17; (with_reducible refine (RD.out _).mono ?_); rintro e wa ⟨rfl, hb⟩; have hza := (HX.out.next hb).1.lt; replace HX := Lib.hid ((HX.out.next hb).allocG (.cells #[.string (s.extract 0 3), .int .i64 (bt s 3 : Nat), .int .i64 (bt s 6 : Nat), .bool V, .int .i64 (wt s 4 : Nat), .int .u64 (seg s 10 8 : Nat), .bool F, .int .i64 (bt s 7 : Nat)] 40)); have HF := Lib.hid (HasB.new wa 40 #[.string (s.extract 0 3), .int .i64 (bt s 3 : Nat), .int .i64 (bt s 6 : Nat), .bool V, .int .i64 (wt s 4 : Nat), .int .u64 (seg s 10 8 : Nat), .bool F, .int .i64 (bt s 7 : Nat)]); clear hb; (have c0 := HasB.cell HF.out 0 (.string (s.extract 0 3)) rfl; have c1 := HasB.cell HF.out 1 (.int .i64 (bt s 3 : Nat)) rfl; have c2 := HasB.cell HF.out 2 (.int .i64 (bt s 6 : Nat)) rfl; have c3 := HasB.cell HF.out 3 (.bool V) rfl; have c4 := HasB.cell HF.out 4 (.int .i64 (wt s 4 : Nat)) rfl; have c5 := HasB.cell HF.out 5 (.int .u64 (seg s 10 8 : Nat)) rfl; have c6 := HasB.cell HF.out 6 (.bool F) rfl; have c7 := HasB.cell HF.out 7 (.int .i64 (bt s 7 : Nat)) rfl; have hro := HasB.rowOk HX.out.1 (n := 5) rfl)) | (go_at_call 18; (with_reducible refine (IP.out _).mono ?_); rintro e wp ⟨rfl, rfl⟩) | fail | fail))
    (have HW := HasB.setRow HX.out.1 #[.bool false, .int .i64 0, .int .u64 0, .bool false, .int .i64 0]; have HL := below_setRow HX.out.2.1 (Nat.le_refl _) #[.bool false, .int .i64 0, .int .u64 0, .bool false, .int .i64 0]; (try simp only [Exit.inBlock, Exit.then]); refine bodyPost_ret (v := .tuple #[.agg #[.bool false, .int .i64 0, .int .u64 0, .bool false, .int .i64 0], .string ⟨#[]⟩, .int .i64 3]) (results_cell3 Try.results8 _ _ w.heap.size _ _ rfl HW Try.underlying24 infoCV rfl rfl) rfl ⟨rfl, HL⟩)
set_option maxHeartbeats 4000000 in
theorem get10_long (s : ByteArray) (hs : s.size ≤ 1000000) (w : World) (h0 : 18 ≤ s.size) (h : form10 s = true) (hl : 9018 < s.size) : Calls Try.prog 8 #[.string s] w fun e w' => e = .returned (.tuple #[.agg #[.bool (coverG s).v6, .int .i64 (coverG s).bk, .int .u64 (coverG s).ck, .bool (coverG s).fi, .int .i64 (coverG s).ins], .string (payG10 s), .int .i64 (errG10 s)]) ∧ Below w.heap.size w w' := by
  have he : errG10 s = 5 := by unfold errG10; rw [if_neg (by omega), if_neg (by simp [h]), if_pos hl]
  obtain ⟨hh, hp⟩ := coverG_no (s := s) (by omega)
  rw [hh, hp, he]
  show Calls _ _ _ _ fun e' w' => e' = .returned (.tuple #[.agg #[.bool false, .int .i64 0, .int .u64 0, .bool false, .int .i64 0], .string ⟨#[]⟩, .int .i64 5]) ∧ Below w.heap.size w w'
  clear he hh hp
  obtain ⟨h1, h2, h3⟩ := R10.form_is h
  have v1 : ¬ (s.size : Int) < 18 := by omega
  have j18 : (18 : Int) ≤ s.size := by omega
  have hm := R10.magic (s := s) (by omega)
  have RD := read10_at s h0
  obtain ⟨V, hV⟩ : ∃ V, decide (bt s 3 = 41) = V := ⟨_, rfl⟩
  obtain ⟨F, hF⟩ : ∃ F, decide (bt s 6 = 1) = F := ⟨_, rfl⟩
  rw [hV, hF] at RD
  replace RD := Lib.hid RD
  have HVF := Lib.hid (And.intro hV hF)
  clear hV hF
  have IP := isProto10_any (bt s 3)
  have HX : Hid (Held w.heap.size w.heap.size 24 #[.bool false, .int .i64 0, .int .u64 0, .bool false, .int .i64 0] w (w.alloc (.cells #[.bool false, .int .i64 0, .int .u64 0, .bool false, .int .i64 0] 24))) := Lib.hid ⟨HasB.new w _ _, (Below.refl _ _).alloc (Nat.le_refl _) _, by simp⟩
  rw [decide_eq_true h1] at hm
  rw [decide_eq_true h2] at IP
  replace IP := Lib.hid IP
  have v3 : ¬ (1 : Int) < (bt s 6 : Nat) := by omega
  have zt : (s.extract 18 s.size).size = s.size - 18 := by rw [ByteArray.size_extract]; omega
  have v5 : (9000 : Int) < ((s.extract 18 s.size).size : Nat) := by rw [zt]; omega
  clear h h0 h1 h2 h3 hl
  (go_enter Try.func8, Try.ntmps8; go_wp2_with (first | (go_at_call 17; (with_reducible refine (RD.out _).mono ?_); rintro e wa ⟨rfl, hb⟩; have hza := (HX.out.next hb).1.lt; replace HX := Lib.hid ((HX.out.next hb).allocG (.cells #[.string (s.extract 0 3), .int .i64 (bt s 3 : Nat), .int .i64 (bt s 6 : Nat), .bool V, .int .i64 (wt s 4 : Nat), .int .u64 (seg s 10 8 : Nat), .bool F, .int .i64 (bt s 7 : Nat)] 40)); have HF := Lib.hid (HasB.new wa 40 #[.string (s.extract 0 3), .int .i64 (bt s 3 : Nat), .int .i64 (bt s 6 : Nat), .bool V, .int .i64 (wt s 4 : Nat), .int .u64 (seg s 10 8 : Nat), .bool F, .int .i64 (bt s 7 : Nat)]); clear hb; (have c0 := HasB.cell HF.out 0 (.string (s.extract 0 3)) rfl; have c1 := HasB.cell HF.out 1 (.int .i64 (bt s 3 : Nat)) rfl; have c2 := HasB.cell HF.out 2 (.int .i64 (bt s 6 : Nat)) rfl; have c3 := HasB.cell HF.out 3 (.bool V) rfl; have c4 := HasB.cell HF.out 4 (.int .i64 (wt s 4 : Nat)) rfl; have c5 := HasB.cell HF.out 5 (.int .u64 (seg s 10 8 : Nat)) rfl; have c6 := HasB.cell HF.out 6 (.bool F) rfl; have c7 := HasB.cell HF.out 7 (.int .i64 (bt s 7 : Nat)) rfl; have hro := HasB.rowOk HX.out.1 (n := 5) rfl)) | (go_at_call 18; (with_reducible refine (IP.out _).mono ?_); rintro e wp ⟨rfl, rfl⟩) | fail | fail))
  (have HW := HasB.setRow HX.out.1 #[.bool false, .int .i64 0, .int .u64 0, .bool false, .int .i64 0]; have HL := below_setRow HX.out.2.1 (Nat.le_refl _) #[.bool false, .int .i64 0, .int .u64 0, .bool false, .int .i64 0]; (try simp only [Exit.inBlock, Exit.then]); refine bodyPost_ret (v := .tuple #[.agg #[.bool false, .int .i64 0, .int .u64 0, .bool false, .int .i64 0], .string ⟨#[]⟩, .int .i64 5]) (results_cell3 Try.results8 _ _ w.heap.size _ _ rfl HW Try.underlying24 infoCV rfl rfl) rfl ⟨rfl, HL⟩)
set_option maxHeartbeats 4000000 in
theorem get10_sum (s : ByteArray) (hs : s.size ≤ 1000000) (w : World) (h0 : 18 ≤ s.size) (h : form10 s = true) (hl : s.size ≤ 9018) (h4 : sumL (s.data.toList.take 18) ≠ 65535) : Calls Try.prog 8 #[.string s] w fun e w' => e = .returned (.tuple #[.agg #[.bool (coverG s).v6, .int .i64 (coverG s).bk, .int .u64 (coverG s).ck, .bool (coverG s).fi, .int .i64 (coverG s).ins], .string (payG10 s), .int .i64 (errG10 s)]) ∧ Below w.heap.size w w' := by
  have he : errG10 s = 4 := by unfold errG10; rw [if_neg (by omega), if_neg (by simp [h]), if_neg (by omega), if_pos h4]
  obtain ⟨hh, hp⟩ := coverG_no (s := s) (by omega)
  rw [hh, hp, he]
  show Calls _ _ _ _ fun e' w' => e' = .returned (.tuple #[.agg #[.bool false, .int .i64 0, .int .u64 0, .bool false, .int .i64 0], .string ⟨#[]⟩, .int .i64 4]) ∧ Below w.heap.size w w'
  clear he hh hp
  obtain ⟨h1, h2, h3⟩ := R10.form_is h
  have v1 : ¬ (s.size : Int) < 18 := by omega
  have j18 : (18 : Int) ≤ s.size := by omega
  have hm := R10.magic (s := s) (by omega)
  have RD := read10_at s h0
  obtain ⟨V, hV⟩ : ∃ V, decide (bt s 3 = 41) = V := ⟨_, rfl⟩
  obtain ⟨F, hF⟩ : ∃ F, decide (bt s 6 = 1) = F := ⟨_, rfl⟩
  rw [hV, hF] at RD
  replace RD := Lib.hid RD
  have HVF := Lib.hid (And.intro hV hF)
  clear hV hF
  have IP := isProto10_any (bt s 3)
  have HX : Hid (Held w.heap.size w.heap.size 24 #[.bool false, .int .i64 0, .int .u64 0, .bool false, .int .i64 0] w (w.alloc (.cells #[.bool false, .int .i64 0, .int .u64 0, .bool false, .int .i64 0] 24))) := Lib.hid ⟨HasB.new w _ _, (Below.refl _ _).alloc (Nat.le_refl _) _, by simp⟩
  rw [decide_eq_true h1] at hm
  rw [decide_eq_true h2] at IP
  replace IP := Lib.hid IP
  have v3 : ¬ (1 : Int) < (bt s 6 : Nat) := by omega
  have zt : (s.extract 18 s.size).size = s.size - 18 := by rw [ByteArray.size_extract]; omega
  have SM := rightS_any (s.extract 0 18) (by rw [ByteArray.size_extract]; omega)
  rw [ext_str', List.drop_zero, show (18 : Nat) - 0 = 18 from rfl] at SM
  have v5 : ¬ (9000 : Int) < ((s.extract 18 s.size).size : Nat) := by rw [zt]; omega
  rw [show (((sumL (s.data.toList.take 18) : Nat) : Int) == 65535) = false by simp; omega] at SM
  replace SM := Lib.hid SM
  clear h h0 h1 h2 h3 h4 hl
  (go_enter Try.func8, Try.ntmps8; go_wp2_with (first | (go_at_call 17; (with_reducible refine (RD.out _).mono ?_); rintro e wa ⟨rfl, hb⟩; have hza := (HX.out.next hb).1.lt; replace HX := Lib.hid ((HX.out.next hb).allocG (.cells #[.string (s.extract 0 3), .int .i64 (bt s 3 : Nat), .int .i64 (bt s 6 : Nat), .bool V, .int .i64 (wt s 4 : Nat), .int .u64 (seg s 10 8 : Nat), .bool F, .int .i64 (bt s 7 : Nat)] 40)); have HF := Lib.hid (HasB.new wa 40 #[.string (s.extract 0 3), .int .i64 (bt s 3 : Nat), .int .i64 (bt s 6 : Nat), .bool V, .int .i64 (wt s 4 : Nat), .int .u64 (seg s 10 8 : Nat), .bool F, .int .i64 (bt s 7 : Nat)]); clear hb; (have c0 := HasB.cell HF.out 0 (.string (s.extract 0 3)) rfl; have c1 := HasB.cell HF.out 1 (.int .i64 (bt s 3 : Nat)) rfl; have c2 := HasB.cell HF.out 2 (.int .i64 (bt s 6 : Nat)) rfl; have c3 := HasB.cell HF.out 3 (.bool V) rfl; have c4 := HasB.cell HF.out 4 (.int .i64 (wt s 4 : Nat)) rfl; have c5 := HasB.cell HF.out 5 (.int .u64 (seg s 10 8 : Nat)) rfl; have c6 := HasB.cell HF.out 6 (.bool F) rfl; have c7 := HasB.cell HF.out 7 (.int .i64 (bt s 7 : Nat)) rfl; have hro := HasB.rowOk HX.out.1 (n := 5) rfl)) | (go_at_call 18; (with_reducible refine (IP.out _).mono ?_); rintro e wp ⟨rfl, rfl⟩) | (go_at_call 19; (with_reducible refine (SM.out _).mono ?_); rintro e wc ⟨rfl, hb⟩; replace HF := Lib.hid (HasB.below HF.out hb HF.out.lt); replace HX := Lib.hid (HX.out.next hb); clear hb c0 c1 c2 c3 c4 c5 c6 c7 hro; (have c0 := HasB.cell HF.out 0 (.string (s.extract 0 3)) rfl; have c1 := HasB.cell HF.out 1 (.int .i64 (bt s 3 : Nat)) rfl; have c2 := HasB.cell HF.out 2 (.int .i64 (bt s 6 : Nat)) rfl; have c3 := HasB.cell HF.out 3 (.bool V) rfl; have c4 := HasB.cell HF.out 4 (.int .i64 (wt s 4 : Nat)) rfl; have c5 := HasB.cell HF.out 5 (.int .u64 (seg s 10 8 : Nat)) rfl; have c6 := HasB.cell HF.out 6 (.bool F) rfl; have c7 := HasB.cell HF.out 7 (.int .i64 (bt s 7 : Nat)) rfl; have hro := HasB.rowOk HX.out.1 (n := 5) rfl)) | fail))
  (have HW := HasB.setRow HX.out.1 #[.bool false, .int .i64 0, .int .u64 0, .bool false, .int .i64 0]; have HL := below_setRow HX.out.2.1 (Nat.le_refl _) #[.bool false, .int .i64 0, .int .u64 0, .bool false, .int .i64 0]; (try simp only [Exit.inBlock, Exit.then]); refine bodyPost_ret (v := .tuple #[.agg #[.bool false, .int .i64 0, .int .u64 0, .bool false, .int .i64 0], .string ⟨#[]⟩, .int .i64 4]) (results_cell3 Try.results8 _ _ w.heap.size _ _ rfl HW Try.underlying24 infoCV rfl rfl) rfl ⟨rfl, HL⟩)
set_option maxHeartbeats 4000000 in
theorem get10_ok (s : ByteArray) (hs : s.size ≤ 1000000) (w : World) (he : errG10 s = 0) : Calls Try.prog 8 #[.string s] w fun e w' => e = .returned (.tuple #[.agg #[.bool (coverG s).v6, .int .i64 (coverG s).bk, .int .u64 (coverG s).ck, .bool (coverG s).fi, .int .i64 (coverG s).ins], .string (payG10 s), .int .i64 (errG10 s)]) ∧ Below w.heap.size w w' := by
  obtain ⟨h0, h, hl, h4⟩ := errG10_ok he
  have hh : coverG s = rawC s := if_pos he
  have hp : payG10 s = s.extract 18 s.size := if_pos he
  rw [hh, hp, he]
  clear he hh hp
  obtain ⟨h1, h2, h3⟩ := R10.form_is h
  have v1 : ¬ (s.size : Int) < 18 := by omega
  have j18 : (18 : Int) ≤ s.size := by omega
  have hm := R10.magic (s := s) (by omega)
  have RD := read10_at s h0
  obtain ⟨V, hV⟩ : ∃ V, decide (bt s 3 = 41) = V := ⟨_, rfl⟩
  obtain ⟨F, hF⟩ : ∃ F, decide (bt s 6 = 1) = F := ⟨_, rfl⟩
  rw [hV, hF] at RD
  replace RD := Lib.hid RD
  have HVF := Lib.hid (And.intro hV hF)
  clear hV hF
  have IP := isProto10_any (bt s 3)
  have HX : Hid (Held w.heap.size w.heap.size 24 #[.bool false, .int .i64 0, .int .u64 0, .bool false, .int .i64 0] w (w.alloc (.cells #[.bool false, .int .i64 0, .int .u64 0, .bool false, .int .i64 0] 24))) := Lib.hid ⟨HasB.new w _ _, (Below.refl _ _).alloc (Nat.le_refl _) _, by simp⟩
  rw [decide_eq_true h1] at hm
  rw [decide_eq_true h2] at IP
  replace IP := Lib.hid IP
  have v3 : ¬ (1 : Int) < (bt s 6 : Nat) := by omega
  have zt : (s.extract 18 s.size).size = s.size - 18 := by rw [ByteArray.size_extract]; omega
  have SM := rightS_any (s.extract 0 18) (by rw [ByteArray.size_extract]; omega)
  rw [ext_str', List.drop_zero, show (18 : Nat) - 0 = 18 from rfl] at SM
  have v5 : ¬ (9000 : Int) < ((s.extract 18 s.size).size : Nat) := by rw [zt]; omega
  rw [show (((sumL (s.data.toList.take 18) : Nat) : Int) == 65535) = true by simp; omega] at SM
  replace SM := Lib.hid SM
  unfold rawC
  rw [HVF.out.1, HVF.out.2]
  dsimp only
  clear h h0 h1 h2 h3 h4 hl
  (go_enter Try.func8, Try.ntmps8; go_wp2_with (first | (go_at_call 17; (with_reducible refine (RD.out _).mono ?_); rintro e wa ⟨rfl, hb⟩; have hza := (HX.out.next hb).1.lt; replace HX := Lib.hid ((HX.out.next hb).allocG (.cells #[.string (s.extract 0 3), .int .i64 (bt s 3 : Nat), .int .i64 (bt s 6 : Nat), .bool V, .int .i64 (wt s 4 : Nat), .int .u64 (seg s 10 8 : Nat), .bool F, .int .i64 (bt s 7 : Nat)] 40)); have HF := Lib.hid (HasB.new wa 40 #[.string (s.extract 0 3), .int .i64 (bt s 3 : Nat), .int .i64 (bt s 6 : Nat), .bool V, .int .i64 (wt s 4 : Nat), .int .u64 (seg s 10 8 : Nat), .bool F, .int .i64 (bt s 7 : Nat)]); clear hb; (have c0 := HasB.cell HF.out 0 (.string (s.extract 0 3)) rfl; have c1 := HasB.cell HF.out 1 (.int .i64 (bt s 3 : Nat)) rfl; have c2 := HasB.cell HF.out 2 (.int .i64 (bt s 6 : Nat)) rfl; have c3 := HasB.cell HF.out 3 (.bool V) rfl; have c4 := HasB.cell HF.out 4 (.int .i64 (wt s 4 : Nat)) rfl; have c5 := HasB.cell HF.out 5 (.int .u64 (seg s 10 8 : Nat)) rfl; have c6 := HasB.cell HF.out 6 (.bool F) rfl; have c7 := HasB.cell HF.out 7 (.int .i64 (bt s 7 : Nat)) rfl; have hro := HasB.rowOk HX.out.1 (n := 5) rfl)) | (go_at_call 18; (with_reducible refine (IP.out _).mono ?_); rintro e wp ⟨rfl, rfl⟩) | (go_at_call 19; (with_reducible refine (SM.out _).mono ?_); rintro e wc ⟨rfl, hb⟩; replace HF := Lib.hid (HasB.below HF.out hb HF.out.lt); replace HX := Lib.hid (HX.out.next hb); clear hb c0 c1 c2 c3 c4 c5 c6 c7 hro; (have c0 := HasB.cell HF.out 0 (.string (s.extract 0 3)) rfl; have c1 := HasB.cell HF.out 1 (.int .i64 (bt s 3 : Nat)) rfl; have c2 := HasB.cell HF.out 2 (.int .i64 (bt s 6 : Nat)) rfl; have c3 := HasB.cell HF.out 3 (.bool V) rfl; have c4 := HasB.cell HF.out 4 (.int .i64 (wt s 4 : Nat)) rfl; have c5 := HasB.cell HF.out 5 (.int .u64 (seg s 10 8 : Nat)) rfl; have c6 := HasB.cell HF.out 6 (.bool F) rfl; have c7 := HasB.cell HF.out 7 (.int .i64 (bt s 7 : Nat)) rfl; have hro := HasB.rowOk HX.out.1 (n := 5) rfl)) | fail))
  have HW := HasB.setRow HX.out.1 #[.bool (V), .int .i64 ((wt s 4 : Nat)), .int .u64 ((seg s 10 8 : Nat)), .bool (F), .int .i64 ((bt s 7 : Nat))]
  have HL := below_setRow HX.out.2.1 (Nat.le_refl _) #[.bool (V), .int .i64 ((wt s 4 : Nat)), .int .u64 ((seg s 10 8 : Nat)), .bool (F), .int .i64 ((bt s 7 : Nat))]
  (try simp only [Exit.inBlock, Exit.then]); refine bodyPost_ret (v := .tuple #[.agg #[.bool (V), .int .i64 ((wt s 4 : Nat)), .int .u64 ((seg s 10 8 : Nat)), .bool (F), .int .i64 ((bt s 7 : Nat))], .string (s.extract 18 s.size), .int .i64 0]) (results_cell3 Try.results8 _ _ w.heap.size _ _ rfl HW Try.underlying24 infoCV rfl rfl) rfl ⟨rfl, HL⟩
theorem get10_any (s : ByteArray) (hs : s.size ≤ 1000000) (w : World) : Calls Try.prog 8 #[.string s] w fun e w' => e = .returned (.tuple #[.agg #[.bool (coverG s).v6, .int .i64 (coverG s).bk, .int .u64 (coverG s).ck, .bool (coverG s).fi, .int .i64 (coverG s).ins], .string (payG10 s), .int .i64 (errG10 s)]) ∧ Below w.heap.size w w' := by
  by_cases h0 : s.size < 18
  · exact get10_short s hs w h0
  · cases h : form10 s with
    | false => exact get10_form s hs w (by omega) h
    | true =>
      by_cases hl : 9018 < s.size
      · exact get10_long s hs w (by omega) h hl
      · by_cases h4 : sumL (s.data.toList.take 18) = 65535
        · exact get10_ok s hs w (errG10_is (by omega) h (by omega) h4)
        · exact get10_sum s hs w (by omega) h (by omega) h4
end Go.Proofs.Ytklilelbebhinaa
