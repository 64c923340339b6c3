/- The contract of cloakroomref06: Get. -/
import Derived.Test.YtnlinfdfgalmjaaRef04Bytes
import Derived.Test.YtnlinfdfgalmjaaSixCells
import Derived.Test.YtnlinfdfgalmjaaSixGet
import Derived.BigQuiet
import Derived.BigRegion
namespace Go.Proofs.Ytnlinfdfgalmjaa.R06
open Go.RowKit
set_option linter.unusedVariables false
attribute [local go_sem ↓] ldH6 stH6 ldR6 stR6
attribute [local go_sem] rowAt_p rowOkAt_p setAt_p aggOf_a rowOk_new rowOf_new setRow_new agg10 aggH6

theorem must_seg (s : ByteArray) (p k : Nat) (i j : Int) (hi : i = p) (hj : j = k) (hs : s.size ≤ maxLen) (h : p + k ≤ s.size) (h1 : 1 ≤ k) (h7 : k ≤ 7) (w : World) :
    Calls Try.prog 22 #[.string s, .int .i64 i, .int .i64 j] w fun e w' => e = .returned (.int .i64 (seg s p k : Nat)) ∧ w = w' := by
  subst hi hj
  have h2 := R02.must_any s p k hs (by unfold maxLen at hs; omega) (by omega) w
  have h3 := seg_lt s p k
  have h4 : (256 : Nat) ^ k ≤ 256 ^ 7 := Nat.pow_le_pow_right (by decide) h7
  rw [getN_yes (by omega) (by omega) (by omega) (by omega), Int.toNat_natCast, Int.toNat_natCast] at h2
  unfold seg at h3 ⊢
  have h5 : wrap64 (numB ((s.data.toList.drop p).take k) : Nat) = (numB ((s.data.toList.drop p).take k) : Nat) := by unfold wrap64; omega
  rw [h5] at h2
  exact h2
theorem wrap_in (x : Int) (h : -9223372036854775808 ≤ x ∧ x < 9223372036854775808) : wrap64 x = x := by unfold wrap64; omega
theorem getH_at (s : ByteArray) (p : Nat) (h : p + 16 ≤ s.size) (w : World) :
    Calls Try.prog 23 #[.string (s.extract p (p + 16))] w fun e w' => e = .returned (.tuple #[.agg #[.bool true, .int .u64 (seg s p 8 : Nat), .int .u64 (seg s (p + 8) 8 : Nat)], .bool (gOk (s.extract p (p + 16)).data.toList)]) ∧ Below w.heap.size w w' := by
  have h1 := R04.get_addr (s.extract p (p + 16)) (by rw [ByteArray.size_extract]; unfold maxLen; omega) w
  obtain ⟨e1, e2, e3⟩ := high_addr s p h
  rw [e1, e2, e3] at h1
  exact h1
theorem bt_at (s : ByteArray) (i : Nat) (h : i < s.size) : (s[i]'h).toNat = bt s i := by
  unfold bt
  rw [List.getD_eq_getElem?_getD, List.getElem?_eq_getElem (by rw [← size_list]; omega)]; rfl
theorem get6_short (s : ByteArray) (hs : s.size ≤ 1099511627776) (w : World) (h : s.size < 40) :
    Calls Try.prog 10 #[.string s] w fun e w' => e = .returned (.tuple #[.agg #[.int .i64 (headG6 s).cl, .int .i64 (headG6 s).lb, .int .i64 (headG6 s).nx, .int .i64 (headG6 s).hp, .bool (headG6 s).sv, .int .u64 (headG6 s).sh, .int .u64 (headG6 s).sl, .bool (headG6 s).dv, .int .u64 (headG6 s).dh, .int .u64 (headG6 s).dl], .string (payG6 s), .int .i64 (errG6 s)]) ∧ Below w.heap.size w w' := by
  have he : errG6 s = 2 := by unfold errG6; rw [if_pos h]
  obtain ⟨hh, hp⟩ := headG6_no he (by omega)
  rw [hh, hp, he]
  show Calls _ _ _ _ fun e' w' => e' = .returned (.tuple #[.agg #[.int .i64 0, .int .i64 0, .int .i64 0, .int .i64 0, .bool false, .int .u64 0, .int .u64 0, .bool false, .int .u64 0, .int .u64 0], .string ⟨#[]⟩, .int .i64 2]) ∧ Below w.heap.size w w'
  clear he hh hp
  have h40 : (s.size : Int) < 40 := by omega
  have HW := HasB.new w 26 #[.int .i64 0, .int .i64 0, .int .i64 0, .int .i64 0, .bool false, .int .u64 0, .int .u64 0, .bool false, .int .u64 0, .int .u64 0]
  have HL : Below w.heap.size w (w.alloc (.cells #[.int .i64 0, .int .i64 0, .int .i64 0, .int .i64 0, .bool false, .int .u64 0, .int .u64 0, .bool false, .int .u64 0, .int .u64 0] 26)) := (Below.refl _ _).alloc (Nat.le_refl _) _
  go_enter Try.func10, Try.ntmps10
  go_wp2_with fail
  (try simp only [Exit.inBlock, Exit.then]); refine bodyPost_ret (v := .tuple #[.agg #[.int .i64 0, .int .i64 0, .int .i64 0, .int .i64 0, .bool false, .int .u64 0, .int .u64 0, .bool false, .int .u64 0, .int .u64 0], .string ⟨#[]⟩, .int .i64 2]) (results_cell3 Try.results10 _ _ w.heap.size _ _ rfl HW Try.underlying26 infoR6 rfl rfl) rfl ⟨rfl, HL⟩
theorem get6_form (s : ByteArray) (hs : s.size ≤ 1099511627776) (w : World) (h1 : 40 ≤ s.size) (h : ¬ seg s 0 4 / 268435456 = 6) :
    Calls Try.prog 10 #[.string s] w fun e w' => e = .returned (.tuple #[.agg #[.int .i64 (headG6 s).cl, .int .i64 (headG6 s).lb, .int .i64 (headG6 s).nx, .int .i64 (headG6 s).hp, .bool (headG6 s).sv, .int .u64 (headG6 s).sh, .int .u64 (headG6 s).sl, .bool (headG6 s).dv, .int .u64 (headG6 s).dh, .int .u64 (headG6 s).dl], .string (payG6 s), .int .i64 (errG6 s)]) ∧ Below w.heap.size w w' := by
  have he : errG6 s = 3 := by unfold errG6; rw [if_neg (by omega), if_pos h]
  obtain ⟨hh, hp⟩ := headG6_no he (by omega)
  rw [hh, hp, he]
  show Calls _ _ _ _ fun e' w' => e' = .returned (.tuple #[.agg #[.int .i64 0, .int .i64 0, .int .i64 0, .int .i64 0, .bool false, .int .u64 0, .int .u64 0, .bool false, .int .u64 0, .int .u64 0], .string ⟨#[]⟩, .int .i64 3]) ∧ Below w.heap.size w w'
  clear he hh hp
  obtain ⟨F, hF⟩ : ∃ F, seg s 0 4 = F := ⟨_, rfl⟩
  have v1 : ((F : Int) / 268435456 != 6) = true := by rw [hF] at h; simp; omega
  clear h
  have h40i : ¬ (s.size : Int) < 40 := by omega
  have hm : s.size ≤ maxLen := by unfold maxLen; omega
  have HM1 := Lib.hid (must_seg s 0 4 0 4 rfl rfl hm (by omega) (by omega) (by omega))
  have HM2 := Lib.hid (must_seg s 4 2 4 2 rfl rfl hm (by omega) (by omega) (by omega))
  rw [show seg s 4 2 = wt s 4 from wt_num s 4 (by omega)] at HM2
  rw [hF] at HM1
  have HW := HasB.new w 26 #[.int .i64 0, .int .i64 0, .int .i64 0, .int .i64 0, .bool false, .int .u64 0, .int .u64 0, .bool false, .int .u64 0, .int .u64 0]
  have HL : Below w.heap.size w (w.alloc (.cells #[.int .i64 0, .int .i64 0, .int .i64 0, .int .i64 0, .bool false, .int .u64 0, .int .u64 0, .bool false, .int .u64 0, .int .u64 0] 26)) := (Below.refl _ _).alloc (Nat.le_refl _) _
  have sb : IntKind.i64.wrap ((s.size : Int) - 40) = (s.size : Int) - 40 := IntWalk.i64_in _ (by omega)
  have wq : wrap64 ((F : Int) / 268435456) = (F : Int) / 268435456 := wrap_in _ (by have := seg_lt s 0 4; omega)
  clear hF
  go_enter Try.func10, Try.ntmps10
  go_wp2_with (first | (go_at_call 22; (with_reducible refine (HM1.out _).mono ?_); rintro e w1 ⟨rfl, rfl⟩) | (go_at_call 22; (with_reducible refine (HM2.out _).mono ?_); rintro e w1 ⟨rfl, rfl⟩) | fail)
  (try simp only [Exit.inBlock, Exit.then]); refine bodyPost_ret (v := .tuple #[.agg #[.int .i64 0, .int .i64 0, .int .i64 0, .int .i64 0, .bool false, .int .u64 0, .int .u64 0, .bool false, .int .u64 0, .int .u64 0], .string ⟨#[]⟩, .int .i64 3]) (results_cell3 Try.results10 _ _ w.heap.size _ _ rfl HW Try.underlying26 infoR6 rfl rfl) rfl ⟨rfl, HL⟩
theorem get6_cut (s : ByteArray) (hs : s.size ≤ 1099511627776) (w : World) (h1 : 40 ≤ s.size) (h : seg s 0 4 / 268435456 = 6) (h3 : s.size < 40 + wt s 4) :
    Calls Try.prog 10 #[.string s] w fun e w' => e = .returned (.tuple #[.agg #[.int .i64 (headG6 s).cl, .int .i64 (headG6 s).lb, .int .i64 (headG6 s).nx, .int .i64 (headG6 s).hp, .bool (headG6 s).sv, .int .u64 (headG6 s).sh, .int .u64 (headG6 s).sl, .bool (headG6 s).dv, .int .u64 (headG6 s).dh, .int .u64 (headG6 s).dl], .string (payG6 s), .int .i64 (errG6 s)]) ∧ Below w.heap.size w w' := by
  have he : errG6 s = 2 := by unfold errG6; rw [if_neg (by omega), if_neg (by omega), if_pos h3]
  obtain ⟨hh, hp⟩ := headG6_no he (by omega)
  rw [hh, hp, he]
  show Calls _ _ _ _ fun e' w' => e' = .returned (.tuple #[.agg #[.int .i64 0, .int .i64 0, .int .i64 0, .int .i64 0, .bool false, .int .u64 0, .int .u64 0, .bool false, .int .u64 0, .int .u64 0], .string ⟨#[]⟩, .int .i64 2]) ∧ Below w.heap.size w w'
  clear he hh hp
  obtain ⟨F, hF⟩ : ∃ F, seg s 0 4 = F := ⟨_, rfl⟩
  have v1 : ((F : Int) / 268435456 != 6) = false := by rw [hF] at h; simp; omega
  have v2 : (s.size : Int) - 40 < (wt s 4 : Nat) := by omega
  clear h
  have h40i : ¬ (s.size : Int) < 40 := by omega
  have hm : s.size ≤ maxLen := by unfold maxLen; omega
  have HM1 := Lib.hid (must_seg s 0 4 0 4 rfl rfl hm (by omega) (by omega) (by omega))
  have HM2 := Lib.hid (must_seg s 4 2 4 2 rfl rfl hm (by omega) (by omega) (by omega))
  rw [show seg s 4 2 = wt s 4 from wt_num s 4 (by omega)] at HM2
  rw [hF] at HM1
  have HW := HasB.new w 26 #[.int .i64 0, .int .i64 0, .int .i64 0, .int .i64 0, .bool false, .int .u64 0, .int .u64 0, .bool false, .int .u64 0, .int .u64 0]
  have HL : Below w.heap.size w (w.alloc (.cells #[.int .i64 0, .int .i64 0, .int .i64 0, .int .i64 0, .bool false, .int .u64 0, .int .u64 0, .bool false, .int .u64 0, .int .u64 0] 26)) := (Below.refl _ _).alloc (Nat.le_refl _) _
  have sb : IntKind.i64.wrap ((s.size : Int) - 40) = (s.size : Int) - 40 := IntWalk.i64_in _ (by omega)
  have wq : wrap64 ((F : Int) / 268435456) = (F : Int) / 268435456 := wrap_in _ (by have := seg_lt s 0 4; omega)
  clear hF
  go_enter Try.func10, Try.ntmps10
  go_wp2_with (first | (go_at_call 22; (with_reducible refine (HM1.out _).mono ?_); rintro e w1 ⟨rfl, rfl⟩) | (go_at_call 22; (with_reducible refine (HM2.out _).mono ?_); rintro e w1 ⟨rfl, rfl⟩) | fail)
  (try simp only [Exit.inBlock, Exit.then]); refine bodyPost_ret (v := .tuple #[.agg #[.int .i64 0, .int .i64 0, .int .i64 0, .int .i64 0, .bool false, .int .u64 0, .int .u64 0, .bool false, .int .u64 0, .int .u64 0], .string ⟨#[]⟩, .int .i64 2]) (results_cell3 Try.results10 _ _ w.heap.size _ _ rfl HW Try.underlying26 infoR6 rfl rfl) rfl ⟨rfl, HL⟩
theorem pair_at (s : ByteArray) (p q : Nat) (x y : Nat) (hq : q = p + 16) (hx : seg s p 8 = x) (hy : seg s (p + 8) 8 = y) (h : q ≤ s.size) (w : World) :
    Calls Try.prog 23 #[.string (s.extract p q)] w fun e w' => e = .returned (.tuple #[.agg #[.bool true, .int .u64 (x : Int), .int .u64 (y : Int)], .bool (gOk (s.extract p q).data.toList)]) ∧ Below w.heap.size w w' := by
  subst hq hx hy
  exact getH_at s p h w
theorem cast_c {F C : Nat} (hC : C = F / 1048576 % 256) : (F : Int) / 1048576 % 256 = (C : Int) := by omega
theorem cast_l {F L : Nat} (hL : L = F % 1048576) : (F : Int) % 1048576 = (L : Int) := by omega
set_option maxHeartbeats 2000000 in
theorem get6_ok (s : ByteArray) (hs : s.size ≤ 1099511627776) (w : World) (he : errG6 s = 0) :
    Calls Try.prog 10 #[.string s] w fun e w' => e = .returned (.tuple #[.agg #[.int .i64 (headG6 s).cl, .int .i64 (headG6 s).lb, .int .i64 (headG6 s).nx, .int .i64 (headG6 s).hp, .bool (headG6 s).sv, .int .u64 (headG6 s).sh, .int .u64 (headG6 s).sl, .bool (headG6 s).dv, .int .u64 (headG6 s).dh, .int .u64 (headG6 s).dl], .string (payG6 s), .int .i64 (errG6 s)]) ∧ Below w.heap.size w w' := by
  obtain ⟨h1, h, h3⟩ := errG6_ok he
  obtain ⟨a, ha⟩ : ∃ a, seg s 8 8 = a := ⟨_, rfl⟩
  obtain ⟨b, hb⟩ : ∃ b, seg s 16 8 = b := ⟨_, rfl⟩
  obtain ⟨c, hc⟩ : ∃ c, seg s 24 8 = c := ⟨_, rfl⟩
  obtain ⟨d, hd⟩ : ∃ d, seg s 32 8 = d := ⟨_, rfl⟩
  obtain ⟨F, hF⟩ : ∃ F, seg s 0 4 = F := ⟨_, rfl⟩
  obtain ⟨C, hC⟩ : ∃ C, C = F / 1048576 % 256 := ⟨_, rfl⟩
  obtain ⟨L, hL⟩ : ∃ L, L = F % 1048576 := ⟨_, rfl⟩
  have hh : headG6 s = ⟨C, L, bt s 6, bt s 7, true, a, b, true, c, d⟩ := by
    unfold headG6; rw [if_pos he, hC, hL, ← ha, ← hb, ← hc, ← hd, ← hF]; rfl
  have hp : payG6 s = s.extract 40 (40 + wt s 4) := if_pos he
  rw [hh, hp, he]
  show Calls _ _ _ _ fun e' w' => e' = .returned (.tuple #[.agg #[.int .i64 ((C : Int)), .int .i64 ((L : Int)), .int .i64 ((bt s 6 : Nat)), .int .i64 ((bt s 7 : Nat)), .bool (true), .int .u64 ((a : Int)), .int .u64 ((b : Int)), .bool (true), .int .u64 ((c : Int)), .int .u64 ((d : Int))], .string (s.extract 40 (40 + wt s 4)), .int .i64 0]) ∧ Below w.heap.size w w'
  have v1 : ((F : Int) / 268435456 != 6) = false := by rw [hF] at h; simp; omega
  have v2 : ((s.size : Int) - 40 < (wt s 4 : Nat)) = False := eq_false (by omega)
  have HA := Lib.hid (pair_at s 8 24 a b rfl ha hb (by omega))
  have HB := Lib.hid (pair_at s 24 40 c d rfl hc hd (by omega))
  have i24 : (24 : Int) ≤ s.size := by omega
  have i40 : (40 : Int) ≤ s.size := by omega
  have i6 : (6 : Int) < s.size := by omega
  have i7 : (7 : Int) < s.size := by omega
  have q6 := bt_at s 6 (by omega)
  have q7 := bt_at s 7 (by omega)
  have hFl : F < 4294967296 := by rw [← hF]; exact seg_lt s 0 4
  have x1 : wrap64 ((F : Int) / 1048576) = (F : Int) / 1048576 := wrap_in _ (by omega)
  have x2 := cast_c hC
  have x3 := cast_l hL
  have x4 : IntKind.i64.wrap (40 + (wt s 4 : Nat) : Int) = 40 + (wt s 4 : Nat) := IntWalk.i64_in _ (by have := wt_le s 4; omega)
  have i5 : (40 : Int) ≤ 40 + (wt s 4 : Nat) := by omega
  have i8 : (40 : Int) + (wt s 4 : Nat) ≤ s.size := by omega
  clear h ha hb hc hd hC hL hh hp he
  have h40i : ¬ (s.size : Int) < 40 := by omega
  have hm : s.size ≤ maxLen := by unfold maxLen; omega
  have HM1 := Lib.hid (must_seg s 0 4 0 4 rfl rfl hm (by omega) (by omega) (by omega))
  have HM2 := Lib.hid (must_seg s 4 2 4 2 rfl rfl hm (by omega) (by omega) (by omega))
  rw [show seg s 4 2 = wt s 4 from wt_num s 4 (by omega)] at HM2
  rw [hF] at HM1
  have HW := HasB.new w 26 #[.int .i64 0, .int .i64 0, .int .i64 0, .int .i64 0, .bool false, .int .u64 0, .int .u64 0, .bool false, .int .u64 0, .int .u64 0]
  have HL : Below w.heap.size w (w.alloc (.cells #[.int .i64 0, .int .i64 0, .int .i64 0, .int .i64 0, .bool false, .int .u64 0, .int .u64 0, .bool false, .int .u64 0, .int .u64 0] 26)) := (Below.refl _ _).alloc (Nat.le_refl _) _
  have sb : IntKind.i64.wrap ((s.size : Int) - 40) = (s.size : Int) - 40 := IntWalk.i64_in _ (by omega)
  have wq : wrap64 ((F : Int) / 268435456) = (F : Int) / 268435456 := wrap_in _ (by have := seg_lt s 0 4; omega)
  clear hF
  go_enter Try.func10, Try.ntmps10
  go_wp2_with (first | (go_at_call 22; (with_reducible refine (HM1.out _).mono ?_); rintro e w1 ⟨rfl, rfl⟩) | (go_at_call 22; (with_reducible refine (HM2.out _).mono ?_); rintro e w1 ⟨rfl, rfl⟩) | (go_at_call 23; (with_reducible refine (HA.out _).mono ?_); rintro e wc ⟨rfl, hb⟩; have la := Nat.lt_of_lt_of_le HW.lt hb.size; replace HL := (HL.trans (hb.mono (Nat.le_of_lt HW.lt))).alloc (Nat.le_trans (Nat.le_of_lt HW.lt) hb.size) (.cells #[.bool true, .int .u64 (a : Int), .int .u64 (b : Int)] 24); replace HW := (HasB.below HW hb HW.lt).alloc (.cells #[.bool true, .int .u64 (a : Int), .int .u64 (b : Int)] 24); have HP := HasB.new wc 24 #[.bool true, .int .u64 (a : Int), .int .u64 (b : Int)]) | (go_at_call 23; (with_reducible refine (HB.out _).mono ?_); rintro e wd ⟨rfl, hb⟩; have lb := Nat.lt_of_lt_of_le HW.lt hb.size; replace HL := (HL.trans (hb.mono (Nat.le_of_lt HW.lt))).alloc (Nat.le_trans (Nat.le_of_lt HW.lt) hb.size) (.cells #[.bool true, .int .u64 (c : Int), .int .u64 (d : Int)] 24); replace HW := (HasB.below HW hb HW.lt).alloc (.cells #[.bool true, .int .u64 (c : Int), .int .u64 (d : Int)] 24); have HQ := HasB.new wd 24 #[.bool true, .int .u64 (c : Int), .int .u64 (d : Int)]) | fail)
  replace HP := (HasB.below HP hb HP.lt).alloc (.cells #[.bool true, .int .u64 (c : Int), .int .u64 (d : Int)] 24)
  have HH := Lib.hid (And.intro HW (And.intro HP (And.intro HQ HL)))
  clear HW HP HQ HL hb
  revert HH
  generalize (World.alloc wd _) = X
  intro HH
  have a0 := HasB.cell HH.out.2.1 0 (.bool true) rfl
  have a1 := HasB.cell HH.out.2.1 1 (.int .u64 (a : Int)) rfl
  have a2 := HasB.cell HH.out.2.1 2 (.int .u64 (b : Int)) rfl
  have e0 := HasB.cell HH.out.2.2.1 0 (.bool true) rfl
  have e1 := HasB.cell HH.out.2.2.1 1 (.int .u64 (c : Int)) rfl
  have e2 := HasB.cell HH.out.2.2.1 2 (.int .u64 (d : Int)) rfl
  have d0 := HasB.cell HH.out.1 0 (.int .i64 0) rfl
  have f0 := HasB.free HH.out.1 0
  have d1 := HasB.cell HH.out.1 1 (.int .i64 0) rfl
  have f1 := HasB.free HH.out.1 1
  have d2 := HasB.cell HH.out.1 2 (.int .i64 0) rfl
  have f2 := HasB.free HH.out.1 2
  have d3 := HasB.cell HH.out.1 3 (.int .i64 0) rfl
  have f3 := HasB.free HH.out.1 3
  have d4 := HasB.cell HH.out.1 4 (.bool false) rfl
  have f4 := HasB.free HH.out.1 4
  have d5 := HasB.cell HH.out.1 5 (.int .u64 0) rfl
  have f5 := HasB.free HH.out.1 5
  have d6 := HasB.cell HH.out.1 6 (.int .u64 0) rfl
  have f6 := HasB.free HH.out.1 6
  have d7 := HasB.cell HH.out.1 7 (.bool false) rfl
  have f7 := HasB.free HH.out.1 7
  have d8 := HasB.cell HH.out.1 8 (.int .u64 0) rfl
  have f8 := HasB.free HH.out.1 8
  have d9 := HasB.cell HH.out.1 9 (.int .u64 0) rfl
  have f9 := HasB.free HH.out.1 9
  have y1 : IntKind.i64.wrap ((F : Int) / 1048576) = (F : Int) / 1048576 := IntWalk.i64_in _ (by omega)
  have y2 : ((F : Int) / 1048576).tmod 256 = (C : Int) := (Int.tmod_eq_emod_of_nonneg (Int.ediv_nonneg (Int.natCast_nonneg _) (by decide))).trans x2
  have y3 : (F : Int).tmod 1048576 = (L : Int) := (Int.tmod_eq_emod_of_nonneg (Int.natCast_nonneg _)).trans x3
  have y6 : IntKind.i64.wrap (bt s 6 : Nat) = (bt s 6 : Nat) := IntWalk.i64_in _ (by have := bt_lt s 6; omega)
  have y7 : IntKind.i64.wrap (bt s 7 : Nat) = (bt s 7 : Nat) := IntWalk.i64_in _ (by have := bt_lt s 7; omega)
  go_region
  all_goals
    have HW2 := (putAll_hasB HH.out.1 [.int .i64 C, .int .i64 L, .int .i64 (bt s 6 : Nat), .int .i64 (bt s 7 : Nat), .bool true, .int .u64 a, .int .u64 b, .bool true, .int .u64 c, .int .u64 d] rfl).drew
    have HL2 := below_drewN (putAll_below (Nat.le_refl _) [.int .i64 C, .int .i64 L, .int .i64 (bt s 6 : Nat), .int .i64 (bt s 7 : Nat), .bool true, .int .u64 a, .int .u64 b, .bool true, .int .u64 c, .int .u64 d] 0 _ HH.out.2.2.2) 1
    clear d0 d1 d2 d3 d4 d5 d6 d7 d8 d9 f0 f1 f2 f3 f4 f5 f6 f7 f8 f9 a0 a1 a2 e0 e1 e2
    go_wp2_with fail
    (try simp only [Exit.inBlock, Exit.then]); refine bodyPost_ret (v := .tuple #[.agg #[.int .i64 ((C : Int)), .int .i64 ((L : Int)), .int .i64 ((bt s 6 : Nat)), .int .i64 ((bt s 7 : Nat)), .bool (true), .int .u64 ((a : Int)), .int .u64 ((b : Int)), .bool (true), .int .u64 ((c : Int)), .int .u64 ((d : Int))], .string (s.extract 40 (40 + wt s 4)), .int .i64 0]) (results_cell3 Try.results10 _ _ w.heap.size _ _ rfl HW2 Try.underlying26 infoR6 rfl rfl) rfl ⟨rfl, HL2⟩
theorem get6_any (s : ByteArray) (hs : s.size ≤ 1099511627776) (w : World) :
    Calls Try.prog 10 #[.string s] w fun e w' => e = .returned (.tuple #[.agg #[.int .i64 (headG6 s).cl, .int .i64 (headG6 s).lb, .int .i64 (headG6 s).nx, .int .i64 (headG6 s).hp, .bool (headG6 s).sv, .int .u64 (headG6 s).sh, .int .u64 (headG6 s).sl, .bool (headG6 s).dv, .int .u64 (headG6 s).dh, .int .u64 (headG6 s).dl], .string (payG6 s), .int .i64 (errG6 s)]) ∧ Below w.heap.size w w' := by
  by_cases h1 : s.size < 40
  · exact get6_short s hs w h1
  · by_cases h2 : seg s 0 4 / 268435456 = 6
    · by_cases h3 : s.size < 40 + wt s 4
      · exact get6_cut s hs w (by omega) h2 h3
      · exact get6_ok s hs w (errG6_is (by omega) h2 (by omega))
    · exact get6_form s hs w (by omega) h2
end Go.Proofs.Ytnlinfdfgalmjaa.R06
