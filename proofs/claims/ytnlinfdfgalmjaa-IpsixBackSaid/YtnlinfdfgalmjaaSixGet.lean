/- The contracts of package ipsix: address, Get. -/
import Derived.Test.YtnlinfdfgalmjaaReadAt
import Derived.Test.YtnlinfdfgalmjaaAddrGet
import Derived.Test.YtnlinfdfgalmjaaSixCells
namespace Go.Proofs.Ytnlinfdfgalmjaa
open Go.RowKit
set_option linter.unusedVariables false

theorem high_addr (s : ByteArray) (p : Nat) (h : p + 16 ≤ s.size) : gV (s.extract p (p + 16)).data.toList = true ∧ gHi (s.extract p (p + 16)).data.toList = (seg s p 8 : Nat) ∧ gLo (s.extract p (p + 16)).data.toList = (seg s (p + 8) 8 : Nat) := by
  have e : (s.extract p (p + 16)).data.toList = (s.data.toList.drop p).take 16 := by rw [ext_str', show p + 16 - p = 16 by omega]
  have hl : ((s.data.toList.drop p).take 16).length = 16 := by rw [List.length_take, List.length_drop, ← size_list]; omega
  rw [e]
  unfold gV gHi gLo seg
  rw [if_pos hl, if_pos hl]
  refine ⟨decide_eq_true hl, ?_, ?_⟩
  · rw [List.take_take, show min 8 16 = 8 from rfl]
  · rw [List.drop_take, List.drop_drop, show 16 - 8 = 8 from rfl]
theorem getH_at (s : ByteArray) (p : Nat) (h : p + 16 ≤ s.size) (w : World) :
    Calls Try.prog 32 #[.string (s.extract p (p + 16))] w fun e w' => e = .returned (.tuple #[.agg #[.bool true, .int .u64 (seg s p 8 : Nat), .int .u64 (seg s (p + 8) 8 : Nat)], .bool (gOk (s.extract p (p + 16)).data.toList)]) ∧ Below w.heap.size w w' := by
  have h1 := get_addr (s.extract p (p + 16)) (by rw [ByteArray.size_extract]; unfold maxLen; omega) w
  obtain ⟨e1, e2, e3⟩ := high_addr s p h
  rw [e1, e2, e3] at h1
  exact h1
theorem address6_any (b c : Nat) (s : ByteArray) (p : Nat) (x y : Nat) (hx : seg s p 8 = x) (hy : seg s (p + 8) 8 = y) (w : World) (h : Rd w b c (some (s.extract p s.size))) (hs : s.size ≤ maxLen) (hp : p + 16 ≤ s.size) :
    Calls Try.prog 19 #[.pointer (some ⟨b, 0, none⟩)] w fun e w' => e = .returned (.agg #[.bool true, .int .u64 (x : Int), .int .u64 (y : Int)]) ∧ Rd w' b c (some (s.extract (p + 16) s.size)) ∧ Kept (fun k => k = b ∨ k = c) w w' := by
  have hbc : b < w.heap.size ∧ c < w.heap.size := ⟨h.1.lt, h.2.1.lt⟩
  have HK0 : Kept (fun k => k = b ∨ k = c) w (w.alloc (.cells #[.bool false, .int .u64 0, .int .u64 0] 24)) := (Kept.refl _ w).alloc _
  have HR := Lib.hid (Rd.keep h (S := fun _ => False) ((Kept.refl _ w).alloc (.cells #[.bool false, .int .u64 0, .int .u64 0] 24)) (by simp) (by simp))
  have HX := HasB.new w 24 #[.bool false, .int .u64 0, .int .u64 0]
  have hz := hbc
  have HG := Lib.hid (getH_at s p hp)
  rw [hx, hy] at HG
  clear hbc h hx hy
  go_enter Try.func19, Try.ntmps19
  go_wp2_with fail
  (with_reducible refine (text_at b c s p 16 16 rfl _ HR.out hs hp).mono ?_)
  rintro e w1 ⟨rfl, hr, hk⟩
  have HK1 := Lib.hid (HK0.trans hk)
  have HX1 := HasB.kept HX hk (by omega)
  have HR1 := Lib.hid hr
  have hz1 := hk.size
  rw [World.size_alloc] at hz1
  clear hr hk HX HK0 HR
  go_wp2_with fail
  (with_reducible refine (HG.out _).mono ?_)
  rintro e w2 ⟨rfl, hb⟩
  have HX2 := (HasB.below HX1 hb HX1.lt).alloc (.cells #[.bool true, .int .u64 (x : Int), .int .u64 (y : Int)] 24)
  have hz2 := hb.size
  have c0 := HasB.cell HX2 0 _ rfl
  have c1 := HasB.cell HX2 1 _ rfl
  have c2 := HasB.cell HX2 2 _ rfl
  have f0 := HasB.free HX2 0
  have f1 := HasB.free HX2 1
  have f2 := HasB.free HX2 2
  go_wp2_with fail
  clear c0 c1 c2 f0 f1 f2
  have hX3 := putAll_hasB HX2 [.bool true, .int .u64 x, .int .u64 y] rfl
  have hK3 := putAll_kept (S := fun k => k = b ∨ k = c) (a := w) (g := w.heap.size) (.inl (Nat.le_refl _)) [.bool true, .int .u64 x, .int .u64 y] 0 _ ((HK1.out.trans (Kept.ofBelow hb)).alloc (.cells #[.bool true, .int .u64 (x : Int), .int .u64 (y : Int)] 24))
  have hR3 := Rd.keep (Rd.keep HR1.out (S := fun _ => False) (Kept.ofBelow hb) (by simp) (by simp)) (S := fun k => k = w.heap.size) (putAll_kept (S := fun k => k = w.heap.size) (a := w2) (g := w.heap.size) (.inr rfl) [.bool true, .int .u64 x, .int .u64 y] 0 _ ((Kept.refl _ _).alloc (.cells #[.bool true, .int .u64 (x : Int), .int .u64 (y : Int)] 24))) (by omega) (by omega)
  simp only [putAll, Nat.zero_add, Nat.reduceAdd] at hX3 hK3 hR3
  clear HX2 HX1 HK1 HR1 hb hz1 hz2
  revert hX3 hK3 hR3
  generalize World.setCell (World.setCell (World.setCell _ _ _) _ _) _ _ = W
  intro hX3 hK3 hR3
  have c0 := HasB.cell hX3 0 (.bool true) rfl
  have c1 := HasB.cell hX3 1 (.int .u64 x) rfl
  have c2 := HasB.cell hX3 2 (.int .u64 y) rfl
  try simp only [Exit.inBlock, Exit.then]
  refine bodyPost_ret (v := .agg #[.bool true, .int .u64 (x : Int), .int .u64 (y : Int)]) (by simp [results, Try.results19, go_sem, c0, c1, c2]; try rfl) rfl ?_
  exact ⟨rfl, hR3, hK3⟩
/-- What holds while a head is read: the result's block, the reader. -/
def St6 (s : ByteArray) (p : Nat) (w0 W : World) : Prop :=
  HasB W w0.heap.size 31 #[.int .i64 0, .int .i64 0, .int .i64 0, .int .i64 0, .bool false, .int .u64 0, .int .u64 0, .bool false, .int .u64 0, .int .u64 0] ∧ Rd W (w0.heap.size + 1 + 1) (w0.heap.size + 1) (some (s.extract p s.size)) ∧ Below w0.heap.size w0 W
theorem St6.next {s : ByteArray} {p p' : Nat} {w0 W W' : World} (h : St6 s p w0 W) (hr : Rd W' (w0.heap.size + 1 + 1) (w0.heap.size + 1) (some (s.extract p' s.size))) (hk : Kept (fun k => k = w0.heap.size + 1 + 1 ∨ k = w0.heap.size + 1) W W') : St6 s p' w0 W' :=
  ⟨HasB.kept h.1 hk (by omega), hr, h.2.2.trans (hk.below (Nat.le_trans (Nat.le_refl _) h.2.2.size) (by omega))⟩
theorem St6.has {s : ByteArray} {p : Nat} {w0 W : World} (h : St6 s p w0 W) : HasB W w0.heap.size 31 #[.int .i64 0, .int .i64 0, .int .i64 0, .int .i64 0, .bool false, .int .u64 0, .int .u64 0, .bool false, .int .u64 0, .int .u64 0] := h.1
theorem St6.rd {s : ByteArray} {p : Nat} {w0 W : World} (h : St6 s p w0 W) : Rd W (w0.heap.size + 1 + 1) (w0.heap.size + 1) (some (s.extract p s.size)) := h.2.1
theorem St6.below {s : ByteArray} {p : Nat} {w0 W : World} (h : St6 s p w0 W) : Below w0.heap.size w0 W := h.2.2
theorem bodyEnd6 {w W : World} {cs : Array Value} {e : Int} {p : ByteArray} (h : HasB W w.heap.size 31 #[.int .i64 0, .int .i64 0, .int .i64 0, .int .i64 0, .bool false, .int .u64 0, .int .u64 0, .bool false, .int .u64 0, .int .u64 0]) (hl : Below w.heap.size w W) : HasB (W.setRow w.heap.size cs) w.heap.size 31 cs ∧ Below w.heap.size w (W.setRow w.heap.size cs) :=
  ⟨HasB.setRow h cs, below_setRow hl (Nat.le_refl _) cs⟩
attribute [local go_sem ↓] ldH6 stH6 ldR6 stR6
attribute [local go_sem] rowAt_p rowOkAt_p setAt_p aggOf_a rowOk_new rowOf_new setRow_new agg10 aggH6
theorem get6_short (s : ByteArray) (hs : s.size ≤ 1099511627776) (w : World) (h : s.size < 40) :
    Calls Try.prog 9 #[.string s] w fun e w' => e = .returned (.tuple #[.agg #[.int .i64 (headG6 s).cl, .int .i64 (headG6 s).lb, .int .i64 (headG6 s).nx, .int .i64 (headG6 s).hp, .bool (headG6 s).sv, .int .u64 (headG6 s).sh, .int .u64 (headG6 s).sl, .bool (headG6 s).dv, .int .u64 (headG6 s).dh, .int .u64 (headG6 s).dl], .string (payG6 s), .int .i64 (errG6 s)]) ∧ Below w.heap.size w w' := by
  have he : errG6 s = 2 := by unfold errG6; rw [if_pos h]
  obtain ⟨hh, hp⟩ := headG6_no he (by omega)
  rw [hh, hp, he]
  show Calls _ _ _ _ fun e' w' => e' = .returned (.tuple #[.agg #[.int .i64 0, .int .i64 0, .int .i64 0, .int .i64 0, .bool false, .int .u64 0, .int .u64 0, .bool false, .int .u64 0, .int .u64 0], .string ⟨#[]⟩, .int .i64 2]) ∧ Below w.heap.size w w'
  clear he hh hp
  have h40 : (s.size : Int) < 40 := by omega
  have HW := HasB.new w 31 #[.int .i64 0, .int .i64 0, .int .i64 0, .int .i64 0, .bool false, .int .u64 0, .int .u64 0, .bool false, .int .u64 0, .int .u64 0]
  have HL : Below w.heap.size w (w.alloc (.cells #[.int .i64 0, .int .i64 0, .int .i64 0, .int .i64 0, .bool false, .int .u64 0, .int .u64 0, .bool false, .int .u64 0, .int .u64 0] 31)) := (Below.refl _ _).alloc (Nat.le_refl _) _
  go_enter Try.func9, Try.ntmps9
  go_wp2_with fail
  (try simp only [Exit.inBlock, Exit.then]); refine bodyPost_ret (v := .tuple #[.agg #[.int .i64 0, .int .i64 0, .int .i64 0, .int .i64 0, .bool false, .int .u64 0, .int .u64 0, .bool false, .int .u64 0, .int .u64 0], .string ⟨#[]⟩, .int .i64 2]) (results_cell3 Try.results9 _ _ w.heap.size _ _ rfl HW Try.underlying31 infoH6 rfl rfl) rfl ⟨rfl, HL⟩
theorem get6_form (s : ByteArray) (hs : s.size ≤ 1099511627776) (w : World) (h1 : 40 ≤ s.size) (h : ¬ seg s 0 4 / 268435456 = 6) :
    Calls Try.prog 9 #[.string s] w fun e w' => e = .returned (.tuple #[.agg #[.int .i64 (headG6 s).cl, .int .i64 (headG6 s).lb, .int .i64 (headG6 s).nx, .int .i64 (headG6 s).hp, .bool (headG6 s).sv, .int .u64 (headG6 s).sh, .int .u64 (headG6 s).sl, .bool (headG6 s).dv, .int .u64 (headG6 s).dh, .int .u64 (headG6 s).dl], .string (payG6 s), .int .i64 (errG6 s)]) ∧ Below w.heap.size w w' := by
  have he : errG6 s = 3 := by unfold errG6; rw [if_neg (by omega), if_pos h]
  obtain ⟨hh, hp⟩ := headG6_no he (by omega)
  rw [hh, hp, he]
  show Calls _ _ _ _ fun e' w' => e' = .returned (.tuple #[.agg #[.int .i64 0, .int .i64 0, .int .i64 0, .int .i64 0, .bool false, .int .u64 0, .int .u64 0, .bool false, .int .u64 0, .int .u64 0], .string ⟨#[]⟩, .int .i64 3]) ∧ Below w.heap.size w w'
  clear he hh hp
  have v1 : (((seg s 0 4 : Nat) : Int) / 268435456 != 6) = true := by simp; omega
  clear h
  have h40i : ¬ (s.size : Int) < 40 := by omega
  have hm : s.size ≤ maxLen := by unfold maxLen; omega
  go_enter Try.func9, Try.ntmps9
  go_wp2_with fail
  refine (new_any s _).mono ?_
  rintro e w1 ⟨rfl, rfl⟩
  go_wp2_with fail
  have HX : Hid (St6 s 0 w (((w.alloc (.cells #[.int .i64 0, .int .i64 0, .int .i64 0, .int .i64 0, .bool false, .int .u64 0, .int .u64 0, .bool false, .int .u64 0, .int .u64 0] 31)).alloc (.cells #[.string s] 9)).alloc (.cells #[.pointer (some ⟨w.heap.size + 1, 0, none⟩)] 63))) := by
    refine Lib.hid ⟨?_, ⟨?_, ?_, by omega⟩, ?_⟩
    · exact ((HasB.new w 31 #[.int .i64 0, .int .i64 0, .int .i64 0, .int .i64 0, .bool false, .int .u64 0, .int .u64 0, .bool false, .int .u64 0, .int .u64 0]).alloc _).alloc _
    · have := HasB.new ((w.alloc (.cells #[.int .i64 0, .int .i64 0, .int .i64 0, .int .i64 0, .bool false, .int .u64 0, .int .u64 0, .bool false, .int .u64 0, .int .u64 0] 31)).alloc (.cells #[.string s] 9)) 63 #[.pointer (some ⟨w.heap.size + 1, 0, none⟩)]
      simpa using this
    · have := (HasB.new (w.alloc (.cells #[.int .i64 0, .int .i64 0, .int .i64 0, .int .i64 0, .bool false, .int .u64 0, .int .u64 0, .bool false, .int .u64 0, .int .u64 0] 31)) 9 #[.string s]).alloc (.cells #[.pointer (some ⟨w.heap.size + 1, 0, none⟩)] 63)
      rw [show s.extract 0 s.size = s by apply ext_eq; rw [ext_str', List.drop_zero, Nat.sub_zero, size_list, List.take_length]]
      simpa using this
    · exact (((Below.refl _ w).alloc (Nat.le_refl _) _).alloc (by simp) _).alloc (by simp; omega) _
  (with_reducible refine (num_at (w.heap.size + 1 + 1) (w.heap.size + 1) s 0 4 4 rfl _ HX.out.rd hm (by omega) (by omega) (by omega)).mono ?_)
  rintro e wa ⟨rfl, hr, hk⟩
  replace HX := Lib.hid (HX.out.next hr hk)
  clear hr hk
  have hro := HasB.rowOk HX.out.has (n := 10) rfl
  go_wp2_with fail
  have HW := HasB.setRow HX.out.has #[.int .i64 0, .int .i64 0, .int .i64 0, .int .i64 0, .bool false, .int .u64 0, .int .u64 0, .bool false, .int .u64 0, .int .u64 0]
  have HL := below_setRow HX.out.below (Nat.le_refl _) #[.int .i64 0, .int .i64 0, .int .i64 0, .int .i64 0, .bool false, .int .u64 0, .int .u64 0, .bool false, .int .u64 0, .int .u64 0]
  (try simp only [Exit.inBlock, Exit.then]); refine bodyPost_ret (v := .tuple #[.agg #[.int .i64 0, .int .i64 0, .int .i64 0, .int .i64 0, .bool false, .int .u64 0, .int .u64 0, .bool false, .int .u64 0, .int .u64 0], .string ⟨#[]⟩, .int .i64 3]) (results_cell3 Try.results9 _ _ w.heap.size _ _ rfl HW Try.underlying31 infoH6 rfl rfl) rfl ⟨rfl, HL⟩
theorem maskC (F : Nat) (h : F < 4294967296) : bits .and .i64 ((F : Int) / 1048576) 255 = (F / 1048576 % 256 : Nat) := by
  have h1 := bits_mask .i64 62 (by decide) (fun n h0 h1 => by rw [IntKind.wrap_i64]; omega) 8 (by decide) ((F : Int) / 1048576) (by omega) (by omega)
  refine Eq.trans h1 ?_
  show (F : Int) / 1048576 % 256 = _
  omega
theorem maskL (F : Nat) (h : F < 4294967296) : bits .and .i64 (F : Int) 1048575 = (F % 1048576 : Nat) := by
  have h1 := bits_mask .i64 62 (by decide) (fun n h0 h1 => by rw [IntKind.wrap_i64]; omega) 20 (by decide) (F : Int) (by omega) (by omega)
  refine Eq.trans h1 ?_
  show (F : Int) % 1048576 = _
  omega
theorem Rd.old {w w' : World} {b c : Nat} {s : ByteArray} (h : Rd w b c (some s)) (hk : Below w.heap.size w w') : Rd w' b c (some s) := ⟨HasB.below h.1 hk h.1.lt, HasB.below h.2.1 hk h.2.1.lt, h.2.2⟩
set_option maxRecDepth 100000 in
set_option maxHeartbeats 1000000 in
theorem get6_cut (s : ByteArray) (hs : s.size ≤ 1099511627776) (w : World) (h1 : 40 ≤ s.size) (h : seg s 0 4 / 268435456 = 6) (h3 : s.size < 40 + wt s 4) :
    Calls Try.prog 9 #[.string s] w fun e w' => e = .returned (.tuple #[.agg #[.int .i64 (headG6 s).cl, .int .i64 (headG6 s).lb, .int .i64 (headG6 s).nx, .int .i64 (headG6 s).hp, .bool (headG6 s).sv, .int .u64 (headG6 s).sh, .int .u64 (headG6 s).sl, .bool (headG6 s).dv, .int .u64 (headG6 s).dh, .int .u64 (headG6 s).dl], .string (payG6 s), .int .i64 (errG6 s)]) ∧ Below w.heap.size w w' := by
  have he : errG6 s = 2 := by unfold errG6; rw [if_neg (by omega), if_neg (by omega), if_pos h3]
  obtain ⟨hh, hp⟩ := headG6_no he (by omega)
  rw [hh, hp, he]
  show Calls _ _ _ _ fun e' w' => e' = .returned (.tuple #[.agg #[.int .i64 0, .int .i64 0, .int .i64 0, .int .i64 0, .bool false, .int .u64 0, .int .u64 0, .bool false, .int .u64 0, .int .u64 0], .string ⟨#[]⟩, .int .i64 2]) ∧ Below w.heap.size w w'
  clear he hh hp
  have v1 : (((seg s 0 4 : Nat) : Int) / 268435456 != 6) = false := by simp; omega
  obtain ⟨a, ha⟩ : ∃ a, seg s 8 8 = a := ⟨_, rfl⟩
  obtain ⟨b, hb⟩ : ∃ b, seg s 16 8 = b := ⟨_, rfl⟩
  obtain ⟨c, hc⟩ : ∃ c, seg s 24 8 = c := ⟨_, rfl⟩
  obtain ⟨d, hd⟩ : ∃ d, seg s 32 8 = d := ⟨_, rfl⟩
  have hF := seg_lt s 0 4
  have mC := maskC (seg s 0 4) hF
  have mL := maskL (seg s 0 4) hF
  obtain ⟨C, hC⟩ : ∃ C, C = seg s 0 4 / 1048576 % 256 := ⟨_, rfl⟩
  obtain ⟨L, hL⟩ : ∃ L, L = seg s 0 4 % 1048576 := ⟨_, rfl⟩
  rw [← hC] at mC
  rw [← hL] at mL
  have HA := Lib.hid ha
  have HB := Lib.hid hb
  have HC2 := Lib.hid hc
  have HD := Lib.hid hd
  clear h ha hb hc hd hC hL hF
  have h40i : ¬ (s.size : Int) < 40 := by omega
  have hm : s.size ≤ maxLen := by unfold maxLen; omega
  go_enter Try.func9, Try.ntmps9
  go_wp2_with fail
  refine (new_any s _).mono ?_
  rintro e w1 ⟨rfl, rfl⟩
  go_wp2_with fail
  have HX : Hid (St6 s 0 w (((w.alloc (.cells #[.int .i64 0, .int .i64 0, .int .i64 0, .int .i64 0, .bool false, .int .u64 0, .int .u64 0, .bool false, .int .u64 0, .int .u64 0] 31)).alloc (.cells #[.string s] 9)).alloc (.cells #[.pointer (some ⟨w.heap.size + 1, 0, none⟩)] 63))) := by
    refine Lib.hid ⟨?_, ⟨?_, ?_, by omega⟩, ?_⟩
    · exact ((HasB.new w 31 #[.int .i64 0, .int .i64 0, .int .i64 0, .int .i64 0, .bool false, .int .u64 0, .int .u64 0, .bool false, .int .u64 0, .int .u64 0]).alloc _).alloc _
    · have := HasB.new ((w.alloc (.cells #[.int .i64 0, .int .i64 0, .int .i64 0, .int .i64 0, .bool false, .int .u64 0, .int .u64 0, .bool false, .int .u64 0, .int .u64 0] 31)).alloc (.cells #[.string s] 9)) 63 #[.pointer (some ⟨w.heap.size + 1, 0, none⟩)]
      simpa using this
    · have := (HasB.new (w.alloc (.cells #[.int .i64 0, .int .i64 0, .int .i64 0, .int .i64 0, .bool false, .int .u64 0, .int .u64 0, .bool false, .int .u64 0, .int .u64 0] 31)) 9 #[.string s]).alloc (.cells #[.pointer (some ⟨w.heap.size + 1, 0, none⟩)] 63)
      rw [show s.extract 0 s.size = s by apply ext_eq; rw [ext_str', List.drop_zero, Nat.sub_zero, size_list, List.take_length]]
      simpa using this
    · exact (((Below.refl _ w).alloc (Nat.le_refl _) _).alloc (by simp) _).alloc (by simp; omega) _
  (with_reducible refine (num_at (w.heap.size + 1 + 1) (w.heap.size + 1) s 0 4 4 rfl _ HX.out.rd hm (by omega) (by omega) (by omega)).mono ?_)
  rintro e wa ⟨rfl, hr, hk⟩
  replace HX := Lib.hid (HX.out.next hr hk)
  clear hr hk
  go_wp2_with fail
  (with_reducible refine (num2_at (w.heap.size + 1 + 1) (w.heap.size + 1) s 4 _ HX.out.rd hm (by omega)).mono ?_)
  rintro e wa ⟨rfl, hr, hk⟩
  replace HX := Lib.hid (HX.out.next hr hk)
  clear hr hk
  go_wp2_with fail
  (with_reducible refine (num1_at (w.heap.size + 1 + 1) (w.heap.size + 1) s 6 _ HX.out.rd hm (by omega)).mono ?_)
  rintro e wa ⟨rfl, hr, hk⟩
  replace HX := Lib.hid (HX.out.next hr hk)
  clear hr hk
  go_wp2_with fail
  (with_reducible refine (num1_at (w.heap.size + 1 + 1) (w.heap.size + 1) s 7 _ HX.out.rd hm (by omega)).mono ?_)
  rintro e wa ⟨rfl, hr, hk⟩
  replace HX := Lib.hid (HX.out.next hr hk)
  clear hr hk
  go_wp2_with fail
  (with_reducible refine (address6_any (w.heap.size + 1 + 1) (w.heap.size + 1) s 8 a b HA.out HB.out _ HX.out.rd hm (by omega)).mono ?_)
  rintro e wa ⟨rfl, hr, hk⟩
  replace HX := Lib.hid (HX.out.next hr hk)
  clear hr hk
  go_wp2_with fail
  (with_reducible refine (address6_any (w.heap.size + 1 + 1) (w.heap.size + 1) s 24 c d HC2.out HD.out _ HX.out.rd hm (by omega)).mono ?_)
  rintro e wa ⟨rfl, hr, hk⟩
  replace HX := Lib.hid (HX.out.next hr hk)
  clear hr hk
  have hz := HX.out.rd.1.lt
  have HN := HasB.new wa 31 #[.int .i64 ((C : Int)), .int .i64 ((L : Int)), .int .i64 ((bt s 6 : Nat)), .int .i64 ((bt s 7 : Nat)), .bool (true), .int .u64 ((a : Int)), .int .u64 ((b : Int)), .bool (true), .int .u64 ((c : Int)), .int .u64 ((d : Int))]
  have HX2 := HX.out.has.alloc (.cells #[.int .i64 ((C : Int)), .int .i64 ((L : Int)), .int .i64 ((bt s 6 : Nat)), .int .i64 ((bt s 7 : Nat)), .bool (true), .int .u64 ((a : Int)), .int .u64 ((b : Int)), .bool (true), .int .u64 ((c : Int)), .int .u64 ((d : Int))] 31)
  have HR2 := HX.out.rd.old (Below.alloc (Below.refl _ _) (Nat.le_refl _) (.cells #[.int .i64 ((C : Int)), .int .i64 ((L : Int)), .int .i64 ((bt s 6 : Nat)), .int .i64 ((bt s 7 : Nat)), .bool (true), .int .u64 ((a : Int)), .int .u64 ((b : Int)), .bool (true), .int .u64 ((c : Int)), .int .u64 ((d : Int))] 31))
  have HL2 := HX.out.below.alloc HX.out.below.size (.cells #[.int .i64 ((C : Int)), .int .i64 ((L : Int)), .int .i64 ((bt s 6 : Nat)), .int .i64 ((bt s 7 : Nat)), .bool (true), .int .u64 ((a : Int)), .int .u64 ((b : Int)), .bool (true), .int .u64 ((c : Int)), .int .u64 ((d : Int))] 31)
  clear HX
  go_wp2_with fail
  have hz5 : (s.extract (24 + 16) s.size).size = s.size - 40 := by rw [ByteArray.size_extract]; omega
  (with_reducible refine (textRd_any (w.heap.size + 1 + 1) (w.heap.size + 1) _ ((wt s 4 : Nat) : Int) _ HR2 (rd_sz s 40 hm)).mono ?_)
  rintro e wb ht
  unfold IsText at ht
  rw [textR_no (by rw [hz5]; omega)] at ht
  obtain ⟨rfl, hr, hk⟩ := ht
  have HX3 := HasB.kept HX2 hk (by omega)
  have HL3 := HL2.trans (hk.below (by simp; omega) (by omega))
  clear HX2 HL2 HR2 HN hk hz5
  go_wp2_with fail
  (with_reducible refine (bad_any (w.heap.size + 1 + 1) (w.heap.size + 1) none _ hr).mono ?_)
  rintro e wc ⟨rfl, rfl⟩
  have hro := HasB.rowOk HX3 (n := 10) rfl
  clear hr
  have hbr : badR none = true := rfl
  rw [hbr]
  go_wp2_with fail
  have HW := HasB.setRow HX3 #[.int .i64 0, .int .i64 0, .int .i64 0, .int .i64 0, .bool false, .int .u64 0, .int .u64 0, .bool false, .int .u64 0, .int .u64 0]
  have HL := below_setRow HL3 (Nat.le_refl _) #[.int .i64 0, .int .i64 0, .int .i64 0, .int .i64 0, .bool false, .int .u64 0, .int .u64 0, .bool false, .int .u64 0, .int .u64 0]
  (try simp only [Exit.inBlock, Exit.then]); refine bodyPost_ret (v := .tuple #[.agg #[.int .i64 0, .int .i64 0, .int .i64 0, .int .i64 0, .bool false, .int .u64 0, .int .u64 0, .bool false, .int .u64 0, .int .u64 0], .string ⟨#[]⟩, .int .i64 2]) (results_cell3 Try.results9 _ _ w.heap.size _ _ rfl HW Try.underlying31 infoH6 rfl rfl) rfl ⟨rfl, HL⟩
set_option maxRecDepth 100000 in
set_option maxHeartbeats 1000000 in
theorem get6_ok (s : ByteArray) (hs : s.size ≤ 1099511627776) (w : World) (he : errG6 s = 0) :
    Calls Try.prog 9 #[.string s] w fun e w' => e = .returned (.tuple #[.agg #[.int .i64 (headG6 s).cl, .int .i64 (headG6 s).lb, .int .i64 (headG6 s).nx, .int .i64 (headG6 s).hp, .bool (headG6 s).sv, .int .u64 (headG6 s).sh, .int .u64 (headG6 s).sl, .bool (headG6 s).dv, .int .u64 (headG6 s).dh, .int .u64 (headG6 s).dl], .string (payG6 s), .int .i64 (errG6 s)]) ∧ Below w.heap.size w w' := by
  obtain ⟨h1, h, h3⟩ := errG6_ok he
  have v1 : (((seg s 0 4 : Nat) : Int) / 268435456 != 6) = false := by simp; omega
  obtain ⟨a, ha⟩ : ∃ a, seg s 8 8 = a := ⟨_, rfl⟩
  obtain ⟨b, hb⟩ : ∃ b, seg s 16 8 = b := ⟨_, rfl⟩
  obtain ⟨c, hc⟩ : ∃ c, seg s 24 8 = c := ⟨_, rfl⟩
  obtain ⟨d, hd⟩ : ∃ d, seg s 32 8 = d := ⟨_, rfl⟩
  have hF := seg_lt s 0 4
  have mC := maskC (seg s 0 4) hF
  have mL := maskL (seg s 0 4) hF
  obtain ⟨C, hC⟩ : ∃ C, C = seg s 0 4 / 1048576 % 256 := ⟨_, rfl⟩
  obtain ⟨L, hL⟩ : ∃ L, L = seg s 0 4 % 1048576 := ⟨_, rfl⟩
  rw [← hC] at mC
  rw [← hL] at mL
  have HA := Lib.hid ha
  have HB := Lib.hid hb
  have HC2 := Lib.hid hc
  have HD := Lib.hid hd
  have hh : headG6 s = ⟨C, L, bt s 6, bt s 7, true, a, b, true, c, d⟩ := by
    unfold headG6; rw [if_pos he, hC, hL, ← ha, ← hb, ← hc, ← hd]; rfl
  have hp : payG6 s = s.extract 40 (40 + wt s 4) := if_pos he
  rw [hh, hp, he]
  show Calls _ _ _ _ fun e' w' => e' = .returned (.tuple #[.agg #[.int .i64 ((C : Int)), .int .i64 ((L : Int)), .int .i64 ((bt s 6 : Nat)), .int .i64 ((bt s 7 : Nat)), .bool (true), .int .u64 ((a : Int)), .int .u64 ((b : Int)), .bool (true), .int .u64 ((c : Int)), .int .u64 ((d : Int))], .string (s.extract 40 (40 + wt s 4)), .int .i64 0]) ∧ Below w.heap.size w w'
  clear h ha hb hc hd hC hL hF hh hp he
  have h40i : ¬ (s.size : Int) < 40 := by omega
  have hm : s.size ≤ maxLen := by unfold maxLen; omega
  go_enter Try.func9, Try.ntmps9
  go_wp2_with fail
  refine (new_any s _).mono ?_
  rintro e w1 ⟨rfl, rfl⟩
  go_wp2_with fail
  have HX : Hid (St6 s 0 w (((w.alloc (.cells #[.int .i64 0, .int .i64 0, .int .i64 0, .int .i64 0, .bool false, .int .u64 0, .int .u64 0, .bool false, .int .u64 0, .int .u64 0] 31)).alloc (.cells #[.string s] 9)).alloc (.cells #[.pointer (some ⟨w.heap.size + 1, 0, none⟩)] 63))) := by
    refine Lib.hid ⟨?_, ⟨?_, ?_, by omega⟩, ?_⟩
    · exact ((HasB.new w 31 #[.int .i64 0, .int .i64 0, .int .i64 0, .int .i64 0, .bool false, .int .u64 0, .int .u64 0, .bool false, .int .u64 0, .int .u64 0]).alloc _).alloc _
    · have := HasB.new ((w.alloc (.cells #[.int .i64 0, .int .i64 0, .int .i64 0, .int .i64 0, .bool false, .int .u64 0, .int .u64 0, .bool false, .int .u64 0, .int .u64 0] 31)).alloc (.cells #[.string s] 9)) 63 #[.pointer (some ⟨w.heap.size + 1, 0, none⟩)]
      simpa using this
    · have := (HasB.new (w.alloc (.cells #[.int .i64 0, .int .i64 0, .int .i64 0, .int .i64 0, .bool false, .int .u64 0, .int .u64 0, .bool false, .int .u64 0, .int .u64 0] 31)) 9 #[.string s]).alloc (.cells #[.pointer (some ⟨w.heap.size + 1, 0, none⟩)] 63)
      rw [show s.extract 0 s.size = s by apply ext_eq; rw [ext_str', List.drop_zero, Nat.sub_zero, size_list, List.take_length]]
      simpa using this
    · exact (((Below.refl _ w).alloc (Nat.le_refl _) _).alloc (by simp) _).alloc (by simp; omega) _
  (with_reducible refine (num_at (w.heap.size + 1 + 1) (w.heap.size + 1) s 0 4 4 rfl _ HX.out.rd hm (by omega) (by omega) (by omega)).mono ?_)
  rintro e wa ⟨rfl, hr, hk⟩
  replace HX := Lib.hid (HX.out.next hr hk)
  clear hr hk
  go_wp2_with fail
  (with_reducible refine (num2_at (w.heap.size + 1 + 1) (w.heap.size + 1) s 4 _ HX.out.rd hm (by omega)).mono ?_)
  rintro e wa ⟨rfl, hr, hk⟩
  replace HX := Lib.hid (HX.out.next hr hk)
  clear hr hk
  go_wp2_with fail
  (with_reducible refine (num1_at (w.heap.size + 1 + 1) (w.heap.size + 1) s 6 _ HX.out.rd hm (by omega)).mono ?_)
  rintro e wa ⟨rfl, hr, hk⟩
  replace HX := Lib.hid (HX.out.next hr hk)
  clear hr hk
  go_wp2_with fail
  (with_reducible refine (num1_at (w.heap.size + 1 + 1) (w.heap.size + 1) s 7 _ HX.out.rd hm (by omega)).mono ?_)
  rintro e wa ⟨rfl, hr, hk⟩
  replace HX := Lib.hid (HX.out.next hr hk)
  clear hr hk
  go_wp2_with fail
  (with_reducible refine (address6_any (w.heap.size + 1 + 1) (w.heap.size + 1) s 8 a b HA.out HB.out _ HX.out.rd hm (by omega)).mono ?_)
  rintro e wa ⟨rfl, hr, hk⟩
  replace HX := Lib.hid (HX.out.next hr hk)
  clear hr hk
  go_wp2_with fail
  (with_reducible refine (address6_any (w.heap.size + 1 + 1) (w.heap.size + 1) s 24 c d HC2.out HD.out _ HX.out.rd hm (by omega)).mono ?_)
  rintro e wa ⟨rfl, hr, hk⟩
  replace HX := Lib.hid (HX.out.next hr hk)
  clear hr hk
  have hz := HX.out.rd.1.lt
  have HN := HasB.new wa 31 #[.int .i64 ((C : Int)), .int .i64 ((L : Int)), .int .i64 ((bt s 6 : Nat)), .int .i64 ((bt s 7 : Nat)), .bool (true), .int .u64 ((a : Int)), .int .u64 ((b : Int)), .bool (true), .int .u64 ((c : Int)), .int .u64 ((d : Int))]
  have HX2 := HX.out.has.alloc (.cells #[.int .i64 ((C : Int)), .int .i64 ((L : Int)), .int .i64 ((bt s 6 : Nat)), .int .i64 ((bt s 7 : Nat)), .bool (true), .int .u64 ((a : Int)), .int .u64 ((b : Int)), .bool (true), .int .u64 ((c : Int)), .int .u64 ((d : Int))] 31)
  have HR2 := HX.out.rd.old (Below.alloc (Below.refl _ _) (Nat.le_refl _) (.cells #[.int .i64 ((C : Int)), .int .i64 ((L : Int)), .int .i64 ((bt s 6 : Nat)), .int .i64 ((bt s 7 : Nat)), .bool (true), .int .u64 ((a : Int)), .int .u64 ((b : Int)), .bool (true), .int .u64 ((c : Int)), .int .u64 ((d : Int))] 31))
  have HL2 := HX.out.below.alloc HX.out.below.size (.cells #[.int .i64 ((C : Int)), .int .i64 ((L : Int)), .int .i64 ((bt s 6 : Nat)), .int .i64 ((bt s 7 : Nat)), .bool (true), .int .u64 ((a : Int)), .int .u64 ((b : Int)), .bool (true), .int .u64 ((c : Int)), .int .u64 ((d : Int))] 31)
  clear HX
  go_wp2_with fail
  (with_reducible refine (text_at (w.heap.size + 1 + 1) (w.heap.size + 1) s (24 + 16) (wt s 4) _ rfl _ HR2 hm (by omega)).mono ?_)
  rintro e wb ⟨rfl, hr, hk⟩
  have HX3 := HasB.kept HX2 hk (by omega)
  have HN3 := HasB.kept HN hk (by omega)
  have HL3 := HL2.trans (hk.below (by simp; omega) (by omega))
  clear HX2 HL2 HR2 HN hk
  go_wp2_with fail
  (with_reducible refine (bad_any (w.heap.size + 1 + 1) (w.heap.size + 1) _ _ hr).mono ?_)
  rintro e wc ⟨rfl, rfl⟩
  have hro := HasB.rowOk HX3 (n := 10) rfl
  have hrn := HasB.rowOk HN3 (n := 10) rfl
  have hrw := HasB.rowOf HN3
  clear hr
  have hbr : ∀ x, badR (some x) = false := fun _ => rfl
  rw [hbr]
  clear HN3
  go_wp2_with fail
  have HW := HasB.setRow HX3 #[.int .i64 ((C : Int)), .int .i64 ((L : Int)), .int .i64 ((bt s 6 : Nat)), .int .i64 ((bt s 7 : Nat)), .bool (true), .int .u64 ((a : Int)), .int .u64 ((b : Int)), .bool (true), .int .u64 ((c : Int)), .int .u64 ((d : Int))]
  have HL := below_setRow HL3 (Nat.le_refl _) #[.int .i64 ((C : Int)), .int .i64 ((L : Int)), .int .i64 ((bt s 6 : Nat)), .int .i64 ((bt s 7 : Nat)), .bool (true), .int .u64 ((a : Int)), .int .u64 ((b : Int)), .bool (true), .int .u64 ((c : Int)), .int .u64 ((d : Int))]
  (try simp only [Exit.inBlock, Exit.then]); refine bodyPost_ret (v := .tuple #[.agg #[.int .i64 ((C : Int)), .int .i64 ((L : Int)), .int .i64 ((bt s 6 : Nat)), .int .i64 ((bt s 7 : Nat)), .bool (true), .int .u64 ((a : Int)), .int .u64 ((b : Int)), .bool (true), .int .u64 ((c : Int)), .int .u64 ((d : Int))], .string (s.extract 40 (40 + wt s 4)), .int .i64 0]) (results_cell3 Try.results9 _ _ w.heap.size _ _ rfl HW Try.underlying31 infoH6 rfl rfl) rfl ⟨rfl, HL⟩
theorem get6_any (s : ByteArray) (hs : s.size ≤ 1099511627776) (w : World) :
    Calls Try.prog 9 #[.string s] w fun e w' => e = .returned (.tuple #[.agg #[.int .i64 (headG6 s).cl, .int .i64 (headG6 s).lb, .int .i64 (headG6 s).nx, .int .i64 (headG6 s).hp, .bool (headG6 s).sv, .int .u64 (headG6 s).sh, .int .u64 (headG6 s).sl, .bool (headG6 s).dv, .int .u64 (headG6 s).dh, .int .u64 (headG6 s).dl], .string (payG6 s), .int .i64 (errG6 s)]) ∧ Below w.heap.size w w' := by
  by_cases h1 : s.size < 40
  · exact get6_short s hs w h1
  · by_cases h2 : seg s 0 4 / 268435456 = 6
    · by_cases h3 : s.size < 40 + wt s 4
      · exact get6_cut s hs w (by omega) h2 h3
      · exact get6_ok s hs w (errG6_is (by omega) h2 (by omega))
    · exact get6_form s hs w (by omega) h2
end Go.Proofs.Ytnlinfdfgalmjaa
