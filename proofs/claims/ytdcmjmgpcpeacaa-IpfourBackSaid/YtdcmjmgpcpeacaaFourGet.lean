/- The contract of package ipfour: read. -/
import Derived.Test.YtdcmjmgpcpeacaaFourRead
import Derived.Test.YtdcmjmgpcpeacaaFourCells
namespace Go.Proofs.Ytdcmjmgpcpeacaa
open Go.RowKit
set_option linter.unusedVariables false

/-- What holds while fields are read: the result's block, the reader, the fields. -/
def St (s : ByteArray) (p : Nat) (cs : Array Value) (w0 W : World) : Prop :=
  HasB W (w0.heap.size + 1 + 1 + 1) 53 cs ∧ HasB W w0.heap.size 53 #[.pointer none, .int .i64 0, .int .i64 0, .int .i64 0, .int .i64 0, .int .i64 0, .int .i64 0, .bool false, .int .i64 0, .int .i64 0, .bool false, .int .u64 0, .int .u64 0, .bool false, .int .u64 0, .int .u64 0, .string ⟨#[]⟩] ∧ Rd W (w0.heap.size + 1 + 1) (w0.heap.size + 1) (some (s.extract p s.size)) ∧ Below w0.heap.size w0 W
theorem St.next {s : ByteArray} {p p' : Nat} {cs : Array Value} {w0 W W' : World} (h : St s p cs w0 W) (hr : Rd W' (w0.heap.size + 1 + 1) (w0.heap.size + 1) (some (s.extract p' s.size))) (hk : Kept (fun k => k = w0.heap.size + 1 + 1 ∨ k = w0.heap.size + 1) W W') : St s p' cs w0 W' :=
  ⟨HasB.kept h.1 hk (by omega), HasB.kept h.2.1 hk (by omega), hr, h.2.2.2.trans (hk.below (Nat.le_trans (by omega) h.2.2.2.size) (by omega))⟩
theorem St.put {s : ByteArray} {p : Nat} {cs : Array Value} {w0 W : World} (h : St s p cs w0 W) (i : Nat) (v : Value) : St s p (cs.setIfInBounds i v) w0 (W.setCell ⟨w0.heap.size + 1 + 1 + 1, i, none⟩ v) :=
  ⟨HasB.put h.1 i v, HasB.far h.2.1 ⟨w0.heap.size + 1 + 1 + 1, i, none⟩ (by show _ ≠ w0.heap.size + 1 + 1 + 1; omega) v,
    Rd.keep h.2.2.1 (S := fun k => k = w0.heap.size + 1 + 1 + 1) (Kept.setCell (S := fun k => k = w0.heap.size + 1 + 1 + 1) (Kept.refl _ W) ⟨w0.heap.size + 1 + 1 + 1, i, none⟩ (.inr rfl) v) (by omega) (by omega),
    Below.setCell h.2.2.2 (by show w0.heap.size ≤ w0.heap.size + 1 + 1 + 1; omega) v⟩
theorem St.f {s : ByteArray} {p : Nat} {cs : Array Value} {w0 W : World} (h : St s p cs w0 W) : HasB W (w0.heap.size + 1 + 1 + 1) 53 cs := h.1
theorem St.rd {s : ByteArray} {p : Nat} {cs : Array Value} {w0 W : World} (h : St s p cs w0 W) : Rd W (w0.heap.size + 1 + 1) (w0.heap.size + 1) (some (s.extract p s.size)) := h.2.2.1
theorem St.lts {s : ByteArray} {p : Nat} {cs : Array Value} {w0 W : World} (h : St s p cs w0 W) : w0.heap.size + 1 + 1 < W.heap.size ∧ w0.heap.size + 1 < W.heap.size := ⟨h.2.2.1.1.lt, h.2.2.1.2.1.lt⟩
attribute [local go_sem ↓] ld53 st53
attribute [local go_sem] rowAt_p rowOkAt_p setAt_p aggOf_a rowOk_new rowOf_new setRow_new agg17
theorem Rd.lt1 {w : World} {b c : Nat} {s : ByteArray} (h : Rd w b c (some s)) : b < w.heap.size := h.1.lt
theorem Rd.lt2 {w : World} {b c : Nat} {s : ByteArray} (h : Rd w b c (some s)) : c < w.heap.size := h.2.1.lt
theorem and15 (x : Int) (h0 : 0 ≤ x) (h1 : x < 256) : bits .and .i64 x 15 = x % 16 :=
  bits_mask .i64 62 (by decide) (fun n h0 h1 => by rw [IntKind.wrap_i64]; omega) 4 (by decide) x h0 (by omega)
theorem and14 (x : Nat) (h1 : x < 65536) : bits .and .i64 (x : Int) 16384 = if x / 16384 % 2 = 1 then 16384 else 0 := by
  have h := (bits_nat .i64 62 (by decide) (fun n h0 h1 => by rw [IntKind.wrap_i64]; omega) x 16384 (by omega) (by decide)).1
  refine h.trans ?_
  have e : x &&& 16384 = if x.testBit 14 then 16384 else 0 := by
    have h2 : ∀ i, Nat.testBit 16384 i = decide (14 = i) := fun i => Nat.testBit_two_pow (n := 14) (m := i)
    apply Nat.eq_of_testBit_eq
    intro i
    rw [Nat.testBit_and, h2]
    by_cases hi : 14 = i
    · subst hi
      cases hx : x.testBit 14
      · simp
      · simp only [if_true, h2]; simp
    · cases hx : x.testBit 14
      · simp [hi]
      · simp only [if_true, h2]; simp [hi]
  rw [e, Nat.testBit_eq_decide_div_mod_eq]
  by_cases hh : x / 2 ^ 14 % 2 = 1
  · rw [decide_eq_true hh, if_pos hh]; rfl
  · rw [decide_eq_false hh, if_neg hh]; rfl
theorem and14b (x : Nat) (h1 : x < 65536) : (bits .and .i64 (x : Int) 16384 != 0) = decide (x / 16384 % 2 = 1) := by
  rw [and14 x h1]
  by_cases hh : x / 16384 % 2 = 1
  · rw [if_pos hh, decide_eq_true hh]; rfl
  · rw [if_neg hh, decide_eq_false hh]; rfl
set_option maxHeartbeats 2000000 in
theorem read4_any (s : ByteArray) (hs : s.size ≤ maxLen) (h20 : 20 ≤ s.size) (w : World) :
    Calls Try.prog 24 #[.string s] w fun e w' => e = .returned (.agg #[.pointer (some ⟨w.heap.size + 1 + 1, 0, none⟩), .int .i64 (((bt s 0 : Nat) : Int) / 16), .int .i64 ((sizeG s : Nat)), .int .i64 ((wt s 2 : Nat)), .int .i64 ((wt s 6 : Nat)), .int .i64 ((bt s 1 : Nat)), .int .i64 ((wt s 4 : Nat)), .bool (decide (wt s 6 / 16384 % 2 = 1)), .int .i64 ((bt s 8 : Nat)), .int .i64 ((bt s 9 : Nat)), .bool (false), .int .u64 (0), .int .u64 ((lowG s 12 : Nat)), .bool (false), .int .u64 (0), .int .u64 ((lowG s 16 : Nat)), .string (opG s)]) ∧ Below w.heap.size w w' := by
  have b0 := bt_lt s 0
  have hor := and15 (bt s 0) (by omega) (by omega)
  have hsz : ((bt s 0 : Nat) : Int) % 16 * 4 = (sizeG s : Nat) := by unfold sizeG; omega
  have h14 := and14b (wt s 6) (by have := wt_le s 6; omega)
  have hzl : sizeG s ≤ 60 := by unfold sizeG; omega
  go_enter Try.func24, Try.ntmps24
  go_wp2_with fail
  refine (new_any s _).mono ?_
  rintro e w1 ⟨rfl, rfl⟩
  go_wp2_with fail
  have HX : Hid (St s 0 #[.pointer (some ⟨w.heap.size + 1 + 1, 0, none⟩), .int .i64 (0), .int .i64 (0), .int .i64 (0), .int .i64 (0), .int .i64 (0), .int .i64 (0), .bool (false), .int .i64 (0), .int .i64 (0), .bool (false), .int .u64 (0), .int .u64 (0), .bool (false), .int .u64 (0), .int .u64 (0), .string (⟨#[]⟩)] w ((((w.alloc (.cells #[.pointer none, .int .i64 0, .int .i64 0, .int .i64 0, .int .i64 0, .int .i64 0, .int .i64 0, .bool false, .int .i64 0, .int .i64 0, .bool false, .int .u64 0, .int .u64 0, .bool false, .int .u64 0, .int .u64 0, .string ⟨#[]⟩] 53)).alloc (.cells #[.string s] 9)).alloc (.cells #[.pointer (some ⟨w.heap.size + 1, 0, none⟩)] 78)).alloc (.cells #[.pointer (some ⟨w.heap.size + 1 + 1, 0, none⟩), .int .i64 (0), .int .i64 (0), .int .i64 (0), .int .i64 (0), .int .i64 (0), .int .i64 (0), .bool (false), .int .i64 (0), .int .i64 (0), .bool (false), .int .u64 (0), .int .u64 (0), .bool (false), .int .u64 (0), .int .u64 (0), .string (⟨#[]⟩)] 53))) := by
    refine Lib.hid ⟨?_, ?_, ⟨?_, ?_, by omega⟩, ?_⟩
    · have := HasB.new (((w.alloc (.cells #[.pointer none, .int .i64 0, .int .i64 0, .int .i64 0, .int .i64 0, .int .i64 0, .int .i64 0, .bool false, .int .i64 0, .int .i64 0, .bool false, .int .u64 0, .int .u64 0, .bool false, .int .u64 0, .int .u64 0, .string ⟨#[]⟩] 53)).alloc (.cells #[.string s] 9)).alloc (.cells #[.pointer (some ⟨w.heap.size + 1, 0, none⟩)] 78)) 53 #[.pointer (some ⟨w.heap.size + 1 + 1, 0, none⟩), .int .i64 (0), .int .i64 (0), .int .i64 (0), .int .i64 (0), .int .i64 (0), .int .i64 (0), .bool (false), .int .i64 (0), .int .i64 (0), .bool (false), .int .u64 (0), .int .u64 (0), .bool (false), .int .u64 (0), .int .u64 (0), .string (⟨#[]⟩)]
      simpa using this
    · exact (((HasB.new w 53 #[.pointer none, .int .i64 0, .int .i64 0, .int .i64 0, .int .i64 0, .int .i64 0, .int .i64 0, .bool false, .int .i64 0, .int .i64 0, .bool false, .int .u64 0, .int .u64 0, .bool false, .int .u64 0, .int .u64 0, .string ⟨#[]⟩]).alloc _).alloc _).alloc _
    · have := (HasB.new ((w.alloc (.cells #[.pointer none, .int .i64 0, .int .i64 0, .int .i64 0, .int .i64 0, .int .i64 0, .int .i64 0, .bool false, .int .i64 0, .int .i64 0, .bool false, .int .u64 0, .int .u64 0, .bool false, .int .u64 0, .int .u64 0, .string ⟨#[]⟩] 53)).alloc (.cells #[.string s] 9)) 78 #[.pointer (some ⟨w.heap.size + 1, 0, none⟩)]).alloc (.cells #[.pointer (some ⟨w.heap.size + 1 + 1, 0, none⟩), .int .i64 (0), .int .i64 (0), .int .i64 (0), .int .i64 (0), .int .i64 (0), .int .i64 (0), .bool (false), .int .i64 (0), .int .i64 (0), .bool (false), .int .u64 (0), .int .u64 (0), .bool (false), .int .u64 (0), .int .u64 (0), .string (⟨#[]⟩)] 53)
      simpa using this
    · have := ((HasB.new (w.alloc (.cells #[.pointer none, .int .i64 0, .int .i64 0, .int .i64 0, .int .i64 0, .int .i64 0, .int .i64 0, .bool false, .int .i64 0, .int .i64 0, .bool false, .int .u64 0, .int .u64 0, .bool false, .int .u64 0, .int .u64 0, .string ⟨#[]⟩] 53)) 9 #[.string s]).alloc (.cells #[.pointer (some ⟨w.heap.size + 1, 0, none⟩)] 78)).alloc (.cells #[.pointer (some ⟨w.heap.size + 1 + 1, 0, none⟩), .int .i64 (0), .int .i64 (0), .int .i64 (0), .int .i64 (0), .int .i64 (0), .int .i64 (0), .bool (false), .int .i64 (0), .int .i64 (0), .bool (false), .int .u64 (0), .int .u64 (0), .bool (false), .int .u64 (0), .int .u64 (0), .string (⟨#[]⟩)] 53)
      rw [show s.extract 0 s.size = s by apply ext_eq; rw [ext_str', List.drop_zero, Nat.sub_zero, size_list, List.take_length]]
      simpa using this
    · exact ((((Below.refl _ w).alloc (Nat.le_refl _) _).alloc (by simp) _).alloc (by simp; omega) _).alloc (by simp; omega) _
  (with_reducible refine (num1_at (w.heap.size + 1 + 1) (w.heap.size + 1) s 0 _ HX.out.rd hs (by omega)).mono ?_)
  rintro e wa ⟨rfl, hr, hk⟩
  replace HX := Lib.hid (HX.out.next hr hk)
  clear hr hk
  have c0 := HasB.cell HX.out.f 0 (.pointer (some ⟨w.heap.size + 1 + 1, 0, none⟩)) rfl
  have c1 := HasB.cell HX.out.f 1 (.int .i64 (0)) rfl
  have c2 := HasB.cell HX.out.f 2 (.int .i64 (0)) rfl
  have f1 := HasB.free HX.out.f 1
  have f2 := HasB.free HX.out.f 2
  go_wp2_with fail
  clear c0 c1 c2 f1 f2
  have HY := ((HX.out.put 1 (.int .i64 (((bt s 0 : Nat) : Int) / 16))).put 2 (.int .i64 ((sizeG s : Nat))))
  replace HX : Hid (St s 1 #[.pointer (some ⟨w.heap.size + 1 + 1, 0, none⟩), .int .i64 (((bt s 0 : Nat) : Int) / 16), .int .i64 ((sizeG s : Nat)), .int .i64 (0), .int .i64 (0), .int .i64 (0), .int .i64 (0), .bool (false), .int .i64 (0), .int .i64 (0), .bool (false), .int .u64 (0), .int .u64 (0), .bool (false), .int .u64 (0), .int .u64 (0), .string (⟨#[]⟩)] w _) := Lib.hid (by exact HY)
  clear HY
  (with_reducible refine (num1_at (w.heap.size + 1 + 1) (w.heap.size + 1) s 1 _ HX.out.rd hs (by omega)).mono ?_)
  rintro e wa ⟨rfl, hr, hk⟩
  replace HX := Lib.hid (HX.out.next hr hk)
  clear hr hk
  have c0 := HasB.cell HX.out.f 0 (.pointer (some ⟨w.heap.size + 1 + 1, 0, none⟩)) rfl
  have c5 := HasB.cell HX.out.f 5 (.int .i64 (0)) rfl
  have f5 := HasB.free HX.out.f 5
  go_wp2_with fail
  clear c0 c5 f5
  have HY := (HX.out.put 5 (.int .i64 ((bt s 1 : Nat))))
  replace HX : Hid (St s 2 #[.pointer (some ⟨w.heap.size + 1 + 1, 0, none⟩), .int .i64 (((bt s 0 : Nat) : Int) / 16), .int .i64 ((sizeG s : Nat)), .int .i64 (0), .int .i64 (0), .int .i64 ((bt s 1 : Nat)), .int .i64 (0), .bool (false), .int .i64 (0), .int .i64 (0), .bool (false), .int .u64 (0), .int .u64 (0), .bool (false), .int .u64 (0), .int .u64 (0), .string (⟨#[]⟩)] w _) := Lib.hid (by exact HY)
  clear HY
  (with_reducible refine (num2_at (w.heap.size + 1 + 1) (w.heap.size + 1) s 2 _ HX.out.rd hs (by omega)).mono ?_)
  rintro e wa ⟨rfl, hr, hk⟩
  replace HX := Lib.hid (HX.out.next hr hk)
  clear hr hk
  have c0 := HasB.cell HX.out.f 0 (.pointer (some ⟨w.heap.size + 1 + 1, 0, none⟩)) rfl
  have c3 := HasB.cell HX.out.f 3 (.int .i64 (0)) rfl
  have f3 := HasB.free HX.out.f 3
  go_wp2_with fail
  clear c0 c3 f3
  have HY := (HX.out.put 3 (.int .i64 ((wt s 2 : Nat))))
  replace HX : Hid (St s 4 #[.pointer (some ⟨w.heap.size + 1 + 1, 0, none⟩), .int .i64 (((bt s 0 : Nat) : Int) / 16), .int .i64 ((sizeG s : Nat)), .int .i64 ((wt s 2 : Nat)), .int .i64 (0), .int .i64 ((bt s 1 : Nat)), .int .i64 (0), .bool (false), .int .i64 (0), .int .i64 (0), .bool (false), .int .u64 (0), .int .u64 (0), .bool (false), .int .u64 (0), .int .u64 (0), .string (⟨#[]⟩)] w _) := Lib.hid (by exact HY)
  clear HY
  (with_reducible refine (num2_at (w.heap.size + 1 + 1) (w.heap.size + 1) s 4 _ HX.out.rd hs (by omega)).mono ?_)
  rintro e wa ⟨rfl, hr, hk⟩
  replace HX := Lib.hid (HX.out.next hr hk)
  clear hr hk
  have c0 := HasB.cell HX.out.f 0 (.pointer (some ⟨w.heap.size + 1 + 1, 0, none⟩)) rfl
  have c6 := HasB.cell HX.out.f 6 (.int .i64 (0)) rfl
  have f6 := HasB.free HX.out.f 6
  go_wp2_with fail
  clear c0 c6 f6
  have HY := (HX.out.put 6 (.int .i64 ((wt s 4 : Nat))))
  replace HX : Hid (St s 6 #[.pointer (some ⟨w.heap.size + 1 + 1, 0, none⟩), .int .i64 (((bt s 0 : Nat) : Int) / 16), .int .i64 ((sizeG s : Nat)), .int .i64 ((wt s 2 : Nat)), .int .i64 (0), .int .i64 ((bt s 1 : Nat)), .int .i64 ((wt s 4 : Nat)), .bool (false), .int .i64 (0), .int .i64 (0), .bool (false), .int .u64 (0), .int .u64 (0), .bool (false), .int .u64 (0), .int .u64 (0), .string (⟨#[]⟩)] w _) := Lib.hid (by exact HY)
  clear HY
  (with_reducible refine (num2_at (w.heap.size + 1 + 1) (w.heap.size + 1) s 6 _ HX.out.rd hs (by omega)).mono ?_)
  rintro e wa ⟨rfl, hr, hk⟩
  replace HX := Lib.hid (HX.out.next hr hk)
  clear hr hk
  have c0 := HasB.cell HX.out.f 0 (.pointer (some ⟨w.heap.size + 1 + 1, 0, none⟩)) rfl
  have c4 := HasB.cell HX.out.f 4 (.int .i64 (0)) rfl
  have c7 := HasB.cell HX.out.f 7 (.bool (false)) rfl
  have f4 := HasB.free HX.out.f 4
  have f7 := HasB.free HX.out.f 7
  go_wp2_with fail
  clear c0 c4 c7 f4 f7
  have HY := ((HX.out.put 4 (.int .i64 ((wt s 6 : Nat)))).put 7 (.bool (decide (wt s 6 / 16384 % 2 = 1))))
  replace HX : Hid (St s 8 #[.pointer (some ⟨w.heap.size + 1 + 1, 0, none⟩), .int .i64 (((bt s 0 : Nat) : Int) / 16), .int .i64 ((sizeG s : Nat)), .int .i64 ((wt s 2 : Nat)), .int .i64 ((wt s 6 : Nat)), .int .i64 ((bt s 1 : Nat)), .int .i64 ((wt s 4 : Nat)), .bool (decide (wt s 6 / 16384 % 2 = 1)), .int .i64 (0), .int .i64 (0), .bool (false), .int .u64 (0), .int .u64 (0), .bool (false), .int .u64 (0), .int .u64 (0), .string (⟨#[]⟩)] w _) := Lib.hid (by exact HY)
  clear HY
  (with_reducible refine (num1_at (w.heap.size + 1 + 1) (w.heap.size + 1) s 8 _ HX.out.rd hs (by omega)).mono ?_)
  rintro e wa ⟨rfl, hr, hk⟩
  replace HX := Lib.hid (HX.out.next hr hk)
  clear hr hk
  have c0 := HasB.cell HX.out.f 0 (.pointer (some ⟨w.heap.size + 1 + 1, 0, none⟩)) rfl
  have c8 := HasB.cell HX.out.f 8 (.int .i64 (0)) rfl
  have f8 := HasB.free HX.out.f 8
  go_wp2_with fail
  clear c0 c8 f8
  have HY := (HX.out.put 8 (.int .i64 ((bt s 8 : Nat))))
  replace HX : Hid (St s 9 #[.pointer (some ⟨w.heap.size + 1 + 1, 0, none⟩), .int .i64 (((bt s 0 : Nat) : Int) / 16), .int .i64 ((sizeG s : Nat)), .int .i64 ((wt s 2 : Nat)), .int .i64 ((wt s 6 : Nat)), .int .i64 ((bt s 1 : Nat)), .int .i64 ((wt s 4 : Nat)), .bool (decide (wt s 6 / 16384 % 2 = 1)), .int .i64 ((bt s 8 : Nat)), .int .i64 (0), .bool (false), .int .u64 (0), .int .u64 (0), .bool (false), .int .u64 (0), .int .u64 (0), .string (⟨#[]⟩)] w _) := Lib.hid (by exact HY)
  clear HY
  (with_reducible refine (num1_at (w.heap.size + 1 + 1) (w.heap.size + 1) s 9 _ HX.out.rd hs (by omega)).mono ?_)
  rintro e wa ⟨rfl, hr, hk⟩
  replace HX := Lib.hid (HX.out.next hr hk)
  clear hr hk
  have c0 := HasB.cell HX.out.f 0 (.pointer (some ⟨w.heap.size + 1 + 1, 0, none⟩)) rfl
  have c9 := HasB.cell HX.out.f 9 (.int .i64 (0)) rfl
  have f9 := HasB.free HX.out.f 9
  go_wp2_with fail
  clear c0 c9 f9
  have HY := (HX.out.put 9 (.int .i64 ((bt s 9 : Nat))))
  replace HX : Hid (St s 10 #[.pointer (some ⟨w.heap.size + 1 + 1, 0, none⟩), .int .i64 (((bt s 0 : Nat) : Int) / 16), .int .i64 ((sizeG s : Nat)), .int .i64 ((wt s 2 : Nat)), .int .i64 ((wt s 6 : Nat)), .int .i64 ((bt s 1 : Nat)), .int .i64 ((wt s 4 : Nat)), .bool (decide (wt s 6 / 16384 % 2 = 1)), .int .i64 ((bt s 8 : Nat)), .int .i64 ((bt s 9 : Nat)), .bool (false), .int .u64 (0), .int .u64 (0), .bool (false), .int .u64 (0), .int .u64 (0), .string (⟨#[]⟩)] w _) := Lib.hid (by exact HY)
  clear HY
  (with_reducible refine (text_at (w.heap.size + 1 + 1) (w.heap.size + 1) s 10 2 2 rfl _ HX.out.rd hs (by omega)).mono ?_)
  rintro e wa ⟨rfl, hr, hk⟩
  replace HX := Lib.hid (HX.out.next hr hk)
  clear hr hk
  have c0 := HasB.cell HX.out.f 0 (.pointer (some ⟨w.heap.size + 1 + 1, 0, none⟩)) rfl
  have HW : HasB _ _ _ #[.pointer (some ⟨w.heap.size + 1 + 1, 0, none⟩), .int .i64 (((bt s 0 : Nat) : Int) / 16), .int .i64 ((sizeG s : Nat)), .int .i64 ((wt s 2 : Nat)), .int .i64 ((wt s 6 : Nat)), .int .i64 ((bt s 1 : Nat)), .int .i64 ((wt s 4 : Nat)), .bool (decide (wt s 6 / 16384 % 2 = 1)), .int .i64 ((bt s 8 : Nat)), .int .i64 ((bt s 9 : Nat)), .bool (false), .int .u64 (0), .int .u64 (0), .bool (false), .int .u64 (0), .int .u64 (0), .string (⟨#[]⟩)] := (HX.out).f
  have hro := HasB.rowOk HW (n := 17) rfl
  have hrw := HasB.rowOf HW
  clear HW
  go_wp2_with fail
  clear hro hrw
  clear c0
  have HY := HX.out
  replace HX : Hid (St s 12 #[.pointer (some ⟨w.heap.size + 1 + 1, 0, none⟩), .int .i64 (((bt s 0 : Nat) : Int) / 16), .int .i64 ((sizeG s : Nat)), .int .i64 ((wt s 2 : Nat)), .int .i64 ((wt s 6 : Nat)), .int .i64 ((bt s 1 : Nat)), .int .i64 ((wt s 4 : Nat)), .bool (decide (wt s 6 / 16384 % 2 = 1)), .int .i64 ((bt s 8 : Nat)), .int .i64 ((bt s 9 : Nat)), .bool (false), .int .u64 (0), .int .u64 (0), .bool (false), .int .u64 (0), .int .u64 (0), .string (⟨#[]⟩)] w _) := Lib.hid (by exact HY)
  clear HY
  (with_reducible refine (address_any (w.heap.size + 1 + 1) (w.heap.size + 1) s 12 _ _ _ _ _ _ _ _ _ _ _ _ _ _ _ _ _ HX.out.rd HX.out.lts hs (by omega)).mono ?_)
  rintro e wa ⟨rfl, hr, hk⟩
  replace HX := Lib.hid (HX.out.next hr hk)
  clear hr hk
  have c0 := HasB.cell HX.out.f 0 (.pointer (some ⟨w.heap.size + 1 + 1, 0, none⟩)) rfl
  have c10 := HasB.cell HX.out.f 10 (.bool (false)) rfl
  have c11 := HasB.cell HX.out.f 11 (.int .u64 (0)) rfl
  have c12 := HasB.cell HX.out.f 12 (.int .u64 (0)) rfl
  have f10 := HasB.free HX.out.f 10
  have f11 := HasB.free HX.out.f 11
  have f12 := HasB.free HX.out.f 12
  have HW : HasB _ _ _ #[.pointer (some ⟨w.heap.size + 1 + 1, 0, none⟩), .int .i64 (((bt s 0 : Nat) : Int) / 16), .int .i64 ((sizeG s : Nat)), .int .i64 ((wt s 2 : Nat)), .int .i64 ((wt s 6 : Nat)), .int .i64 ((bt s 1 : Nat)), .int .i64 ((wt s 4 : Nat)), .bool (decide (wt s 6 / 16384 % 2 = 1)), .int .i64 ((bt s 8 : Nat)), .int .i64 ((bt s 9 : Nat)), .bool (false), .int .u64 (0), .int .u64 ((lowG s 12 : Nat)), .bool (false), .int .u64 (0), .int .u64 (0), .string (⟨#[]⟩)] := ((((HX.out.put 10 (.bool (false))).put 11 (.int .u64 (0))).put 12 (.int .u64 ((lowG s 12 : Nat))))).f
  have hro := HasB.rowOk HW (n := 17) rfl
  have hrw := HasB.rowOf HW
  clear HW
  go_wp2_with fail
  clear hro hrw
  clear c0 c10 c11 c12 f10 f11 f12
  have HY := (((HX.out.put 10 (.bool (false))).put 11 (.int .u64 (0))).put 12 (.int .u64 ((lowG s 12 : Nat))))
  replace HX : Hid (St s 16 #[.pointer (some ⟨w.heap.size + 1 + 1, 0, none⟩), .int .i64 (((bt s 0 : Nat) : Int) / 16), .int .i64 ((sizeG s : Nat)), .int .i64 ((wt s 2 : Nat)), .int .i64 ((wt s 6 : Nat)), .int .i64 ((bt s 1 : Nat)), .int .i64 ((wt s 4 : Nat)), .bool (decide (wt s 6 / 16384 % 2 = 1)), .int .i64 ((bt s 8 : Nat)), .int .i64 ((bt s 9 : Nat)), .bool (false), .int .u64 (0), .int .u64 ((lowG s 12 : Nat)), .bool (false), .int .u64 (0), .int .u64 (0), .string (⟨#[]⟩)] w _) := Lib.hid (by exact HY)
  clear HY
  (with_reducible refine (address_any (w.heap.size + 1 + 1) (w.heap.size + 1) s 16 _ _ _ _ _ _ _ _ _ _ _ _ _ _ _ _ _ HX.out.rd HX.out.lts hs (by omega)).mono ?_)
  rintro e wa ⟨rfl, hr, hk⟩
  replace HX := Lib.hid (HX.out.next hr hk)
  clear hr hk
  have c0 := HasB.cell HX.out.f 0 (.pointer (some ⟨w.heap.size + 1 + 1, 0, none⟩)) rfl
  have c2 := HasB.cell HX.out.f 2 (.int .i64 ((sizeG s : Nat))) rfl
  have c13 := HasB.cell HX.out.f 13 (.bool (false)) rfl
  have c14 := HasB.cell HX.out.f 14 (.int .u64 (0)) rfl
  have c15 := HasB.cell HX.out.f 15 (.int .u64 (0)) rfl
  have f13 := HasB.free HX.out.f 13
  have f14 := HasB.free HX.out.f 14
  have f15 := HasB.free HX.out.f 15
  go_wp2_with fail
  clear c0 c2 c13 c14 c15 f13 f14 f15
  have HY := (((HX.out.put 13 (.bool (false))).put 14 (.int .u64 (0))).put 15 (.int .u64 ((lowG s 16 : Nat))))
  replace HX : Hid (St s 20 #[.pointer (some ⟨w.heap.size + 1 + 1, 0, none⟩), .int .i64 (((bt s 0 : Nat) : Int) / 16), .int .i64 ((sizeG s : Nat)), .int .i64 ((wt s 2 : Nat)), .int .i64 ((wt s 6 : Nat)), .int .i64 ((bt s 1 : Nat)), .int .i64 ((wt s 4 : Nat)), .bool (decide (wt s 6 / 16384 % 2 = 1)), .int .i64 ((bt s 8 : Nat)), .int .i64 ((bt s 9 : Nat)), .bool (false), .int .u64 (0), .int .u64 ((lowG s 12 : Nat)), .bool (false), .int .u64 (0), .int .u64 ((lowG s 16 : Nat)), .string (⟨#[]⟩)] w _) := Lib.hid (by exact HY)
  clear HY
  (with_reducible refine (textOp_at (w.heap.size + 1 + 1) (w.heap.size + 1) s _ HX.out.rd hs h20).mono ?_)
  rintro e wa ⟨rfl, hk⟩
  have HF := HasB.kept HX.out.1 hk (by omega)
  have HR := HasB.kept HX.out.2.1 hk (by omega)
  have HB := Lib.hid (HX.out.2.2.2.trans (hk.below (Nat.le_trans (by omega) HX.out.2.2.2.size) (by omega)))
  have c16 := HasB.cell HF 16 (.string ⟨#[]⟩) rfl
  have f16 := HasB.free HF 16
  have HG : HasB _ _ _ #[.pointer (some ⟨w.heap.size + 1 + 1, 0, none⟩), .int .i64 (((bt s 0 : Nat) : Int) / 16), .int .i64 ((sizeG s : Nat)), .int .i64 ((wt s 2 : Nat)), .int .i64 ((wt s 6 : Nat)), .int .i64 ((bt s 1 : Nat)), .int .i64 ((wt s 4 : Nat)), .bool (decide (wt s 6 / 16384 % 2 = 1)), .int .i64 ((bt s 8 : Nat)), .int .i64 ((bt s 9 : Nat)), .bool (false), .int .u64 (0), .int .u64 ((lowG s 12 : Nat)), .bool (false), .int .u64 (0), .int .u64 ((lowG s 16 : Nat)), .string (opG s)] := HasB.put HF 16 (.string (opG s))
  have hro := HasB.rowOk HG (n := 17) rfl
  have hrw := HasB.rowOf HG
  have hrr := HasB.rowOk (HasB.far HR ⟨w.heap.size + 1 + 1 + 1, 16, none⟩ (by show _ ≠ w.heap.size + 1 + 1 + 1; omega) (.string (opG s))) (n := 17) rfl
  clear hk HX HG HF
  go_wp2_with fail
  clear hro hrw hrr c16 f16
  have HW := HasB.setRow ((HasB.far HR ⟨w.heap.size + 1 + 1 + 1, 16, none⟩ (by show _ ≠ w.heap.size + 1 + 1 + 1; omega) (.string (opG s)))) #[.pointer (some ⟨w.heap.size + 1 + 1, 0, none⟩), .int .i64 (((bt s 0 : Nat) : Int) / 16), .int .i64 ((sizeG s : Nat)), .int .i64 ((wt s 2 : Nat)), .int .i64 ((wt s 6 : Nat)), .int .i64 ((bt s 1 : Nat)), .int .i64 ((wt s 4 : Nat)), .bool (decide (wt s 6 / 16384 % 2 = 1)), .int .i64 ((bt s 8 : Nat)), .int .i64 ((bt s 9 : Nat)), .bool (false), .int .u64 (0), .int .u64 ((lowG s 12 : Nat)), .bool (false), .int .u64 (0), .int .u64 ((lowG s 16 : Nat)), .string (opG s)]
  have HL := below_setRow (Below.setCell (p := ⟨w.heap.size + 1 + 1 + 1, 16, none⟩) HB.out (by show w.heap.size ≤ w.heap.size + 1 + 1 + 1; omega) (.string (opG s))) (Nat.le_refl _) #[.pointer (some ⟨w.heap.size + 1 + 1, 0, none⟩), .int .i64 (((bt s 0 : Nat) : Int) / 16), .int .i64 ((sizeG s : Nat)), .int .i64 ((wt s 2 : Nat)), .int .i64 ((wt s 6 : Nat)), .int .i64 ((bt s 1 : Nat)), .int .i64 ((wt s 4 : Nat)), .bool (decide (wt s 6 / 16384 % 2 = 1)), .int .i64 ((bt s 8 : Nat)), .int .i64 ((bt s 9 : Nat)), .bool (false), .int .u64 (0), .int .u64 ((lowG s 12 : Nat)), .bool (false), .int .u64 (0), .int .u64 ((lowG s 16 : Nat)), .string (opG s)]
  try simp only [Exit.inBlock, Exit.then]
  refine bodyPost_ret (v := .agg #[.pointer (some ⟨w.heap.size + 1 + 1, 0, none⟩), .int .i64 (((bt s 0 : Nat) : Int) / 16), .int .i64 ((sizeG s : Nat)), .int .i64 ((wt s 2 : Nat)), .int .i64 ((wt s 6 : Nat)), .int .i64 ((bt s 1 : Nat)), .int .i64 ((wt s 4 : Nat)), .bool (decide (wt s 6 / 16384 % 2 = 1)), .int .i64 ((bt s 8 : Nat)), .int .i64 ((bt s 9 : Nat)), .bool (false), .int .u64 (0), .int .u64 ((lowG s 12 : Nat)), .bool (false), .int .u64 (0), .int .u64 ((lowG s 16 : Nat)), .string (opG s)]) (results_cell_row Try.results24 _ _ w.heap.size _ _ _ _ rfl HW Try.underlying53 rfl info53) rfl ⟨rfl, HL⟩
end Go.Proofs.Ytdcmjmgpcpeacaa
