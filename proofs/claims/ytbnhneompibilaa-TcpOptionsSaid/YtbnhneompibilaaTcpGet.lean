/- The contracts of package tcp: read, Get. -/
import Derived.Test.YtbnhneompibilaaTcpWalks
import Derived.Test.YtbnhneompibilaaTcpVisit
import Derived.Deep.RegionHeld3
namespace Go.Proofs.Ytbnhneompibilaa
open Go.RowKit
set_option linter.unusedVariables false

theorem infoF7 : (Try.prog.info? 68).map (·.size) = some 10 := by kernel_rfl
theorem ldF7 {ρ : Operand → Value} {x : Operand} {dst : Option Tmp} {ty : TypeId} {pos : String} {after : Array Edge} {guard : Option (Nat × Bool)} {w : World} (h : rowOkAt 10 w (ρ x) = true) : (execOp ρ { dst, op := .load 68 x, type := ty, pos, after, guard }).run Try.prog w = .ok (.value (.agg (rowAt w (ρ x)))) w := exec_load infoF7 Try.underlying68 h
theorem stF7 {ρ : Operand → Value} {x y : Operand} {dst : Option Tmp} {ty : TypeId} {pos : String} {after : Array Edge} {guard : Option (Nat × Bool)} {w : World} (h : rowOkAt 10 w (ρ x) = true) (hy : aggOk 10 (ρ y) = true) : (execOp ρ { dst, op := .store 68 x y, type := ty, pos, after, guard }).run Try.prog w = .ok .skip (setAt w (ρ x) (aggOf (ρ y))) := exec_store infoF7 h hy
theorem aggF7 (sz sr sp dp sq ak fl wn ur : Int) (op : ByteArray) : aggOk 10 (.agg #[.int .i64 (sz), .int .i64 (sr), .int .i64 (sp), .int .i64 (dp), .int .u32 (sq), .int .u32 (ak), .int .i64 (fl), .int .i64 (wn), .int .i64 (ur), .string (op)]) = true := by simp [aggOk, Value.oneCell']
/-- The options that are read. -/
def opT (s : ByteArray) : ByteArray := if 20 ≤ szG s ∧ szG s ≤ s.size then s.extract 20 (szG s) else ⟨#[]⟩
theorem textOp7_at (b c : Nat) (s : ByteArray) (w : World) (h : Rd w b c (some (s.extract 20 s.size))) (hs : s.size ≤ maxLen) (hp : 20 ≤ s.size) :
    Calls Try.prog 53 #[.pointer (some ⟨b, 0, none⟩), .int .i64 ((szG s : Int) - 20)] w fun e w' => e = .returned (.string (opT s)) ∧ Kept (fun k => k = b ∨ k = c) w w' := by
  have hz : (s.extract 20 s.size).size = s.size - 20 := by rw [ByteArray.size_extract]; omega
  refine (textRd_any b c _ ((szG s : Int) - 20) w h (rd_sz s 20 hs)).mono ?_
  rintro e w' ⟨rfl, _, hk⟩
  refine ⟨?_, hk⟩
  unfold opT
  by_cases hh : 20 ≤ szG s ∧ szG s ≤ s.size
  · rw [if_pos hh, show ((szG s : Int) - 20) = ((szG s - 20 : Nat) : Int) by omega, textR_at s 20 (szG s - 20) (by omega), show 20 + (szG s - 20) = szG s by omega]
  · rw [if_neg hh, textR_no (by rw [hz]; omega)]
/-- What holds while fields are read: the result's block, the reader, the fields. -/
def St7 (s : ByteArray) (p : Nat) (cs : Array Value) (w0 W : World) : Prop :=
  HasB W (w0.heap.size + 1 + 1 + 1) 68 cs ∧ HasB W w0.heap.size 68 #[.int .i64 0, .int .i64 0, .int .i64 0, .int .i64 0, .int .u32 0, .int .u32 0, .int .i64 0, .int .i64 0, .int .i64 0, .string ⟨#[]⟩] ∧ Rd W (w0.heap.size + 1 + 1) (w0.heap.size + 1) (some (s.extract p s.size)) ∧ Below w0.heap.size w0 W
theorem St7.next {s : ByteArray} {p p' : Nat} {cs : Array Value} {w0 W W' : World} (h : St7 s p cs w0 W) (hr : Rd W' (w0.heap.size + 1 + 1) (w0.heap.size + 1) (some (s.extract p' s.size))) (hk : Kept (fun k => k = w0.heap.size + 1 + 1 ∨ k = w0.heap.size + 1) W W') : St7 s p' cs w0 W' :=
  ⟨HasB.kept h.1 hk (by omega), HasB.kept h.2.1 hk (by omega), hr, h.2.2.2.trans (hk.below (Nat.le_trans (by omega) h.2.2.2.size) (by omega))⟩
theorem St7.put {s : ByteArray} {p : Nat} {cs : Array Value} {w0 W : World} (h : St7 s p cs w0 W) (i : Nat) (v : Value) : St7 s p (cs.setIfInBounds i v) w0 (W.setCell ⟨w0.heap.size + 1 + 1 + 1, i, none⟩ v) :=
  ⟨HasB.put h.1 i v, HasB.far h.2.1 ⟨w0.heap.size + 1 + 1 + 1, i, none⟩ (by show _ ≠ w0.heap.size + 1 + 1 + 1; omega) v,
    Rd.keep h.2.2.1 (S := fun k => k = w0.heap.size + 1 + 1 + 1) (Kept.setCell (S := fun k => k = w0.heap.size + 1 + 1 + 1) (Kept.refl _ W) ⟨w0.heap.size + 1 + 1 + 1, i, none⟩ (.inr rfl) v) (by omega) (by omega),
    Below.setCell h.2.2.2 (by show w0.heap.size ≤ w0.heap.size + 1 + 1 + 1; omega) v⟩
theorem St7.f {s : ByteArray} {p : Nat} {cs : Array Value} {w0 W : World} (h : St7 s p cs w0 W) : HasB W (w0.heap.size + 1 + 1 + 1) 68 cs := h.1
theorem St7.rd {s : ByteArray} {p : Nat} {cs : Array Value} {w0 W : World} (h : St7 s p cs w0 W) : Rd W (w0.heap.size + 1 + 1) (w0.heap.size + 1) (some (s.extract p s.size)) := h.2.2.1
attribute [local go_sem ↓] ldF7 stF7
attribute [local go_sem] rowAt_p rowOkAt_p setAt_p aggOf_a rowOk_new rowOf_new setRow_new aggF7
theorem and15T (x : Int) (h0 : 0 ≤ x) (h1 : x < 256) : bits .and .i64 x 15 = x % 16 :=
  bits_mask .i64 62 (by decide) (fun n h0 h1 => by rw [IntKind.wrap_i64]; omega) 4 (by decide) x h0 (by omega)
set_option maxHeartbeats 2000000 in
theorem read7_any (s : ByteArray) (hs : s.size ≤ maxLen) (h20 : 20 ≤ s.size) (w : World) :
    Calls Try.prog 30 #[.string s] w fun e w' => e = .returned (.agg #[.int .i64 ((szG s : Nat)), .int .i64 (((bt s 12 : Nat) : Int) % 16), .int .i64 ((wt s 0 : Nat)), .int .i64 ((wt s 2 : Nat)), .int .u32 ((seg s 4 4 : Nat)), .int .u32 ((seg s 8 4 : Nat)), .int .i64 ((bt s 13 : Nat)), .int .i64 ((wt s 14 : Nat)), .int .i64 ((wt s 18 : Nat)), .string (opT s)]) ∧ Below w.heap.size w w' := by
  have b0 := bt_lt s 12
  have hand := and15T (bt s 12) (by omega) (by omega)
  have hsz : ((bt s 12 : Nat) : Int) / 16 * 4 = (szG s : Nat) := by unfold szG; omega
  have hzl : szG s ≤ 60 := by unfold szG; omega
  have u1 : IntKind.u32.wrap (seg s 4 4 : Nat) = (seg s 4 4 : Nat) := wrapT32 (seg_lt s 4 4)
  have u2 : IntKind.u32.wrap (seg s 8 4 : Nat) = (seg s 8 4 : Nat) := wrapT32 (seg_lt s 8 4)
  go_enter Try.func30, Try.ntmps30
  go_wp2_with fail
  refine (new_any s _).mono ?_
  rintro e w1 ⟨rfl, rfl⟩
  go_wp2_with fail
  have HX : Hid (St7 s 0 #[.int .i64 (0), .int .i64 (0), .int .i64 (0), .int .i64 (0), .int .u32 (0), .int .u32 (0), .int .i64 (0), .int .i64 (0), .int .i64 (0), .string (⟨#[]⟩)] w ((((w.alloc (.cells #[.int .i64 0, .int .i64 0, .int .i64 0, .int .i64 0, .int .u32 0, .int .u32 0, .int .i64 0, .int .i64 0, .int .i64 0, .string ⟨#[]⟩] 68)).alloc (.cells #[.string s] 9)).alloc (.cells #[.pointer (some ⟨w.heap.size + 1, 0, none⟩)] 98)).alloc (.cells #[.int .i64 (0), .int .i64 (0), .int .i64 (0), .int .i64 (0), .int .u32 (0), .int .u32 (0), .int .i64 (0), .int .i64 (0), .int .i64 (0), .string (⟨#[]⟩)] 68))) := by
    refine Lib.hid ⟨?_, ?_, ⟨?_, ?_, by omega⟩, ?_⟩
    · have := HasB.new (((w.alloc (.cells #[.int .i64 0, .int .i64 0, .int .i64 0, .int .i64 0, .int .u32 0, .int .u32 0, .int .i64 0, .int .i64 0, .int .i64 0, .string ⟨#[]⟩] 68)).alloc (.cells #[.string s] 9)).alloc (.cells #[.pointer (some ⟨w.heap.size + 1, 0, none⟩)] 98)) 68 #[.int .i64 (0), .int .i64 (0), .int .i64 (0), .int .i64 (0), .int .u32 (0), .int .u32 (0), .int .i64 (0), .int .i64 (0), .int .i64 (0), .string (⟨#[]⟩)]
      simpa using this
    · exact (((HasB.new w 68 #[.int .i64 0, .int .i64 0, .int .i64 0, .int .i64 0, .int .u32 0, .int .u32 0, .int .i64 0, .int .i64 0, .int .i64 0, .string ⟨#[]⟩]).alloc _).alloc _).alloc _
    · have := (HasB.new ((w.alloc (.cells #[.int .i64 0, .int .i64 0, .int .i64 0, .int .i64 0, .int .u32 0, .int .u32 0, .int .i64 0, .int .i64 0, .int .i64 0, .string ⟨#[]⟩] 68)).alloc (.cells #[.string s] 9)) 98 #[.pointer (some ⟨w.heap.size + 1, 0, none⟩)]).alloc (.cells #[.int .i64 (0), .int .i64 (0), .int .i64 (0), .int .i64 (0), .int .u32 (0), .int .u32 (0), .int .i64 (0), .int .i64 (0), .int .i64 (0), .string (⟨#[]⟩)] 68)
      simpa using this
    · have := ((HasB.new (w.alloc (.cells #[.int .i64 0, .int .i64 0, .int .i64 0, .int .i64 0, .int .u32 0, .int .u32 0, .int .i64 0, .int .i64 0, .int .i64 0, .string ⟨#[]⟩] 68)) 9 #[.string s]).alloc (.cells #[.pointer (some ⟨w.heap.size + 1, 0, none⟩)] 98)).alloc (.cells #[.int .i64 (0), .int .i64 (0), .int .i64 (0), .int .i64 (0), .int .u32 (0), .int .u32 (0), .int .i64 (0), .int .i64 (0), .int .i64 (0), .string (⟨#[]⟩)] 68)
      rw [show s.extract 0 s.size = s by apply ext_eq; rw [ext_str', List.drop_zero, Nat.sub_zero, size_list, List.take_length]]
      simpa using this
    · exact ((((Below.refl _ w).alloc (Nat.le_refl _) _).alloc (by simp) _).alloc (by simp; omega) _).alloc (by simp; omega) _
  (with_reducible refine (num2_at (w.heap.size + 1 + 1) (w.heap.size + 1) s 0 _ HX.out.rd hs (by omega)).mono ?_)
  rintro e wa ⟨rfl, hr, hk⟩
  replace HX := Lib.hid (HX.out.next hr hk)
  clear hr hk
  have c2 := HasB.cell HX.out.f 2 (.int .i64 (0)) rfl
  have f2 := HasB.free HX.out.f 2
  go_wp2_with fail
  clear c2 f2
  have HY := (HX.out.put 2 (.int .i64 ((wt s 0 : Nat))))
  replace HX : Hid (St7 s 2 #[.int .i64 (0), .int .i64 (0), .int .i64 ((wt s 0 : Nat)), .int .i64 (0), .int .u32 (0), .int .u32 (0), .int .i64 (0), .int .i64 (0), .int .i64 (0), .string (⟨#[]⟩)] w _) := Lib.hid (by exact HY)
  clear HY
  (with_reducible refine (num2_at (w.heap.size + 1 + 1) (w.heap.size + 1) s 2 _ HX.out.rd hs (by omega)).mono ?_)
  rintro e wa ⟨rfl, hr, hk⟩
  replace HX := Lib.hid (HX.out.next hr hk)
  clear hr hk
  have c3 := HasB.cell HX.out.f 3 (.int .i64 (0)) rfl
  have f3 := HasB.free HX.out.f 3
  go_wp2_with fail
  clear c3 f3
  have HY := (HX.out.put 3 (.int .i64 ((wt s 2 : Nat))))
  replace HX : Hid (St7 s 4 #[.int .i64 (0), .int .i64 (0), .int .i64 ((wt s 0 : Nat)), .int .i64 ((wt s 2 : Nat)), .int .u32 (0), .int .u32 (0), .int .i64 (0), .int .i64 (0), .int .i64 (0), .string (⟨#[]⟩)] w _) := Lib.hid (by exact HY)
  clear HY
  (with_reducible refine (num_at (w.heap.size + 1 + 1) (w.heap.size + 1) s 4 4 4 rfl _ HX.out.rd hs (by omega) (by omega) (by omega)).mono ?_)
  rintro e wa ⟨rfl, hr, hk⟩
  replace HX := Lib.hid (HX.out.next hr hk)
  clear hr hk
  have c4 := HasB.cell HX.out.f 4 (.int .u32 (0)) rfl
  have f4 := HasB.free HX.out.f 4
  go_wp2_with fail
  clear c4 f4
  have HY := (HX.out.put 4 (.int .u32 ((seg s 4 4 : Nat))))
  replace HX : Hid (St7 s 8 #[.int .i64 (0), .int .i64 (0), .int .i64 ((wt s 0 : Nat)), .int .i64 ((wt s 2 : Nat)), .int .u32 ((seg s 4 4 : Nat)), .int .u32 (0), .int .i64 (0), .int .i64 (0), .int .i64 (0), .string (⟨#[]⟩)] w _) := Lib.hid (by exact HY)
  clear HY
  (with_reducible refine (num_at (w.heap.size + 1 + 1) (w.heap.size + 1) s 8 4 4 rfl _ HX.out.rd hs (by omega) (by omega) (by omega)).mono ?_)
  rintro e wa ⟨rfl, hr, hk⟩
  replace HX := Lib.hid (HX.out.next hr hk)
  clear hr hk
  have c5 := HasB.cell HX.out.f 5 (.int .u32 (0)) rfl
  have f5 := HasB.free HX.out.f 5
  go_wp2_with fail
  clear c5 f5
  have HY := (HX.out.put 5 (.int .u32 ((seg s 8 4 : Nat))))
  replace HX : Hid (St7 s 12 #[.int .i64 (0), .int .i64 (0), .int .i64 ((wt s 0 : Nat)), .int .i64 ((wt s 2 : Nat)), .int .u32 ((seg s 4 4 : Nat)), .int .u32 ((seg s 8 4 : Nat)), .int .i64 (0), .int .i64 (0), .int .i64 (0), .string (⟨#[]⟩)] w _) := Lib.hid (by exact HY)
  clear HY
  (with_reducible refine (num1_at (w.heap.size + 1 + 1) (w.heap.size + 1) s 12 _ HX.out.rd hs (by omega)).mono ?_)
  rintro e wa ⟨rfl, hr, hk⟩
  replace HX := Lib.hid (HX.out.next hr hk)
  clear hr hk
  have c0 := HasB.cell HX.out.f 0 (.int .i64 (0)) rfl
  have c1 := HasB.cell HX.out.f 1 (.int .i64 (0)) rfl
  have f0 := HasB.free HX.out.f 0
  have f1 := HasB.free HX.out.f 1
  go_wp2_with fail
  clear c0 c1 f0 f1
  have HY := ((HX.out.put 0 (.int .i64 ((szG s : Nat)))).put 1 (.int .i64 (((bt s 12 : Nat) : Int) % 16)))
  replace HX : Hid (St7 s 13 #[.int .i64 ((szG s : Nat)), .int .i64 (((bt s 12 : Nat) : Int) % 16), .int .i64 ((wt s 0 : Nat)), .int .i64 ((wt s 2 : Nat)), .int .u32 ((seg s 4 4 : Nat)), .int .u32 ((seg s 8 4 : Nat)), .int .i64 (0), .int .i64 (0), .int .i64 (0), .string (⟨#[]⟩)] w _) := Lib.hid (by exact HY)
  clear HY
  (with_reducible refine (num1_at (w.heap.size + 1 + 1) (w.heap.size + 1) s 13 _ HX.out.rd hs (by omega)).mono ?_)
  rintro e wa ⟨rfl, hr, hk⟩
  replace HX := Lib.hid (HX.out.next hr hk)
  clear hr hk
  have c6 := HasB.cell HX.out.f 6 (.int .i64 (0)) rfl
  have f6 := HasB.free HX.out.f 6
  go_wp2_with fail
  clear c6 f6
  have HY := (HX.out.put 6 (.int .i64 ((bt s 13 : Nat))))
  replace HX : Hid (St7 s 14 #[.int .i64 ((szG s : Nat)), .int .i64 (((bt s 12 : Nat) : Int) % 16), .int .i64 ((wt s 0 : Nat)), .int .i64 ((wt s 2 : Nat)), .int .u32 ((seg s 4 4 : Nat)), .int .u32 ((seg s 8 4 : Nat)), .int .i64 ((bt s 13 : Nat)), .int .i64 (0), .int .i64 (0), .string (⟨#[]⟩)] w _) := Lib.hid (by exact HY)
  clear HY
  (with_reducible refine (num2_at (w.heap.size + 1 + 1) (w.heap.size + 1) s 14 _ HX.out.rd hs (by omega)).mono ?_)
  rintro e wa ⟨rfl, hr, hk⟩
  replace HX := Lib.hid (HX.out.next hr hk)
  clear hr hk
  have c7 := HasB.cell HX.out.f 7 (.int .i64 (0)) rfl
  have f7 := HasB.free HX.out.f 7
  go_wp2_with fail
  clear c7 f7
  have HY := (HX.out.put 7 (.int .i64 ((wt s 14 : Nat))))
  replace HX : Hid (St7 s 16 #[.int .i64 ((szG s : Nat)), .int .i64 (((bt s 12 : Nat) : Int) % 16), .int .i64 ((wt s 0 : Nat)), .int .i64 ((wt s 2 : Nat)), .int .u32 ((seg s 4 4 : Nat)), .int .u32 ((seg s 8 4 : Nat)), .int .i64 ((bt s 13 : Nat)), .int .i64 ((wt s 14 : Nat)), .int .i64 (0), .string (⟨#[]⟩)] w _) := Lib.hid (by exact HY)
  clear HY
  (with_reducible refine (text_at (w.heap.size + 1 + 1) (w.heap.size + 1) s 16 2 2 rfl _ HX.out.rd hs (by omega)).mono ?_)
  rintro e wa ⟨rfl, hr, hk⟩
  replace HX := Lib.hid (HX.out.next hr hk)
  clear hr hk
  go_wp2_with fail
  have HY := HX.out
  replace HX : Hid (St7 s 18 #[.int .i64 ((szG s : Nat)), .int .i64 (((bt s 12 : Nat) : Int) % 16), .int .i64 ((wt s 0 : Nat)), .int .i64 ((wt s 2 : Nat)), .int .u32 ((seg s 4 4 : Nat)), .int .u32 ((seg s 8 4 : Nat)), .int .i64 ((bt s 13 : Nat)), .int .i64 ((wt s 14 : Nat)), .int .i64 (0), .string (⟨#[]⟩)] w _) := Lib.hid (by exact HY)
  clear HY
  (with_reducible refine (num2_at (w.heap.size + 1 + 1) (w.heap.size + 1) s 18 _ HX.out.rd hs (by omega)).mono ?_)
  rintro e wa ⟨rfl, hr, hk⟩
  replace HX := Lib.hid (HX.out.next hr hk)
  clear hr hk
  have c0 := HasB.cell HX.out.f 0 (.int .i64 ((szG s : Nat))) rfl
  have c8 := HasB.cell HX.out.f 8 (.int .i64 (0)) rfl
  have f8 := HasB.free HX.out.f 8
  go_wp2_with fail
  clear c0 c8 f8
  have HY := (HX.out.put 8 (.int .i64 ((wt s 18 : Nat))))
  replace HX : Hid (St7 s 20 #[.int .i64 ((szG s : Nat)), .int .i64 (((bt s 12 : Nat) : Int) % 16), .int .i64 ((wt s 0 : Nat)), .int .i64 ((wt s 2 : Nat)), .int .u32 ((seg s 4 4 : Nat)), .int .u32 ((seg s 8 4 : Nat)), .int .i64 ((bt s 13 : Nat)), .int .i64 ((wt s 14 : Nat)), .int .i64 ((wt s 18 : Nat)), .string (⟨#[]⟩)] w _) := Lib.hid (by exact HY)
  clear HY
  (with_reducible refine (textOp7_at (w.heap.size + 1 + 1) (w.heap.size + 1) s _ HX.out.rd hs h20).mono ?_)
  rintro e wa ⟨rfl, hk⟩
  have HF := HasB.kept HX.out.1 hk (by omega)
  have HR := HasB.kept HX.out.2.1 hk (by omega)
  have HB := Lib.hid (HX.out.2.2.2.trans (hk.below (Nat.le_trans (by omega) HX.out.2.2.2.size) (by omega)))
  have c9 := HasB.cell HF 9 (.string ⟨#[]⟩) rfl
  have f9 := HasB.free HF 9
  have HG : HasB _ _ _ #[.int .i64 ((szG s : Nat)), .int .i64 (((bt s 12 : Nat) : Int) % 16), .int .i64 ((wt s 0 : Nat)), .int .i64 ((wt s 2 : Nat)), .int .u32 ((seg s 4 4 : Nat)), .int .u32 ((seg s 8 4 : Nat)), .int .i64 ((bt s 13 : Nat)), .int .i64 ((wt s 14 : Nat)), .int .i64 ((wt s 18 : Nat)), .string (opT s)] := HasB.put HF 9 (.string (opT s))
  have hro := HasB.rowOk HG (n := 10) rfl
  have hrw := HasB.rowOf HG
  have hrr := HasB.rowOk (HasB.far HR ⟨w.heap.size + 1 + 1 + 1, 9, none⟩ (by show _ ≠ w.heap.size + 1 + 1 + 1; omega) (.string (opT s))) (n := 10) rfl
  clear hk HX HG HF
  go_wp2_with fail
  clear hro hrw hrr c9 f9
  have HW := HasB.setRow ((HasB.far HR ⟨w.heap.size + 1 + 1 + 1, 9, none⟩ (by show _ ≠ w.heap.size + 1 + 1 + 1; omega) (.string (opT s)))) #[.int .i64 ((szG s : Nat)), .int .i64 (((bt s 12 : Nat) : Int) % 16), .int .i64 ((wt s 0 : Nat)), .int .i64 ((wt s 2 : Nat)), .int .u32 ((seg s 4 4 : Nat)), .int .u32 ((seg s 8 4 : Nat)), .int .i64 ((bt s 13 : Nat)), .int .i64 ((wt s 14 : Nat)), .int .i64 ((wt s 18 : Nat)), .string (opT s)]
  have HL := below_setRow (Below.setCell (p := ⟨w.heap.size + 1 + 1 + 1, 9, none⟩) HB.out (by show w.heap.size ≤ w.heap.size + 1 + 1 + 1; omega) (.string (opT s))) (Nat.le_refl _) #[.int .i64 ((szG s : Nat)), .int .i64 (((bt s 12 : Nat) : Int) % 16), .int .i64 ((wt s 0 : Nat)), .int .i64 ((wt s 2 : Nat)), .int .u32 ((seg s 4 4 : Nat)), .int .u32 ((seg s 8 4 : Nat)), .int .i64 ((bt s 13 : Nat)), .int .i64 ((wt s 14 : Nat)), .int .i64 ((wt s 18 : Nat)), .string (opT s)]
  try simp only [Exit.inBlock, Exit.then]
  refine bodyPost_ret (v := .agg #[.int .i64 ((szG s : Nat)), .int .i64 (((bt s 12 : Nat) : Int) % 16), .int .i64 ((wt s 0 : Nat)), .int .i64 ((wt s 2 : Nat)), .int .u32 ((seg s 4 4 : Nat)), .int .u32 ((seg s 8 4 : Nat)), .int .i64 ((bt s 13 : Nat)), .int .i64 ((wt s 14 : Nat)), .int .i64 ((wt s 18 : Nat)), .string (opT s)]) (results_cell_row Try.results30 _ _ w.heap.size _ _ _ _ rfl HW Try.underlying68 rfl infoF7) rfl ⟨rfl, HL⟩
end Go.Proofs.Ytbnhneompibilaa
namespace Go.Proofs.Ytbnhneompibilaa
open Go.RowKit
set_option linter.unusedVariables false
attribute [local go_sem ↓] ldH7 stH7 ldR7 stR7
attribute [local go_sem] rowAt_p rowOkAt_p setAt_p aggOf_a rowOk_new rowOf_new setRow_new agg7 aggT7
attribute [local go_sem ↓] ldF7 stF7
attribute [local go_sem] aggF7
attribute [local go_sem ↓] Go.wp_at_zero Go.wp_at_succ

theorem cells6T {B g g' g2 : Nat} {t t' t2 : TypeId} {cs : Array Value} {v v' : Bool} {hi lo hi' lo' : Int} {w0 w : World} (H : Held3 B g t cs g' t' #[.bool v, .int .u64 hi, .int .u64 lo] g2 t2 #[.bool v', .int .u64 hi', .int .u64 lo'] w0 w) : w.cell? ⟨g', 0, none⟩ = some (.bool v) ∧ w.cell? ⟨g', 1, none⟩ = some (.int .u64 hi) ∧ w.cell? ⟨g', 2, none⟩ = some (.int .u64 lo) ∧ w.cell? ⟨g2, 0, none⟩ = some (.bool v') ∧ w.cell? ⟨g2, 1, none⟩ = some (.int .u64 hi') ∧ w.cell? ⟨g2, 2, none⟩ = some (.int .u64 lo') :=
  ⟨HasB.cell H.2.1 0 _ rfl, HasB.cell H.2.1 1 _ rfl, HasB.cell H.2.1 2 _ rfl, HasB.cell H.2.2.1 0 _ rfl, HasB.cell H.2.2.1 1 _ rfl, HasB.cell H.2.2.1 2 _ rfl⟩
theorem Held3.allocT {B g : Nat} {t : TypeId} {cs : Array Value} {g' : Nat} {t' : TypeId} {cs' : Array Value} {g2 : Nat} {t2 : TypeId} {cs2 : Array Value} {w0 w : World} (h : Held3 B g t cs g' t' cs' g2 t2 cs2 w0 w) (o : Obj) : Held3 B g t cs g' t' cs' g2 t2 cs2 w0 (w.alloc o) :=
  ⟨HasB.alloc h.1 o, HasB.alloc h.2.1 o, HasB.alloc h.2.2.1 o, h.2.2.2.1.alloc h.2.2.2.2 o, Nat.le_trans h.2.2.2.2 (by simp)⟩
theorem isList_is {s : ByteArray} {b : Bool} (hb : (optsL s 0).isSome = b) (hs : s.size ≤ 1099511627776) (w : World) :
    Calls Try.prog 32 #[.string s] w fun e w' => e = .returned (.bool b) ∧ Below w.heap.size w w' := by
  subst hb; exact isList_any s hs w
theorem rightP_any (P : List UInt8) (s : ByteArray) (h : P.length + s.size ≤ 1099511627776) (w : World) :
    Calls Try.prog 31 #[.string (⟨P.toArray⟩ ++ s)] w fun e w' => e = .returned (.bool ((sumL (P ++ s.data.toList) : Int) == 65535)) ∧ Below w.heap.size w w' := by
  have h1 := rightS_any (⟨P.toArray⟩ ++ s) (by rw [ByteArray.size_append]; exact h) w
  rw [app_str, show (⟨P.toArray⟩ : ByteArray).data.toList = P by simp] at h1
  exact h1
theorem get7_short (s : ByteArray) (v : Bool) (hi lo : Int) (v' : Bool) (hi' lo' : Int) (hA : BA hi lo hi' lo') (hs : s.size ≤ 1099511627000) (P : List UInt8) (hPe : pseudoL v hi lo v' hi' lo' 6 (s.size : Int) = P) (w : World) (h : s.size < 20) : Calls Try.prog 11 #[.string s, .agg #[.bool v, .int .u64 hi, .int .u64 lo], .agg #[.bool v', .int .u64 hi', .int .u64 lo']] w fun e w' => e = .returned (.tuple #[.agg #[.int .i64 (headG7 s P).sp, .int .i64 (headG7 s P).dp, .int .u32 (headG7 s P).sq, .int .u32 (headG7 s P).ak, .int .i64 (headG7 s P).fl, .int .i64 (headG7 s P).wn, .int .i64 (headG7 s P).ur, .string (headG7 s P).op], .string (payG7 s P), .int .i64 (errG7 s P)]) ∧ Below w.heap.size w w' := by
  have he : errG7 s P = 2 := by unfold errG7; rw [if_pos h]
  obtain ⟨hh, hp⟩ := headG7_no he (by omega)
  rw [hh, hp, he]
  show Calls _ _ _ _ fun e' w' => e' = .returned (.tuple #[.agg #[.int .i64 0, .int .i64 0, .int .u32 0, .int .u32 0, .int .i64 0, .int .i64 0, .int .i64 0, .string ⟨#[]⟩], .string ⟨#[]⟩, .int .i64 2]) ∧ Below w.heap.size w w'
  clear he hh hp
  have h20 : (s.size : Int) < 20 := by omega
  have HX : Hid (Held3 w.heap.size (w.heap.size + 1 + 1) 34 #[.int .i64 0, .int .i64 0, .int .u32 0, .int .u32 0, .int .i64 0, .int .i64 0, .int .i64 0, .string ⟨#[]⟩] w.heap.size 27 #[.bool v, .int .u64 hi, .int .u64 lo] (w.heap.size + 1) 27 #[.bool v', .int .u64 hi', .int .u64 lo'] w (((w.alloc (.cells #[.bool v, .int .u64 hi, .int .u64 lo] 27)).alloc (.cells #[.bool v', .int .u64 hi', .int .u64 lo'] 27)).alloc (.cells #[.int .i64 0, .int .i64 0, .int .u32 0, .int .u32 0, .int .i64 0, .int .i64 0, .int .i64 0, .string ⟨#[]⟩] 34))) := by
    refine Lib.hid ⟨?_, ((HasB.new w _ _).alloc _).alloc _, ?_, (((Below.refl _ _).alloc (Nat.le_refl _) _).alloc (by simp) _).alloc (by simp; omega) _, by simp; omega⟩
    · have := HasB.new ((w.alloc (.cells #[.bool v, .int .u64 hi, .int .u64 lo] 27)).alloc (.cells #[.bool v', .int .u64 hi', .int .u64 lo'] 27)) 34 #[.int .i64 0, .int .i64 0, .int .u32 0, .int .u32 0, .int .i64 0, .int .i64 0, .int .i64 0, .string ⟨#[]⟩]
      simpa using this
    · have := (HasB.new (w.alloc (.cells #[.bool v, .int .u64 hi, .int .u64 lo] 27)) 27 #[.bool v', .int .u64 hi', .int .u64 lo']).alloc (.cells #[.int .i64 0, .int .i64 0, .int .u32 0, .int .u32 0, .int .i64 0, .int .i64 0, .int .i64 0, .string ⟨#[]⟩] 34)
      simpa using this
  have hro := HasB.rowOk HX.out.1 (n := 8) rfl
  go_enter Try.func11, Try.ntmps11
  go_wp2_with fail
  (try simp only [Exit.inBlock, Exit.then]); refine bodyPost_ret (v := .tuple #[.agg #[.int .i64 0, .int .i64 0, .int .u32 0, .int .u32 0, .int .i64 0, .int .i64 0, .int .i64 0, .string ⟨#[]⟩], .string ⟨#[]⟩, .int .i64 2]) (results_cell3 Try.results11 _ _ (w.heap.size + 1 + 1) _ _ rfl HX.out.1 Try.underlying34 infoH7 rfl rfl) rfl ⟨rfl, HX.out.2.2.2.1⟩
theorem get7_form (s : ByteArray) (v : Bool) (hi lo : Int) (v' : Bool) (hi' lo' : Int) (hA : BA hi lo hi' lo') (hs : s.size ≤ 1099511627000) (P : List UInt8) (hPe : pseudoL v hi lo v' hi' lo' 6 (s.size : Int) = P) (w : World) (h1 : 20 ≤ s.size) (h : szG s < 20 ∨ bt s 12 % 16 ≠ 0) : Calls Try.prog 11 #[.string s, .agg #[.bool v, .int .u64 hi, .int .u64 lo], .agg #[.bool v', .int .u64 hi', .int .u64 lo']] w fun e w' => e = .returned (.tuple #[.agg #[.int .i64 (headG7 s P).sp, .int .i64 (headG7 s P).dp, .int .u32 (headG7 s P).sq, .int .u32 (headG7 s P).ak, .int .i64 (headG7 s P).fl, .int .i64 (headG7 s P).wn, .int .i64 (headG7 s P).ur, .string (headG7 s P).op], .string (payG7 s P), .int .i64 (errG7 s P)]) ∧ Below w.heap.size w w' := by
  have he : errG7 s P = 3 := by unfold errG7; rw [if_neg (by omega), if_pos h]
  obtain ⟨hh, hp⟩ := headG7_no he (by omega)
  rw [hh, hp, he]
  show Calls _ _ _ _ fun e' w' => e' = .returned (.tuple #[.agg #[.int .i64 0, .int .i64 0, .int .u32 0, .int .u32 0, .int .i64 0, .int .i64 0, .int .i64 0, .string ⟨#[]⟩], .string ⟨#[]⟩, .int .i64 3]) ∧ Below w.heap.size w w'
  clear he hh hp
  have h20i : ¬ (s.size : Int) < 20 := by omega
  have RD := Lib.hid (read7_any s (by unfold maxLen; omega) h1)
  have PS := pseudo4_any v hi lo v' hi' lo' 6 (s.size : Int) hA.a0 hA.a1 hA.b0 hA.b1 hA.c0 hA.c1 hA.d0 hA.d1
  have hPl : P.length ≤ 40 := by rw [← hPe]; exact (pseudoL_len _ _ _ _ _ _ _ _).1
  rw [hPe] at PS
  have PS := Lib.hid PS
  have HX : Hid (Held3 w.heap.size (w.heap.size + 1 + 1) 34 #[.int .i64 0, .int .i64 0, .int .u32 0, .int .u32 0, .int .i64 0, .int .i64 0, .int .i64 0, .string ⟨#[]⟩] w.heap.size 27 #[.bool v, .int .u64 hi, .int .u64 lo] (w.heap.size + 1) 27 #[.bool v', .int .u64 hi', .int .u64 lo'] w (((w.alloc (.cells #[.bool v, .int .u64 hi, .int .u64 lo] 27)).alloc (.cells #[.bool v', .int .u64 hi', .int .u64 lo'] 27)).alloc (.cells #[.int .i64 0, .int .i64 0, .int .u32 0, .int .u32 0, .int .i64 0, .int .i64 0, .int .i64 0, .string ⟨#[]⟩] 34))) := by
    refine Lib.hid ⟨?_, ((HasB.new w _ _).alloc _).alloc _, ?_, (((Below.refl _ _).alloc (Nat.le_refl _) _).alloc (by simp) _).alloc (by simp; omega) _, by simp; omega⟩
    · have := HasB.new ((w.alloc (.cells #[.bool v, .int .u64 hi, .int .u64 lo] 27)).alloc (.cells #[.bool v', .int .u64 hi', .int .u64 lo'] 27)) 34 #[.int .i64 0, .int .i64 0, .int .u32 0, .int .u32 0, .int .i64 0, .int .i64 0, .int .i64 0, .string ⟨#[]⟩]
      simpa using this
    · have := (HasB.new (w.alloc (.cells #[.bool v, .int .u64 hi, .int .u64 lo] 27)) 27 #[.bool v', .int .u64 hi', .int .u64 lo']).alloc (.cells #[.int .i64 0, .int .i64 0, .int .u32 0, .int .u32 0, .int .i64 0, .int .i64 0, .int .i64 0, .string ⟨#[]⟩] 34)
      simpa using this
  by_cases h2 : szG s < 20
  · have v1 : ((szG s : Nat) : Int) < 20 := by omega
    clear h h2 hPe
    go_enter Try.func11, Try.ntmps11
    go_wp2_with (first | (go_at_call 30; (with_reducible refine (RD.out _).mono ?_); rintro e wa ⟨rfl, hb⟩; have hza := (HX.out.next hb).1.lt; replace HX := Lib.hid ((HX.out.next hb).allocT (.cells #[.int .i64 ((szG s : Nat)), .int .i64 (((bt s 12 : Nat) : Int) % 16), .int .i64 ((wt s 0 : Nat)), .int .i64 ((wt s 2 : Nat)), .int .u32 ((seg s 4 4 : Nat)), .int .u32 ((seg s 8 4 : Nat)), .int .i64 ((bt s 13 : Nat)), .int .i64 ((wt s 14 : Nat)), .int .i64 ((wt s 18 : Nat)), .string (opT s)] 68)); have HF := Lib.hid (HasB.new wa 68 #[.int .i64 ((szG s : Nat)), .int .i64 (((bt s 12 : Nat) : Int) % 16), .int .i64 ((wt s 0 : Nat)), .int .i64 ((wt s 2 : Nat)), .int .u32 ((seg s 4 4 : Nat)), .int .u32 ((seg s 8 4 : Nat)), .int .i64 ((bt s 13 : Nat)), .int .i64 ((wt s 14 : Nat)), .int .i64 ((wt s 18 : Nat)), .string (opT s)]); clear hb; obtain ⟨k0, k1, k2, k3, k4, k5⟩ := cells6T HX.out) | (go_at_call 20; (with_reducible refine (PS.out _).mono ?_); rintro e wb ⟨rfl, hb⟩; replace HF := Lib.hid (HasB.below HF.out hb HF.out.lt); replace HX := Lib.hid (HX.out.next hb); clear hb k0 k1 k2 k3 k4 k5; (have c0 := HasB.cell HF.out 0 (.int .i64 (szG s : Nat)) rfl; have c1 := HasB.cell HF.out 1 (.int .i64 (((bt s 12 : Nat) : Int) % 16)) rfl; have c9 := HasB.cell HF.out 9 (.string (opT s)) rfl; have hro := HasB.rowOk HX.out.1 (n := 8) rfl)) | fail)
    have HW := HasB.setRow HX.out.1 #[.int .i64 0, .int .i64 0, .int .u32 0, .int .u32 0, .int .i64 0, .int .i64 0, .int .i64 0, .string ⟨#[]⟩]; have HL := below_setRow HX.out.2.2.2.1 (show w.heap.size ≤ w.heap.size + 1 + 1 by omega) #[.int .i64 0, .int .i64 0, .int .u32 0, .int .u32 0, .int .i64 0, .int .i64 0, .int .i64 0, .string ⟨#[]⟩]; (try simp only [Exit.inBlock, Exit.then]); refine bodyPost_ret (v := .tuple #[.agg #[.int .i64 0, .int .i64 0, .int .u32 0, .int .u32 0, .int .i64 0, .int .i64 0, .int .i64 0, .string ⟨#[]⟩], .string ⟨#[]⟩, .int .i64 3]) (results_cell3 Try.results11 _ _ (w.heap.size + 1 + 1) _ _ rfl HW Try.underlying34 infoH7 rfl rfl) rfl ⟨rfl, HL⟩
  · have v1 : ¬ ((szG s : Nat) : Int) < 20 := by omega
    have v2 : (((bt s 12 : Nat) : Int) % 16 != 0) = true := by simp; omega
    clear h h2 hPe
    go_enter Try.func11, Try.ntmps11
    go_wp2_with (first | (go_at_call 30; (with_reducible refine (RD.out _).mono ?_); rintro e wa ⟨rfl, hb⟩; have hza := (HX.out.next hb).1.lt; replace HX := Lib.hid ((HX.out.next hb).allocT (.cells #[.int .i64 ((szG s : Nat)), .int .i64 (((bt s 12 : Nat) : Int) % 16), .int .i64 ((wt s 0 : Nat)), .int .i64 ((wt s 2 : Nat)), .int .u32 ((seg s 4 4 : Nat)), .int .u32 ((seg s 8 4 : Nat)), .int .i64 ((bt s 13 : Nat)), .int .i64 ((wt s 14 : Nat)), .int .i64 ((wt s 18 : Nat)), .string (opT s)] 68)); have HF := Lib.hid (HasB.new wa 68 #[.int .i64 ((szG s : Nat)), .int .i64 (((bt s 12 : Nat) : Int) % 16), .int .i64 ((wt s 0 : Nat)), .int .i64 ((wt s 2 : Nat)), .int .u32 ((seg s 4 4 : Nat)), .int .u32 ((seg s 8 4 : Nat)), .int .i64 ((bt s 13 : Nat)), .int .i64 ((wt s 14 : Nat)), .int .i64 ((wt s 18 : Nat)), .string (opT s)]); clear hb; obtain ⟨k0, k1, k2, k3, k4, k5⟩ := cells6T HX.out) | (go_at_call 20; (with_reducible refine (PS.out _).mono ?_); rintro e wb ⟨rfl, hb⟩; replace HF := Lib.hid (HasB.below HF.out hb HF.out.lt); replace HX := Lib.hid (HX.out.next hb); clear hb k0 k1 k2 k3 k4 k5; (have c0 := HasB.cell HF.out 0 (.int .i64 (szG s : Nat)) rfl; have c1 := HasB.cell HF.out 1 (.int .i64 (((bt s 12 : Nat) : Int) % 16)) rfl; have c9 := HasB.cell HF.out 9 (.string (opT s)) rfl; have hro := HasB.rowOk HX.out.1 (n := 8) rfl)) | fail)
    have HW := HasB.setRow HX.out.1 #[.int .i64 0, .int .i64 0, .int .u32 0, .int .u32 0, .int .i64 0, .int .i64 0, .int .i64 0, .string ⟨#[]⟩]; have HL := below_setRow HX.out.2.2.2.1 (show w.heap.size ≤ w.heap.size + 1 + 1 by omega) #[.int .i64 0, .int .i64 0, .int .u32 0, .int .u32 0, .int .i64 0, .int .i64 0, .int .i64 0, .string ⟨#[]⟩]; (try simp only [Exit.inBlock, Exit.then]); refine bodyPost_ret (v := .tuple #[.agg #[.int .i64 0, .int .i64 0, .int .u32 0, .int .u32 0, .int .i64 0, .int .i64 0, .int .i64 0, .string ⟨#[]⟩], .string ⟨#[]⟩, .int .i64 3]) (results_cell3 Try.results11 _ _ (w.heap.size + 1 + 1) _ _ rfl HW Try.underlying34 infoH7 rfl rfl) rfl ⟨rfl, HL⟩
theorem get7_cut (s : ByteArray) (v : Bool) (hi lo : Int) (v' : Bool) (hi' lo' : Int) (hA : BA hi lo hi' lo') (hs : s.size ≤ 1099511627000) (P : List UInt8) (hPe : pseudoL v hi lo v' hi' lo' 6 (s.size : Int) = P) (w : World) (h1 : 20 ≤ s.size) (h2 : 20 ≤ szG s) (h3 : bt s 12 % 16 = 0) (h : s.size < szG s) : Calls Try.prog 11 #[.string s, .agg #[.bool v, .int .u64 hi, .int .u64 lo], .agg #[.bool v', .int .u64 hi', .int .u64 lo']] w fun e w' => e = .returned (.tuple #[.agg #[.int .i64 (headG7 s P).sp, .int .i64 (headG7 s P).dp, .int .u32 (headG7 s P).sq, .int .u32 (headG7 s P).ak, .int .i64 (headG7 s P).fl, .int .i64 (headG7 s P).wn, .int .i64 (headG7 s P).ur, .string (headG7 s P).op], .string (payG7 s P), .int .i64 (errG7 s P)]) ∧ Below w.heap.size w w' := by
  have he : errG7 s P = 2 := by unfold errG7; rw [if_neg (by omega), if_neg (by omega), if_pos h]
  obtain ⟨hh, hp⟩ := headG7_no he (by omega)
  rw [hh, hp, he]
  show Calls _ _ _ _ fun e' w' => e' = .returned (.tuple #[.agg #[.int .i64 0, .int .i64 0, .int .u32 0, .int .u32 0, .int .i64 0, .int .i64 0, .int .i64 0, .string ⟨#[]⟩], .string ⟨#[]⟩, .int .i64 2]) ∧ Below w.heap.size w w'
  clear he hh hp
  have h20i : ¬ (s.size : Int) < 20 := by omega
  have RD := Lib.hid (read7_any s (by unfold maxLen; omega) h1)
  have PS := pseudo4_any v hi lo v' hi' lo' 6 (s.size : Int) hA.a0 hA.a1 hA.b0 hA.b1 hA.c0 hA.c1 hA.d0 hA.d1
  have hPl : P.length ≤ 40 := by rw [← hPe]; exact (pseudoL_len _ _ _ _ _ _ _ _).1
  rw [hPe] at PS
  have PS := Lib.hid PS
  have HX : Hid (Held3 w.heap.size (w.heap.size + 1 + 1) 34 #[.int .i64 0, .int .i64 0, .int .u32 0, .int .u32 0, .int .i64 0, .int .i64 0, .int .i64 0, .string ⟨#[]⟩] w.heap.size 27 #[.bool v, .int .u64 hi, .int .u64 lo] (w.heap.size + 1) 27 #[.bool v', .int .u64 hi', .int .u64 lo'] w (((w.alloc (.cells #[.bool v, .int .u64 hi, .int .u64 lo] 27)).alloc (.cells #[.bool v', .int .u64 hi', .int .u64 lo'] 27)).alloc (.cells #[.int .i64 0, .int .i64 0, .int .u32 0, .int .u32 0, .int .i64 0, .int .i64 0, .int .i64 0, .string ⟨#[]⟩] 34))) := by
    refine Lib.hid ⟨?_, ((HasB.new w _ _).alloc _).alloc _, ?_, (((Below.refl _ _).alloc (Nat.le_refl _) _).alloc (by simp) _).alloc (by simp; omega) _, by simp; omega⟩
    · have := HasB.new ((w.alloc (.cells #[.bool v, .int .u64 hi, .int .u64 lo] 27)).alloc (.cells #[.bool v', .int .u64 hi', .int .u64 lo'] 27)) 34 #[.int .i64 0, .int .i64 0, .int .u32 0, .int .u32 0, .int .i64 0, .int .i64 0, .int .i64 0, .string ⟨#[]⟩]
      simpa using this
    · have := (HasB.new (w.alloc (.cells #[.bool v, .int .u64 hi, .int .u64 lo] 27)) 27 #[.bool v', .int .u64 hi', .int .u64 lo']).alloc (.cells #[.int .i64 0, .int .i64 0, .int .u32 0, .int .u32 0, .int .i64 0, .int .i64 0, .int .i64 0, .string ⟨#[]⟩] 34)
      simpa using this
  have v1 : ¬ ((szG s : Nat) : Int) < 20 := by omega
  have v2 : (((bt s 12 : Nat) : Int) % 16 != 0) = false := by simp; omega
  have v3 : (s.size : Int) < (szG s : Nat) := by omega
  clear h h2 h3 hPe
  go_enter Try.func11, Try.ntmps11
  go_wp2_with (first | (go_at_call 30; (with_reducible refine (RD.out _).mono ?_); rintro e wa ⟨rfl, hb⟩; have hza := (HX.out.next hb).1.lt; replace HX := Lib.hid ((HX.out.next hb).allocT (.cells #[.int .i64 ((szG s : Nat)), .int .i64 (((bt s 12 : Nat) : Int) % 16), .int .i64 ((wt s 0 : Nat)), .int .i64 ((wt s 2 : Nat)), .int .u32 ((seg s 4 4 : Nat)), .int .u32 ((seg s 8 4 : Nat)), .int .i64 ((bt s 13 : Nat)), .int .i64 ((wt s 14 : Nat)), .int .i64 ((wt s 18 : Nat)), .string (opT s)] 68)); have HF := Lib.hid (HasB.new wa 68 #[.int .i64 ((szG s : Nat)), .int .i64 (((bt s 12 : Nat) : Int) % 16), .int .i64 ((wt s 0 : Nat)), .int .i64 ((wt s 2 : Nat)), .int .u32 ((seg s 4 4 : Nat)), .int .u32 ((seg s 8 4 : Nat)), .int .i64 ((bt s 13 : Nat)), .int .i64 ((wt s 14 : Nat)), .int .i64 ((wt s 18 : Nat)), .string (opT s)]); clear hb; obtain ⟨k0, k1, k2, k3, k4, k5⟩ := cells6T HX.out) | (go_at_call 20; (with_reducible refine (PS.out _).mono ?_); rintro e wb ⟨rfl, hb⟩; replace HF := Lib.hid (HasB.below HF.out hb HF.out.lt); replace HX := Lib.hid (HX.out.next hb); clear hb k0 k1 k2 k3 k4 k5; (have c0 := HasB.cell HF.out 0 (.int .i64 (szG s : Nat)) rfl; have c1 := HasB.cell HF.out 1 (.int .i64 (((bt s 12 : Nat) : Int) % 16)) rfl; have c9 := HasB.cell HF.out 9 (.string (opT s)) rfl; have hro := HasB.rowOk HX.out.1 (n := 8) rfl)) | fail)
  have HW := HasB.setRow HX.out.1 #[.int .i64 0, .int .i64 0, .int .u32 0, .int .u32 0, .int .i64 0, .int .i64 0, .int .i64 0, .string ⟨#[]⟩]; have HL := below_setRow HX.out.2.2.2.1 (show w.heap.size ≤ w.heap.size + 1 + 1 by omega) #[.int .i64 0, .int .i64 0, .int .u32 0, .int .u32 0, .int .i64 0, .int .i64 0, .int .i64 0, .string ⟨#[]⟩]; (try simp only [Exit.inBlock, Exit.then]); refine bodyPost_ret (v := .tuple #[.agg #[.int .i64 0, .int .i64 0, .int .u32 0, .int .u32 0, .int .i64 0, .int .i64 0, .int .i64 0, .string ⟨#[]⟩], .string ⟨#[]⟩, .int .i64 2]) (results_cell3 Try.results11 _ _ (w.heap.size + 1 + 1) _ _ rfl HW Try.underlying34 infoH7 rfl rfl) rfl ⟨rfl, HL⟩
theorem get7_addr (s : ByteArray) (v : Bool) (hi lo : Int) (v' : Bool) (hi' lo' : Int) (hA : BA hi lo hi' lo') (hs : s.size ≤ 1099511627000) (P : List UInt8) (hPe : pseudoL v hi lo v' hi' lo' 6 (s.size : Int) = P) (w : World) (h1 : 20 ≤ s.size) (h2 : 20 ≤ szG s) (h3 : bt s 12 % 16 = 0) (h : szG s ≤ s.size) (hP : P = []) : Calls Try.prog 11 #[.string s, .agg #[.bool v, .int .u64 hi, .int .u64 lo], .agg #[.bool v', .int .u64 hi', .int .u64 lo']] w fun e w' => e = .returned (.tuple #[.agg #[.int .i64 (headG7 s P).sp, .int .i64 (headG7 s P).dp, .int .u32 (headG7 s P).sq, .int .u32 (headG7 s P).ak, .int .i64 (headG7 s P).fl, .int .i64 (headG7 s P).wn, .int .i64 (headG7 s P).ur, .string (headG7 s P).op], .string (payG7 s P), .int .i64 (errG7 s P)]) ∧ Below w.heap.size w w' := by
  have he : errG7 s P = 1 := by unfold errG7; rw [if_neg (by omega), if_neg (by omega), if_neg (by omega), if_pos hP]
  obtain ⟨hh, hp⟩ := headG7_no he (by omega)
  rw [hh, hp, he]
  show Calls _ _ _ _ fun e' w' => e' = .returned (.tuple #[.agg #[.int .i64 0, .int .i64 0, .int .u32 0, .int .u32 0, .int .i64 0, .int .i64 0, .int .i64 0, .string ⟨#[]⟩], .string ⟨#[]⟩, .int .i64 1]) ∧ Below w.heap.size w w'
  clear he hh hp
  have h20i : ¬ (s.size : Int) < 20 := by omega
  have RD := Lib.hid (read7_any s (by unfold maxLen; omega) h1)
  have PS := pseudo4_any v hi lo v' hi' lo' 6 (s.size : Int) hA.a0 hA.a1 hA.b0 hA.b1 hA.c0 hA.c1 hA.d0 hA.d1
  have hPl : P.length ≤ 40 := by rw [← hPe]; exact (pseudoL_len _ _ _ _ _ _ _ _).1
  rw [hPe] at PS
  have PS := Lib.hid PS
  have HX : Hid (Held3 w.heap.size (w.heap.size + 1 + 1) 34 #[.int .i64 0, .int .i64 0, .int .u32 0, .int .u32 0, .int .i64 0, .int .i64 0, .int .i64 0, .string ⟨#[]⟩] w.heap.size 27 #[.bool v, .int .u64 hi, .int .u64 lo] (w.heap.size + 1) 27 #[.bool v', .int .u64 hi', .int .u64 lo'] w (((w.alloc (.cells #[.bool v, .int .u64 hi, .int .u64 lo] 27)).alloc (.cells #[.bool v', .int .u64 hi', .int .u64 lo'] 27)).alloc (.cells #[.int .i64 0, .int .i64 0, .int .u32 0, .int .u32 0, .int .i64 0, .int .i64 0, .int .i64 0, .string ⟨#[]⟩] 34))) := by
    refine Lib.hid ⟨?_, ((HasB.new w _ _).alloc _).alloc _, ?_, (((Below.refl _ _).alloc (Nat.le_refl _) _).alloc (by simp) _).alloc (by simp; omega) _, by simp; omega⟩
    · have := HasB.new ((w.alloc (.cells #[.bool v, .int .u64 hi, .int .u64 lo] 27)).alloc (.cells #[.bool v', .int .u64 hi', .int .u64 lo'] 27)) 34 #[.int .i64 0, .int .i64 0, .int .u32 0, .int .u32 0, .int .i64 0, .int .i64 0, .int .i64 0, .string ⟨#[]⟩]
      simpa using this
    · have := (HasB.new (w.alloc (.cells #[.bool v, .int .u64 hi, .int .u64 lo] 27)) 27 #[.bool v', .int .u64 hi', .int .u64 lo']).alloc (.cells #[.int .i64 0, .int .i64 0, .int .u32 0, .int .u32 0, .int .i64 0, .int .i64 0, .int .i64 0, .string ⟨#[]⟩] 34)
      simpa using this
  have v1 : ¬ ((szG s : Nat) : Int) < 20 := by omega
  have v2 : (((bt s 12 : Nat) : Int) % 16 != 0) = false := by simp; omega
  have v3 : ¬ (s.size : Int) < (szG s : Nat) := by omega
  subst hP
  clear h h2 h3 hPe
  go_enter Try.func11, Try.ntmps11
  go_wp2_with (first | (go_at_call 30; (with_reducible refine (RD.out _).mono ?_); rintro e wa ⟨rfl, hb⟩; have hza := (HX.out.next hb).1.lt; replace HX := Lib.hid ((HX.out.next hb).allocT (.cells #[.int .i64 ((szG s : Nat)), .int .i64 (((bt s 12 : Nat) : Int) % 16), .int .i64 ((wt s 0 : Nat)), .int .i64 ((wt s 2 : Nat)), .int .u32 ((seg s 4 4 : Nat)), .int .u32 ((seg s 8 4 : Nat)), .int .i64 ((bt s 13 : Nat)), .int .i64 ((wt s 14 : Nat)), .int .i64 ((wt s 18 : Nat)), .string (opT s)] 68)); have HF := Lib.hid (HasB.new wa 68 #[.int .i64 ((szG s : Nat)), .int .i64 (((bt s 12 : Nat) : Int) % 16), .int .i64 ((wt s 0 : Nat)), .int .i64 ((wt s 2 : Nat)), .int .u32 ((seg s 4 4 : Nat)), .int .u32 ((seg s 8 4 : Nat)), .int .i64 ((bt s 13 : Nat)), .int .i64 ((wt s 14 : Nat)), .int .i64 ((wt s 18 : Nat)), .string (opT s)]); clear hb; obtain ⟨k0, k1, k2, k3, k4, k5⟩ := cells6T HX.out) | (go_at_call 20; (with_reducible refine (PS.out _).mono ?_); rintro e wb ⟨rfl, hb⟩; replace HF := Lib.hid (HasB.below HF.out hb HF.out.lt); replace HX := Lib.hid (HX.out.next hb); clear hb k0 k1 k2 k3 k4 k5; (have c0 := HasB.cell HF.out 0 (.int .i64 (szG s : Nat)) rfl; have c1 := HasB.cell HF.out 1 (.int .i64 (((bt s 12 : Nat) : Int) % 16)) rfl; have c9 := HasB.cell HF.out 9 (.string (opT s)) rfl; have hro := HasB.rowOk HX.out.1 (n := 8) rfl)) | fail)
  have HW := HasB.setRow HX.out.1 #[.int .i64 0, .int .i64 0, .int .u32 0, .int .u32 0, .int .i64 0, .int .i64 0, .int .i64 0, .string ⟨#[]⟩]; have HL := below_setRow HX.out.2.2.2.1 (show w.heap.size ≤ w.heap.size + 1 + 1 by omega) #[.int .i64 0, .int .i64 0, .int .u32 0, .int .u32 0, .int .i64 0, .int .i64 0, .int .i64 0, .string ⟨#[]⟩]; (try simp only [Exit.inBlock, Exit.then]); refine bodyPost_ret (v := .tuple #[.agg #[.int .i64 0, .int .i64 0, .int .u32 0, .int .u32 0, .int .i64 0, .int .i64 0, .int .i64 0, .string ⟨#[]⟩], .string ⟨#[]⟩, .int .i64 1]) (results_cell3 Try.results11 _ _ (w.heap.size + 1 + 1) _ _ rfl HW Try.underlying34 infoH7 rfl rfl) rfl ⟨rfl, HL⟩
theorem get7_sum (s : ByteArray) (v : Bool) (hi lo : Int) (v' : Bool) (hi' lo' : Int) (hA : BA hi lo hi' lo') (hs : s.size ≤ 1099511627000) (P : List UInt8) (hPe : pseudoL v hi lo v' hi' lo' 6 (s.size : Int) = P) (w : World) (h1 : 20 ≤ s.size) (h2 : 20 ≤ szG s) (h3 : bt s 12 % 16 = 0) (h : szG s ≤ s.size) (hP : P ≠ []) (h4 : sumL (P ++ s.data.toList) ≠ 65535) : Calls Try.prog 11 #[.string s, .agg #[.bool v, .int .u64 hi, .int .u64 lo], .agg #[.bool v', .int .u64 hi', .int .u64 lo']] w fun e w' => e = .returned (.tuple #[.agg #[.int .i64 (headG7 s P).sp, .int .i64 (headG7 s P).dp, .int .u32 (headG7 s P).sq, .int .u32 (headG7 s P).ak, .int .i64 (headG7 s P).fl, .int .i64 (headG7 s P).wn, .int .i64 (headG7 s P).ur, .string (headG7 s P).op], .string (payG7 s P), .int .i64 (errG7 s P)]) ∧ Below w.heap.size w w' := by
  have he : errG7 s P = 4 := by unfold errG7; rw [if_neg (by omega), if_neg (by omega), if_neg (by omega), if_neg hP, if_pos h4]
  obtain ⟨hh, hp⟩ := headG7_no he (by omega)
  rw [hh, hp, he]
  show Calls _ _ _ _ fun e' w' => e' = .returned (.tuple #[.agg #[.int .i64 0, .int .i64 0, .int .u32 0, .int .u32 0, .int .i64 0, .int .i64 0, .int .i64 0, .string ⟨#[]⟩], .string ⟨#[]⟩, .int .i64 4]) ∧ Below w.heap.size w w'
  clear he hh hp
  have h20i : ¬ (s.size : Int) < 20 := by omega
  have RD := Lib.hid (read7_any s (by unfold maxLen; omega) h1)
  have PS := pseudo4_any v hi lo v' hi' lo' 6 (s.size : Int) hA.a0 hA.a1 hA.b0 hA.b1 hA.c0 hA.c1 hA.d0 hA.d1
  have hPl : P.length ≤ 40 := by rw [← hPe]; exact (pseudoL_len _ _ _ _ _ _ _ _).1
  rw [hPe] at PS
  have PS := Lib.hid PS
  have HX : Hid (Held3 w.heap.size (w.heap.size + 1 + 1) 34 #[.int .i64 0, .int .i64 0, .int .u32 0, .int .u32 0, .int .i64 0, .int .i64 0, .int .i64 0, .string ⟨#[]⟩] w.heap.size 27 #[.bool v, .int .u64 hi, .int .u64 lo] (w.heap.size + 1) 27 #[.bool v', .int .u64 hi', .int .u64 lo'] w (((w.alloc (.cells #[.bool v, .int .u64 hi, .int .u64 lo] 27)).alloc (.cells #[.bool v', .int .u64 hi', .int .u64 lo'] 27)).alloc (.cells #[.int .i64 0, .int .i64 0, .int .u32 0, .int .u32 0, .int .i64 0, .int .i64 0, .int .i64 0, .string ⟨#[]⟩] 34))) := by
    refine Lib.hid ⟨?_, ((HasB.new w _ _).alloc _).alloc _, ?_, (((Below.refl _ _).alloc (Nat.le_refl _) _).alloc (by simp) _).alloc (by simp; omega) _, by simp; omega⟩
    · have := HasB.new ((w.alloc (.cells #[.bool v, .int .u64 hi, .int .u64 lo] 27)).alloc (.cells #[.bool v', .int .u64 hi', .int .u64 lo'] 27)) 34 #[.int .i64 0, .int .i64 0, .int .u32 0, .int .u32 0, .int .i64 0, .int .i64 0, .int .i64 0, .string ⟨#[]⟩]
      simpa using this
    · have := (HasB.new (w.alloc (.cells #[.bool v, .int .u64 hi, .int .u64 lo] 27)) 27 #[.bool v', .int .u64 hi', .int .u64 lo']).alloc (.cells #[.int .i64 0, .int .i64 0, .int .u32 0, .int .u32 0, .int .i64 0, .int .i64 0, .int .i64 0, .string ⟨#[]⟩] 34)
      simpa using this
  have v1 : ¬ ((szG s : Nat) : Int) < 20 := by omega
  have v2 : (((bt s 12 : Nat) : Int) % 16 != 0) = false := by simp; omega
  have v3 : ¬ (s.size : Int) < (szG s : Nat) := by omega
  have SM := Lib.hid (rightP_any P s (by omega))
  have hq := nil_eq hP
  have f3 : (9223372036854775807 < P.length + s.size) = False := eq_false (by omega)
  have v4 : (((sumL (P ++ s.data.toList) : Nat) : Int) == 65535) = false := by simp; omega
  clear h h2 h3 h4 hPe hP
  go_enter Try.func11, Try.ntmps11
  go_wp2_with (first | (go_at_call 30; (with_reducible refine (RD.out _).mono ?_); rintro e wa ⟨rfl, hb⟩; have hza := (HX.out.next hb).1.lt; replace HX := Lib.hid ((HX.out.next hb).allocT (.cells #[.int .i64 ((szG s : Nat)), .int .i64 (((bt s 12 : Nat) : Int) % 16), .int .i64 ((wt s 0 : Nat)), .int .i64 ((wt s 2 : Nat)), .int .u32 ((seg s 4 4 : Nat)), .int .u32 ((seg s 8 4 : Nat)), .int .i64 ((bt s 13 : Nat)), .int .i64 ((wt s 14 : Nat)), .int .i64 ((wt s 18 : Nat)), .string (opT s)] 68)); have HF := Lib.hid (HasB.new wa 68 #[.int .i64 ((szG s : Nat)), .int .i64 (((bt s 12 : Nat) : Int) % 16), .int .i64 ((wt s 0 : Nat)), .int .i64 ((wt s 2 : Nat)), .int .u32 ((seg s 4 4 : Nat)), .int .u32 ((seg s 8 4 : Nat)), .int .i64 ((bt s 13 : Nat)), .int .i64 ((wt s 14 : Nat)), .int .i64 ((wt s 18 : Nat)), .string (opT s)]); clear hb; obtain ⟨k0, k1, k2, k3, k4, k5⟩ := cells6T HX.out) | (go_at_call 20; (with_reducible refine (PS.out _).mono ?_); rintro e wb ⟨rfl, hb⟩; replace HF := Lib.hid (HasB.below HF.out hb HF.out.lt); replace HX := Lib.hid (HX.out.next hb); clear hb k0 k1 k2 k3 k4 k5; (have c0 := HasB.cell HF.out 0 (.int .i64 (szG s : Nat)) rfl; have c1 := HasB.cell HF.out 1 (.int .i64 (((bt s 12 : Nat) : Int) % 16)) rfl; have c9 := HasB.cell HF.out 9 (.string (opT s)) rfl; have hro := HasB.rowOk HX.out.1 (n := 8) rfl)) | (go_at_call 31; (with_reducible refine (SM.out _).mono ?_); rintro e wc ⟨rfl, hb⟩; replace HF := Lib.hid (HasB.below HF.out hb HF.out.lt); replace HX := Lib.hid (HX.out.next hb); clear hb c0 c1 c9 hro; (have c0 := HasB.cell HF.out 0 (.int .i64 (szG s : Nat)) rfl; have c1 := HasB.cell HF.out 1 (.int .i64 (((bt s 12 : Nat) : Int) % 16)) rfl; have c9 := HasB.cell HF.out 9 (.string (opT s)) rfl; have hro := HasB.rowOk HX.out.1 (n := 8) rfl)) | fail)
  have HW := HasB.setRow HX.out.1 #[.int .i64 0, .int .i64 0, .int .u32 0, .int .u32 0, .int .i64 0, .int .i64 0, .int .i64 0, .string ⟨#[]⟩]; have HL := below_setRow HX.out.2.2.2.1 (show w.heap.size ≤ w.heap.size + 1 + 1 by omega) #[.int .i64 0, .int .i64 0, .int .u32 0, .int .u32 0, .int .i64 0, .int .i64 0, .int .i64 0, .string ⟨#[]⟩]; (try simp only [Exit.inBlock, Exit.then]); refine bodyPost_ret (v := .tuple #[.agg #[.int .i64 0, .int .i64 0, .int .u32 0, .int .u32 0, .int .i64 0, .int .i64 0, .int .i64 0, .string ⟨#[]⟩], .string ⟨#[]⟩, .int .i64 4]) (results_cell3 Try.results11 _ _ (w.heap.size + 1 + 1) _ _ rfl HW Try.underlying34 infoH7 rfl rfl) rfl ⟨rfl, HL⟩
theorem get7_opts (s : ByteArray) (v : Bool) (hi lo : Int) (v' : Bool) (hi' lo' : Int) (hA : BA hi lo hi' lo') (hs : s.size ≤ 1099511627000) (P : List UInt8) (hPe : pseudoL v hi lo v' hi' lo' 6 (s.size : Int) = P) (w : World) (h1 : 20 ≤ s.size) (h2 : 20 ≤ szG s) (h3 : bt s 12 % 16 = 0) (h : szG s ≤ s.size) (hP : P ≠ []) (h4 : sumL (P ++ s.data.toList) = 65535) (h5 : optsL (s.extract 20 (szG s)) 0 = none) : Calls Try.prog 11 #[.string s, .agg #[.bool v, .int .u64 hi, .int .u64 lo], .agg #[.bool v', .int .u64 hi', .int .u64 lo']] w fun e w' => e = .returned (.tuple #[.agg #[.int .i64 (headG7 s P).sp, .int .i64 (headG7 s P).dp, .int .u32 (headG7 s P).sq, .int .u32 (headG7 s P).ak, .int .i64 (headG7 s P).fl, .int .i64 (headG7 s P).wn, .int .i64 (headG7 s P).ur, .string (headG7 s P).op], .string (payG7 s P), .int .i64 (errG7 s P)]) ∧ Below w.heap.size w w' := by
  have he : errG7 s P = 3 := by unfold errG7; rw [if_neg (by omega), if_neg (by omega), if_neg (by omega), if_neg hP, if_neg (by omega), if_pos h5]
  obtain ⟨hh, hp⟩ := headG7_no he (by omega)
  rw [hh, hp, he]
  show Calls _ _ _ _ fun e' w' => e' = .returned (.tuple #[.agg #[.int .i64 0, .int .i64 0, .int .u32 0, .int .u32 0, .int .i64 0, .int .i64 0, .int .i64 0, .string ⟨#[]⟩], .string ⟨#[]⟩, .int .i64 3]) ∧ Below w.heap.size w w'
  clear he hh hp
  have h20i : ¬ (s.size : Int) < 20 := by omega
  have RD := Lib.hid (read7_any s (by unfold maxLen; omega) h1)
  have PS := pseudo4_any v hi lo v' hi' lo' 6 (s.size : Int) hA.a0 hA.a1 hA.b0 hA.b1 hA.c0 hA.c1 hA.d0 hA.d1
  have hPl : P.length ≤ 40 := by rw [← hPe]; exact (pseudoL_len _ _ _ _ _ _ _ _).1
  rw [hPe] at PS
  have PS := Lib.hid PS
  have HX : Hid (Held3 w.heap.size (w.heap.size + 1 + 1) 34 #[.int .i64 0, .int .i64 0, .int .u32 0, .int .u32 0, .int .i64 0, .int .i64 0, .int .i64 0, .string ⟨#[]⟩] w.heap.size 27 #[.bool v, .int .u64 hi, .int .u64 lo] (w.heap.size + 1) 27 #[.bool v', .int .u64 hi', .int .u64 lo'] w (((w.alloc (.cells #[.bool v, .int .u64 hi, .int .u64 lo] 27)).alloc (.cells #[.bool v', .int .u64 hi', .int .u64 lo'] 27)).alloc (.cells #[.int .i64 0, .int .i64 0, .int .u32 0, .int .u32 0, .int .i64 0, .int .i64 0, .int .i64 0, .string ⟨#[]⟩] 34))) := by
    refine Lib.hid ⟨?_, ((HasB.new w _ _).alloc _).alloc _, ?_, (((Below.refl _ _).alloc (Nat.le_refl _) _).alloc (by simp) _).alloc (by simp; omega) _, by simp; omega⟩
    · have := HasB.new ((w.alloc (.cells #[.bool v, .int .u64 hi, .int .u64 lo] 27)).alloc (.cells #[.bool v', .int .u64 hi', .int .u64 lo'] 27)) 34 #[.int .i64 0, .int .i64 0, .int .u32 0, .int .u32 0, .int .i64 0, .int .i64 0, .int .i64 0, .string ⟨#[]⟩]
      simpa using this
    · have := (HasB.new (w.alloc (.cells #[.bool v, .int .u64 hi, .int .u64 lo] 27)) 27 #[.bool v', .int .u64 hi', .int .u64 lo']).alloc (.cells #[.int .i64 0, .int .i64 0, .int .u32 0, .int .u32 0, .int .i64 0, .int .i64 0, .int .i64 0, .string ⟨#[]⟩] 34)
      simpa using this
  have v1 : ¬ ((szG s : Nat) : Int) < 20 := by omega
  have v2 : (((bt s 12 : Nat) : Int) % 16 != 0) = false := by simp; omega
  have v3 : ¬ (s.size : Int) < (szG s : Nat) := by omega
  have SM := Lib.hid (rightP_any P s (by omega))
  have hq := nil_eq hP
  have f3 : (9223372036854775807 < P.length + s.size) = False := eq_false (by omega)
  have hlb : (optsL (s.extract 20 (szG s)) 0).isSome = false := by rw [h5]; rfl
  have hop : opT s = s.extract 20 (szG s) := if_pos ⟨h2, h⟩
  have LS := Lib.hid (isList_is (s := opT s) (b := false) (by rw [hop]; exact hlb) (by rw [hop, ByteArray.size_extract]; omega))
  have v4 : (((sumL (P ++ s.data.toList) : Nat) : Int) == 65535) = true := by simp; omega
  clear h h2 h3 h4 h5 hPe hP hop hlb
  go_enter Try.func11, Try.ntmps11
  go_wp2_with (first | (go_at_call 30; (with_reducible refine (RD.out _).mono ?_); rintro e wa ⟨rfl, hb⟩; have hza := (HX.out.next hb).1.lt; replace HX := Lib.hid ((HX.out.next hb).allocT (.cells #[.int .i64 ((szG s : Nat)), .int .i64 (((bt s 12 : Nat) : Int) % 16), .int .i64 ((wt s 0 : Nat)), .int .i64 ((wt s 2 : Nat)), .int .u32 ((seg s 4 4 : Nat)), .int .u32 ((seg s 8 4 : Nat)), .int .i64 ((bt s 13 : Nat)), .int .i64 ((wt s 14 : Nat)), .int .i64 ((wt s 18 : Nat)), .string (opT s)] 68)); have HF := Lib.hid (HasB.new wa 68 #[.int .i64 ((szG s : Nat)), .int .i64 (((bt s 12 : Nat) : Int) % 16), .int .i64 ((wt s 0 : Nat)), .int .i64 ((wt s 2 : Nat)), .int .u32 ((seg s 4 4 : Nat)), .int .u32 ((seg s 8 4 : Nat)), .int .i64 ((bt s 13 : Nat)), .int .i64 ((wt s 14 : Nat)), .int .i64 ((wt s 18 : Nat)), .string (opT s)]); clear hb; obtain ⟨k0, k1, k2, k3, k4, k5⟩ := cells6T HX.out) | (go_at_call 20; (with_reducible refine (PS.out _).mono ?_); rintro e wb ⟨rfl, hb⟩; replace HF := Lib.hid (HasB.below HF.out hb HF.out.lt); replace HX := Lib.hid (HX.out.next hb); clear hb k0 k1 k2 k3 k4 k5; (have c0 := HasB.cell HF.out 0 (.int .i64 (szG s : Nat)) rfl; have c1 := HasB.cell HF.out 1 (.int .i64 (((bt s 12 : Nat) : Int) % 16)) rfl; have c9 := HasB.cell HF.out 9 (.string (opT s)) rfl; have hro := HasB.rowOk HX.out.1 (n := 8) rfl)) | (go_at_call 31; (with_reducible refine (SM.out _).mono ?_); rintro e wc ⟨rfl, hb⟩; replace HF := Lib.hid (HasB.below HF.out hb HF.out.lt); replace HX := Lib.hid (HX.out.next hb); clear hb c0 c1 c9 hro; (have c0 := HasB.cell HF.out 0 (.int .i64 (szG s : Nat)) rfl; have c1 := HasB.cell HF.out 1 (.int .i64 (((bt s 12 : Nat) : Int) % 16)) rfl; have c9 := HasB.cell HF.out 9 (.string (opT s)) rfl; have hro := HasB.rowOk HX.out.1 (n := 8) rfl)) | (go_at_call 32; (with_reducible refine (LS.out _).mono ?_); rintro e wd ⟨rfl, hb⟩; replace HF := Lib.hid (HasB.below HF.out hb HF.out.lt); replace HX := Lib.hid (HX.out.next hb); clear hb c0 c1 c9 hro; (have c0 := HasB.cell HF.out 0 (.int .i64 (szG s : Nat)) rfl; have c1 := HasB.cell HF.out 1 (.int .i64 (((bt s 12 : Nat) : Int) % 16)) rfl; have c9 := HasB.cell HF.out 9 (.string (opT s)) rfl; have hro := HasB.rowOk HX.out.1 (n := 8) rfl)) | fail)
  have HW := HasB.setRow HX.out.1 #[.int .i64 0, .int .i64 0, .int .u32 0, .int .u32 0, .int .i64 0, .int .i64 0, .int .i64 0, .string ⟨#[]⟩]; have HL := below_setRow HX.out.2.2.2.1 (show w.heap.size ≤ w.heap.size + 1 + 1 by omega) #[.int .i64 0, .int .i64 0, .int .u32 0, .int .u32 0, .int .i64 0, .int .i64 0, .int .i64 0, .string ⟨#[]⟩]; (try simp only [Exit.inBlock, Exit.then]); refine bodyPost_ret (v := .tuple #[.agg #[.int .i64 0, .int .i64 0, .int .u32 0, .int .u32 0, .int .i64 0, .int .i64 0, .int .i64 0, .string ⟨#[]⟩], .string ⟨#[]⟩, .int .i64 3]) (results_cell3 Try.results11 _ _ (w.heap.size + 1 + 1) _ _ rfl HW Try.underlying34 infoH7 rfl rfl) rfl ⟨rfl, HL⟩
theorem cellsF {g : Nat} {t : TypeId} {s : ByteArray} {w : World} (H : HasB w g t #[.int .i64 ((szG s : Nat)), .int .i64 (((bt s 12 : Nat) : Int) % 16), .int .i64 ((wt s 0 : Nat)), .int .i64 ((wt s 2 : Nat)), .int .u32 ((seg s 4 4 : Nat)), .int .u32 ((seg s 8 4 : Nat)), .int .i64 ((bt s 13 : Nat)), .int .i64 ((wt s 14 : Nat)), .int .i64 ((wt s 18 : Nat)), .string (opT s)]) : w.cell? ⟨g, 0, none⟩ = some (.int .i64 (szG s : Nat)) ∧ w.cell? ⟨g, 2, none⟩ = some (.int .i64 (wt s 0 : Nat)) ∧ w.cell? ⟨g, 3, none⟩ = some (.int .i64 (wt s 2 : Nat)) ∧ w.cell? ⟨g, 4, none⟩ = some (.int .u32 (seg s 4 4 : Nat)) ∧ w.cell? ⟨g, 5, none⟩ = some (.int .u32 (seg s 8 4 : Nat)) ∧ w.cell? ⟨g, 6, none⟩ = some (.int .i64 (bt s 13 : Nat)) ∧ w.cell? ⟨g, 7, none⟩ = some (.int .i64 (wt s 14 : Nat)) ∧ w.cell? ⟨g, 8, none⟩ = some (.int .i64 (wt s 18 : Nat)) ∧ w.cell? ⟨g, 9, none⟩ = some (.string (opT s)) :=
  ⟨HasB.cell H 0 _ rfl, HasB.cell H 2 _ rfl, HasB.cell H 3 _ rfl, HasB.cell H 4 _ rfl, HasB.cell H 5 _ rfl, HasB.cell H 6 _ rfl, HasB.cell H 7 _ rfl, HasB.cell H 8 _ rfl, HasB.cell H 9 _ rfl⟩
set_option maxRecDepth 100000 in
set_option maxHeartbeats 4000000 in
theorem get7_ok (s : ByteArray) (v : Bool) (hi lo : Int) (v' : Bool) (hi' lo' : Int) (hA : BA hi lo hi' lo') (hs : s.size ≤ 1099511627000) (P : List UInt8) (hPe : pseudoL v hi lo v' hi' lo' 6 (s.size : Int) = P) (w : World) (he : errG7 s P = 0) : Calls Try.prog 11 #[.string s, .agg #[.bool v, .int .u64 hi, .int .u64 lo], .agg #[.bool v', .int .u64 hi', .int .u64 lo']] w fun e w' => e = .returned (.tuple #[.agg #[.int .i64 (headG7 s P).sp, .int .i64 (headG7 s P).dp, .int .u32 (headG7 s P).sq, .int .u32 (headG7 s P).ak, .int .i64 (headG7 s P).fl, .int .i64 (headG7 s P).wn, .int .i64 (headG7 s P).ur, .string (headG7 s P).op], .string (payG7 s P), .int .i64 (errG7 s P)]) ∧ Below w.heap.size w w' := by
  obtain ⟨h1, h2, h3, h, hP, h4, h5⟩ := errG7_ok he
  have hh : headG7 s P = raw7 s := if_pos he
  have hp : payG7 s P = s.extract (szG s) s.size := if_pos he
  have hop0 : s.extract 20 (szG s) = opT s := (if_pos ⟨h2, h⟩ : opT s = _).symm
  rw [hh, hp, he]
  show Calls _ _ _ _ fun e' w' => e' = .returned (.tuple #[.agg #[.int .i64 ((wt s 0 : Nat)), .int .i64 ((wt s 2 : Nat)), .int .u32 ((seg s 4 4 : Nat)), .int .u32 ((seg s 8 4 : Nat)), .int .i64 ((bt s 13 : Nat)), .int .i64 ((wt s 14 : Nat)), .int .i64 ((wt s 18 : Nat)), .string ((s.extract 20 (szG s)))], .string (s.extract (szG s) s.size), .int .i64 0]) ∧ Below w.heap.size w w'
  rw [hop0]
  clear he hh hp hop0
  have h20i : ¬ (s.size : Int) < 20 := by omega
  have RD := Lib.hid (read7_any s (by unfold maxLen; omega) h1)
  have PS := pseudo4_any v hi lo v' hi' lo' 6 (s.size : Int) hA.a0 hA.a1 hA.b0 hA.b1 hA.c0 hA.c1 hA.d0 hA.d1
  have hPl : P.length ≤ 40 := by rw [← hPe]; exact (pseudoL_len _ _ _ _ _ _ _ _).1
  rw [hPe] at PS
  have PS := Lib.hid PS
  have HX : Hid (Held3 w.heap.size (w.heap.size + 1 + 1) 34 #[.int .i64 0, .int .i64 0, .int .u32 0, .int .u32 0, .int .i64 0, .int .i64 0, .int .i64 0, .string ⟨#[]⟩] w.heap.size 27 #[.bool v, .int .u64 hi, .int .u64 lo] (w.heap.size + 1) 27 #[.bool v', .int .u64 hi', .int .u64 lo'] w (((w.alloc (.cells #[.bool v, .int .u64 hi, .int .u64 lo] 27)).alloc (.cells #[.bool v', .int .u64 hi', .int .u64 lo'] 27)).alloc (.cells #[.int .i64 0, .int .i64 0, .int .u32 0, .int .u32 0, .int .i64 0, .int .i64 0, .int .i64 0, .string ⟨#[]⟩] 34))) := by
    refine Lib.hid ⟨?_, ((HasB.new w _ _).alloc _).alloc _, ?_, (((Below.refl _ _).alloc (Nat.le_refl _) _).alloc (by simp) _).alloc (by simp; omega) _, by simp; omega⟩
    · have := HasB.new ((w.alloc (.cells #[.bool v, .int .u64 hi, .int .u64 lo] 27)).alloc (.cells #[.bool v', .int .u64 hi', .int .u64 lo'] 27)) 34 #[.int .i64 0, .int .i64 0, .int .u32 0, .int .u32 0, .int .i64 0, .int .i64 0, .int .i64 0, .string ⟨#[]⟩]
      simpa using this
    · have := (HasB.new (w.alloc (.cells #[.bool v, .int .u64 hi, .int .u64 lo] 27)) 27 #[.bool v', .int .u64 hi', .int .u64 lo']).alloc (.cells #[.int .i64 0, .int .i64 0, .int .u32 0, .int .u32 0, .int .i64 0, .int .i64 0, .int .i64 0, .string ⟨#[]⟩] 34)
      simpa using this
  have v1 : ¬ ((szG s : Nat) : Int) < 20 := by omega
  have v2 : (((bt s 12 : Nat) : Int) % 16 != 0) = false := by simp; omega
  have v3 : ¬ (s.size : Int) < (szG s : Nat) := by omega
  have SM := Lib.hid (rightP_any P s (by omega))
  have hq := nil_eq hP
  have f3 : (9223372036854775807 < P.length + s.size) = False := eq_false (by omega)
  have hlb : (optsL (s.extract 20 (szG s)) 0).isSome = true := by
    cases ho : optsL (s.extract 20 (szG s)) 0 with
    | none => exact absurd ho h5
    | some l => rfl
  have hop : opT s = s.extract 20 (szG s) := if_pos ⟨h2, h⟩
  have LS := Lib.hid (isList_is (s := opT s) (b := true) (by rw [hop]; exact hlb) (by rw [hop, ByteArray.size_extract]; omega))
  have v4 : (((sumL (P ++ s.data.toList) : Nat) : Int) == 65535) = true := by simp; omega
  have v5 : (0 : Int) ≤ (szG s : Nat) := by omega
  have v6 : ((szG s : Nat) : Int) ≤ s.size := by omega
  clear h h2 h3 h4 h5 hPe hP hop hlb
  go_enter Try.func11, Try.ntmps11
  go_wp2_with (first | (go_at_call 30; (with_reducible refine (RD.out _).mono ?_); rintro e wa ⟨rfl, hb⟩; have hza := (HX.out.next hb).1.lt; replace HX := Lib.hid ((HX.out.next hb).allocT (.cells #[.int .i64 ((szG s : Nat)), .int .i64 (((bt s 12 : Nat) : Int) % 16), .int .i64 ((wt s 0 : Nat)), .int .i64 ((wt s 2 : Nat)), .int .u32 ((seg s 4 4 : Nat)), .int .u32 ((seg s 8 4 : Nat)), .int .i64 ((bt s 13 : Nat)), .int .i64 ((wt s 14 : Nat)), .int .i64 ((wt s 18 : Nat)), .string (opT s)] 68)); have HF := Lib.hid (HasB.new wa 68 #[.int .i64 ((szG s : Nat)), .int .i64 (((bt s 12 : Nat) : Int) % 16), .int .i64 ((wt s 0 : Nat)), .int .i64 ((wt s 2 : Nat)), .int .u32 ((seg s 4 4 : Nat)), .int .u32 ((seg s 8 4 : Nat)), .int .i64 ((bt s 13 : Nat)), .int .i64 ((wt s 14 : Nat)), .int .i64 ((wt s 18 : Nat)), .string (opT s)]); clear hb; obtain ⟨k0, k1, k2, k3, k4, k5⟩ := cells6T HX.out) | (go_at_call 20; (with_reducible refine (PS.out _).mono ?_); rintro e wb ⟨rfl, hb⟩; replace HF := Lib.hid (HasB.below HF.out hb HF.out.lt); replace HX := Lib.hid (HX.out.next hb); clear hb k0 k1 k2 k3 k4 k5; (have c0 := HasB.cell HF.out 0 (.int .i64 (szG s : Nat)) rfl; have c1 := HasB.cell HF.out 1 (.int .i64 (((bt s 12 : Nat) : Int) % 16)) rfl; have c9 := HasB.cell HF.out 9 (.string (opT s)) rfl; have hro := HasB.rowOk HX.out.1 (n := 8) rfl)) | (go_at_call 31; (with_reducible refine (SM.out _).mono ?_); rintro e wc ⟨rfl, hb⟩; replace HF := Lib.hid (HasB.below HF.out hb HF.out.lt); replace HX := Lib.hid (HX.out.next hb); clear hb c0 c1 c9 hro; (have c0 := HasB.cell HF.out 0 (.int .i64 (szG s : Nat)) rfl; have c1 := HasB.cell HF.out 1 (.int .i64 (((bt s 12 : Nat) : Int) % 16)) rfl; have c9 := HasB.cell HF.out 9 (.string (opT s)) rfl; have hro := HasB.rowOk HX.out.1 (n := 8) rfl)) | (go_at_call 32; (with_reducible refine (LS.out _).mono ?_); rintro e wd ⟨rfl, hb⟩; replace HF := Lib.hid (HasB.below HF.out hb HF.out.lt); replace HX := Lib.hid (HX.out.next hb); clear hb c0 c1 c9 hro; (have c0 := HasB.cell HF.out 0 (.int .i64 (szG s : Nat)) rfl; have c1 := HasB.cell HF.out 1 (.int .i64 (((bt s 12 : Nat) : Int) % 16)) rfl; have c9 := HasB.cell HF.out 9 (.string (opT s)) rfl; have hro := HasB.rowOk HX.out.1 (n := 8) rfl)) | fail)
  clear c0 c1 c9 hro
  have hro := HasB.rowOk (HasB.drew HX.out.1) (n := 8) rfl
  refine wp_region_noPanic ?_
  refine wp_region_held_drew (S := (fun w' => w'.cell? ⟨wa.heap.size, 0, none⟩ = some (.int .i64 (szG s : Nat)) ∧ w'.cell? ⟨wa.heap.size, 2, none⟩ = some (.int .i64 (wt s 0 : Nat)) ∧ w'.cell? ⟨wa.heap.size, 3, none⟩ = some (.int .i64 (wt s 2 : Nat)) ∧ w'.cell? ⟨wa.heap.size, 4, none⟩ = some (.int .u32 (seg s 4 4 : Nat)) ∧ w'.cell? ⟨wa.heap.size, 5, none⟩ = some (.int .u32 (seg s 8 4 : Nat)) ∧ w'.cell? ⟨wa.heap.size, 6, none⟩ = some (.int .i64 (bt s 13 : Nat)) ∧ w'.cell? ⟨wa.heap.size, 7, none⟩ = some (.int .i64 (wt s 14 : Nat)) ∧ w'.cell? ⟨wa.heap.size, 8, none⟩ = some (.int .i64 (wt s 18 : Nat)) ∧ w'.cell? ⟨wa.heap.size, 9, none⟩ = some (.string (opT s)))) (by kernel_rfl) (cellsF HF.out) (fun hHeld => ?_)
  refine wpAnyH_take (i := 0) (oi := _) (v := ?v0a) rfl (by kernel_rfl) (by kernel_rfl) (by kernel_rfl) (fun _ _ _ h => h) (Or.inl ⟨by rfl, ?y0a⟩) (by assumption) ?r0a
  case y0a => intro w0 hSw; (try dsimp only at hSw); go_simp; try with_reducible rfl
  try simp only [Act.put, List.setIfInBounds_toArray, List.set_cons_zero, List.set_cons_succ, List.getElem_toArray, List.getElem_cons_zero]
  refine wpAnyH_take (i := 2) (oi := _) (v := ?v2a) rfl (by kernel_rfl) (by kernel_rfl) (by kernel_rfl) (fun _ _ _ h => h) (Or.inl ⟨by rfl, ?y2a⟩) (by assumption) ?r2a
  case y2a => intro w0 hSw; (try dsimp only at hSw); go_simp; try with_reducible rfl
  try simp only [Act.put, List.setIfInBounds_toArray, List.set_cons_zero, List.set_cons_succ, List.getElem_toArray, List.getElem_cons_succ, List.getElem_cons_zero]
  refine wpAnyH_take (i := 3) (oi := _) (v := ?v3a) rfl (by kernel_rfl) (by kernel_rfl) (by kernel_rfl) (fun _ _ _ h => h) (Or.inl ⟨by rfl, ?y3a⟩) (by assumption) ?r3a
  case y3a => intro w0 hSw; (try dsimp only at hSw); go_simp; try with_reducible rfl
  try simp only [Act.put, List.setIfInBounds_toArray, List.set_cons_zero, List.set_cons_succ, List.getElem_toArray, List.getElem_cons_succ, List.getElem_cons_zero]
  refine wpAnyH_take (i := 1) (oi := _) (v := ?v1a) rfl (by kernel_rfl) (by kernel_rfl) (by kernel_rfl) (fun _ _ _ h => h) (Or.inl ⟨by rfl, ?y1a⟩) (by assumption) ?r1a
  case y1a => intro w0 hSw; (try dsimp only at hSw); go_simp; try with_reducible rfl
  try simp only [Act.put, List.setIfInBounds_toArray, List.set_cons_zero, List.set_cons_succ, List.getElem_toArray, List.getElem_cons_succ, List.getElem_cons_zero]
  refine wpAnyH_take (i := 4) (oi := _) (v := ?v4a) rfl (by kernel_rfl) (by kernel_rfl) (by kernel_rfl) (fun _ _ _ h => h) (Or.inl ⟨by rfl, ?y4a⟩) (by assumption) ?r4a
  case y4a => intro w0 hSw; (try dsimp only at hSw); go_simp; try with_reducible rfl
  try simp only [Act.put, List.setIfInBounds_toArray, List.set_cons_zero, List.set_cons_succ, List.getElem_toArray, List.getElem_cons_succ, List.getElem_cons_zero]
  refine wpAnyH_take (i := 5) (oi := _) (v := ?v5a) rfl (by kernel_rfl) (by kernel_rfl) (by kernel_rfl) (fun _ _ _ h => h) (Or.inl ⟨by rfl, ?y5a⟩) (by assumption) ?r5a
  case y5a => intro w0 hSw; (try dsimp only at hSw); go_simp; try with_reducible rfl
  try simp only [Act.put, List.setIfInBounds_toArray, List.set_cons_zero, List.set_cons_succ, List.getElem_toArray, List.getElem_cons_succ, List.getElem_cons_zero]
  refine wpAnyH_ready (rs := [6]) (by kernel_rfl) (by simp) ?_
  refine AllReadyH.cons (o := _) rfl (fun K hK => ?_) AllReadyH.nil
  go_simp
  refine hK.out _ _ (cellsF (HasB.setRow_other (HasB.drew HF.out) _ _ (by omega))) (fun hHeld => ?_)
  clear hK K
  try simp only [Act.put, List.setIfInBounds_toArray, List.set_cons_zero, List.set_cons_succ, List.getElem_toArray, List.getElem_cons_succ, List.getElem_cons_zero]
  refine wpAnyH_take (i := 7) (oi := _) (v := ?v7a) rfl (by kernel_rfl) (by kernel_rfl) (by kernel_rfl) (fun _ _ _ h => h) (Or.inl ⟨by rfl, ?y7a⟩) (by assumption) ?r7a
  case y7a => intro w0 hSw; (try dsimp only at hSw); go_simp; try with_reducible rfl
  try simp only [Act.put, List.setIfInBounds_toArray, List.set_cons_zero, List.set_cons_succ, List.getElem_toArray, List.getElem_cons_succ, List.getElem_cons_zero]
  refine wpAnyH_take (i := 8) (oi := _) (v := ?v8a) rfl (by kernel_rfl) (by kernel_rfl) (by kernel_rfl) (fun _ _ _ h => h) (Or.inl ⟨by rfl, ?y8a⟩) (by assumption) ?r8a
  case y8a => intro w0 hSw; (try dsimp only at hSw); go_simp; try with_reducible rfl
  try simp only [Act.put, List.setIfInBounds_toArray, List.set_cons_zero, List.set_cons_succ, List.getElem_toArray, List.getElem_cons_succ, List.getElem_cons_zero]
  refine wpAnyH_done (by kernel_rfl) ?_ _
  refine NoPanic.normal ?_
  go_wp2_with fail
  have HW := HasB.setRow (HasB.drew HX.out.1) #[.int .i64 ((wt s 0 : Nat)), .int .i64 ((wt s 2 : Nat)), .int .u32 ((seg s 4 4 : Nat)), .int .u32 ((seg s 8 4 : Nat)), .int .i64 ((bt s 13 : Nat)), .int .i64 ((wt s 14 : Nat)), .int .i64 ((wt s 18 : Nat)), .string ((opT s))]
  have HL := below_setRow HX.out.2.2.2.1.drew (show w.heap.size ≤ w.heap.size + 1 + 1 by omega) #[.int .i64 ((wt s 0 : Nat)), .int .i64 ((wt s 2 : Nat)), .int .u32 ((seg s 4 4 : Nat)), .int .u32 ((seg s 8 4 : Nat)), .int .i64 ((bt s 13 : Nat)), .int .i64 ((wt s 14 : Nat)), .int .i64 ((wt s 18 : Nat)), .string ((opT s))]
  (try simp only [Exit.inBlock, Exit.then]); refine bodyPost_ret (v := .tuple #[.agg #[.int .i64 ((wt s 0 : Nat)), .int .i64 ((wt s 2 : Nat)), .int .u32 ((seg s 4 4 : Nat)), .int .u32 ((seg s 8 4 : Nat)), .int .i64 ((bt s 13 : Nat)), .int .i64 ((wt s 14 : Nat)), .int .i64 ((wt s 18 : Nat)), .string ((opT s))], .string (s.extract (szG s) s.size), .int .i64 0]) (results_cell3 Try.results11 _ _ (w.heap.size + 1 + 1) _ _ rfl HW Try.underlying34 infoH7 rfl rfl) rfl ⟨rfl, HL⟩
theorem get7_any (s : ByteArray) (v : Bool) (hi lo : Int) (v' : Bool) (hi' lo' : Int) (hA : BA hi lo hi' lo') (hs : s.size ≤ 1099511627000) (P : List UInt8) (hPe : pseudoL v hi lo v' hi' lo' 6 (s.size : Int) = P) (w : World) : Calls Try.prog 11 #[.string s, .agg #[.bool v, .int .u64 hi, .int .u64 lo], .agg #[.bool v', .int .u64 hi', .int .u64 lo']] w fun e w' => e = .returned (.tuple #[.agg #[.int .i64 (headG7 s P).sp, .int .i64 (headG7 s P).dp, .int .u32 (headG7 s P).sq, .int .u32 (headG7 s P).ak, .int .i64 (headG7 s P).fl, .int .i64 (headG7 s P).wn, .int .i64 (headG7 s P).ur, .string (headG7 s P).op], .string (payG7 s P), .int .i64 (errG7 s P)]) ∧ Below w.heap.size w w' := by
  by_cases h1 : s.size < 20
  · exact get7_short s v hi lo v' hi' lo' hA hs P hPe w h1
  · by_cases h2 : szG s < 20 ∨ bt s 12 % 16 ≠ 0
    · exact get7_form s v hi lo v' hi' lo' hA hs P hPe w (by omega) h2
    · by_cases h3 : s.size < szG s
      · exact get7_cut s v hi lo v' hi' lo' hA hs P hPe w (by omega) (by omega) (by omega) h3
      · by_cases h4 : P = []
        · exact get7_addr s v hi lo v' hi' lo' hA hs P hPe w (by omega) (by omega) (by omega) (by omega) h4
        · by_cases h5 : sumL (P ++ s.data.toList) = 65535
          · cases h6 : optsL (s.extract 20 (szG s)) 0 with
            | none => exact get7_opts s v hi lo v' hi' lo' hA hs P hPe w (by omega) (by omega) (by omega) (by omega) h4 h5 h6
            | some l => exact get7_ok s v hi lo v' hi' lo' hA hs P hPe w (errG7_is (by omega) (by omega) (by omega) (by omega) h4 h5 (by rw [h6]; simp))
          · exact get7_sum s v hi lo v' hi' lo' hA hs P hPe w (by omega) (by omega) (by omega) (by omega) h4 h5
end Go.Proofs.Ytbnhneompibilaa
