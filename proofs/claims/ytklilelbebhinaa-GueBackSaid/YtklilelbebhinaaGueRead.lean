/- The contracts of package gue: read. -/
import Derived.Test.YtklilelbebhinaaGueWalks
import Derived.Test.YtklilelbebhinaaReadAt
namespace Go.Proofs.Ytklilelbebhinaa
open Go.RowKit
set_option linter.unusedVariables false
theorem infoFG : (Try.prog.info? 40).map (·.size) = some 8 := by kernel_rfl
theorem ldFG {ρ : Operand → Value} {x : Operand} {dst : Option Tmp} {ty : TypeId} {pos : String} {after : Array Edge} {guard : Option (Nat × Bool)} {w : World} (h : rowOkAt 8 w (ρ x) = true) : (execOp ρ { dst, op := .load 40 x, type := ty, pos, after, guard }).run Try.prog w = .ok (.value (.agg (rowAt w (ρ x)))) w := exec_load infoFG Try.underlying40 h
theorem stFG {ρ : Operand → Value} {x y : Operand} {dst : Option Tmp} {ty : TypeId} {pos : String} {after : Array Edge} {guard : Option (Nat × Bool)} {w : World} (h : rowOkAt 8 w (ρ x) = true) (hy : aggOk 8 (ρ y) = true) : (execOp ρ { dst, op := .store 40 x y, type := ty, pos, after, guard }).run Try.prog w = .ok .skip (setAt w (ρ x) (aggOf (ρ y))) := exec_store infoFG h hy
theorem aggFG (fx : ByteArray) (pr fi : Int) (vs : Bool) (bk ck : Int) (fs : Bool) (ins : Int) : aggOk 8 (.agg #[.string (fx), .int .i64 (pr), .int .i64 (fi), .bool (vs), .int .i64 (bk), .int .u64 (ck), .bool (fs), .int .i64 (ins)]) = true := by simp [aggOk, Value.oneCell']
attribute [local go_sem ↓] ldFG stFG
attribute [local go_sem] rowAt_p rowOkAt_p setAt_p aggOf_a rowOk_new rowOf_new setRow_new aggFG

/-- What holds while the fields are read: the result's block, the reader, the fields. -/
structure StG (s : ByteArray) (p g : Nat) (cs : Array Value) (w0 W : World) : Prop where
  res : HasB W w0.heap.size 40 #[.string ⟨#[]⟩, .int .i64 0, .int .i64 0, .bool false, .int .i64 0, .int .u64 0, .bool false, .int .i64 0]
  f : HasB W g 40 cs
  rd : Rd W (w0.heap.size + 1 + 1) (w0.heap.size + 1) (some (s.extract p s.size))
  below : Below w0.heap.size w0 W
  far : w0.heap.size + 1 + 1 < g
theorem StG.next {s : ByteArray} {p p' g : Nat} {cs : Array Value} {w0 W W' : World} (h : StG s p g cs w0 W) (hr : Rd W' (w0.heap.size + 1 + 1) (w0.heap.size + 1) (some (s.extract p' s.size))) (hk : Kept (fun k => k = w0.heap.size + 1 + 1 ∨ k = w0.heap.size + 1) W W') : StG s p' g cs w0 W' :=
  ⟨HasB.kept h.res hk (by omega), HasB.kept h.f hk (by have := h.far; omega), hr, h.below.trans (hk.below h.below.size (by omega)), h.far⟩
theorem StG.put {s : ByteArray} {p g : Nat} {cs : Array Value} {w0 W : World} (h : StG s p g cs w0 W) (i : Nat) (v : Value) : StG s p g (cs.setIfInBounds i v) w0 (W.setCell ⟨g, i, none⟩ v) :=
  ⟨HasB.far h.res ⟨g, i, none⟩ (by have := h.far; show _ ≠ g; omega) v, HasB.put h.f i v,
    Rd.keep h.rd (S := fun k => k = g) (Kept.setCell (S := fun k => k = g) (Kept.refl _ W) ⟨g, i, none⟩ (.inr rfl) v) (by have := h.far; omega) (by have := h.far; omega),
    Below.setCell (p := ⟨g, i, none⟩) h.below (by have := h.far; show _ ≤ g; omega) v, h.far⟩
theorem rest_atG (s : ByteArray) (p : Nat) : (restR (some (s.extract p s.size))).1 = s.extract p s.size := by
  apply ext_eq
  show ((s.extract p s.size).extract 0 (s.extract p s.size).size).data.toList = _
  rw [ext_str', List.drop_zero, Nat.sub_zero, size_list, List.take_length]
set_option maxHeartbeats 2000000 in
theorem read10_any (s : ByteArray) (hs : s.size = 18) (w : World) :
    Calls Try.prog 17 #[.string s] w fun e w' => e = .returned (.agg #[.string ((s.extract 0 3)), .int .i64 ((bt s 3 : Nat)), .int .i64 ((bt s 6 : Nat)), .bool (decide (bt s 3 = 41)), .int .i64 ((wt s 4 : Nat)), .int .u64 ((seg s 10 8 : Nat)), .bool (decide (bt s 6 = 1)), .int .i64 ((bt s 7 : Nat))]) ∧ Below w.heap.size w w' := by
  have hm : s.size ≤ maxLen := by unfold maxLen; omega
  have hE : ∀ x : Nat, ∀ y : Nat, (((x : Nat) : Int) == (y : Int)) = decide (x = y) := fun x y => by
    by_cases h : x = y
    · subst h; simp
    · rw [decide_eq_false h]; simp; omega
  obtain ⟨V, hV⟩ : ∃ V, decide (bt s 3 = 41) = V := ⟨_, rfl⟩
  obtain ⟨F, hF⟩ : ∃ F, decide (bt s 6 = 1) = F := ⟨_, rfl⟩
  have v1 : (((bt s 3 : Nat) : Int) == 41) = V := (hE _ 41).trans hV
  have v2 : (((bt s 6 : Nat) : Int) == 1) = F := (hE _ 1).trans hF
  rw [hV, hF]
  have e18 : s.extract 10 s.size = s.extract 10 18 := by rw [hs]
  have hz : (s.extract 10 s.size).size = 8 := by rw [ByteArray.size_extract]; omega
  have hg := fun w => get_any (s.extract 10 s.size) 0 8 (by rw [hz]; unfold maxLen; omega) (by omega) (by omega) w
  rw [getN_yes (by omega) (by omega) (by omega) (by rw [hz]; omega), getOk_yes (by omega) (by omega) (by omega) (by rw [hz]; omega)] at hg
  have hsg : numB (((s.extract 10 s.size).data.toList.drop (0 : Int).toNat).take (8 : Int).toNat) = seg s 10 8 := by
    unfold seg
    rw [ext_str', hs]
    simp only [Int.toNat_zero, List.drop_zero, Int.reduceToNat, List.take_take]
    rfl
  rw [hsg] at hg
  have HG := Lib.hid hg
  have HR := fun W (h : Rd W (w.heap.size + 1 + 1) (w.heap.size + 1) (some (s.extract 10 s.size))) => rest_any (w.heap.size + 1 + 1) (w.heap.size + 1) (some (s.extract 10 s.size)) W h (rd_sz s 10 hm)
  unfold IsText at HR
  rw [rest_atG s 10] at HR
  replace HR := Lib.hid HR
  have HS := Lib.hid hs
  clear hV hF hE hg hsg hz e18 hs
  go_enter Try.func17, Try.ntmps17
  go_wp2_with fail
  refine (new_any s _).mono ?_
  rintro e w1 ⟨rfl, rfl⟩
  go_wp2_with fail
  have hr0 : Rd (((w.alloc (.cells #[.string ⟨#[]⟩, .int .i64 0, .int .i64 0, .bool false, .int .i64 0, .int .u64 0, .bool false, .int .i64 0] 40)).alloc (.cells #[.string s] 9)).alloc (.cells #[.pointer (some ⟨w.heap.size + 1, 0, none⟩)] 63)) (w.heap.size + 1 + 1) (w.heap.size + 1) (some (s.extract 0 s.size)) := by
    refine ⟨?_, ?_, by have := HS.out; omega⟩
    · have := HasB.new ((w.alloc (.cells #[.string ⟨#[]⟩, .int .i64 0, .int .i64 0, .bool false, .int .i64 0, .int .u64 0, .bool false, .int .i64 0] 40)).alloc (.cells #[.string s] 9)) 63 #[.pointer (some ⟨w.heap.size + 1, 0, none⟩)]
      simpa using this
    · have := (HasB.new (w.alloc (.cells #[.string ⟨#[]⟩, .int .i64 0, .int .i64 0, .bool false, .int .i64 0, .int .u64 0, .bool false, .int .i64 0] 40)) 9 #[.string s]).alloc (.cells #[.pointer (some ⟨w.heap.size + 1, 0, none⟩)] 63)
      rw [show s.extract 0 s.size = s by apply ext_eq; rw [ext_str', List.drop_zero, Nat.sub_zero, size_list, List.take_length]]
      simpa using this
  (with_reducible refine (text_at (w.heap.size + 1 + 1) (w.heap.size + 1) s 0 3 3 rfl _ hr0 hm (by have := HS.out; omega)).mono ?_)
  rintro e wa ⟨rfl, hr, hk⟩
  have HX : Hid (StG s 3 wa.heap.size #[.string ((s.extract 0 3)), .int .i64 (0), .int .i64 (0), .bool (false), .int .i64 (0), .int .u64 (0), .bool (false), .int .i64 (0)] w (wa.alloc (.cells #[.string ((s.extract 0 3)), .int .i64 (0), .int .i64 (0), .bool (false), .int .i64 (0), .int .u64 (0), .bool (false), .int .i64 (0)] 40))) := by
    refine Lib.hid ⟨HasB.alloc (HasB.kept (((HasB.new w 40 #[.string ⟨#[]⟩, .int .i64 0, .int .i64 0, .bool false, .int .i64 0, .int .u64 0, .bool false, .int .i64 0]).alloc _).alloc _) hk (by omega)) _, HasB.new _ _ _, ?_, ?_, ?_⟩
    · exact ⟨HasB.alloc hr.1 _, HasB.alloc hr.2.1 _, hr.2.2⟩
    · have h1 : Below w.heap.size w (((w.alloc (.cells #[.string ⟨#[]⟩, .int .i64 0, .int .i64 0, .bool false, .int .i64 0, .int .u64 0, .bool false, .int .i64 0] 40)).alloc (.cells #[.string s] 9)).alloc (.cells #[.pointer (some ⟨w.heap.size + 1, 0, none⟩)] 63)) := (((Below.refl _ w).alloc (Nat.le_refl _) _).alloc (by simp) _).alloc (by simp; omega) _
      have h2 := h1.trans (hk.below h1.size (by omega))
      exact h2.alloc (Nat.le_trans h1.size hk.size) _
    · have := hk.size
      simp at this
      omega
  clear hr0 hr hk
  go_wp2_with fail
  (with_reducible refine (num1_at (w.heap.size + 1 + 1) (w.heap.size + 1) s 3 _ HX.out.rd hm (by have := HS.out; omega)).mono ?_)
  rintro e wb ⟨rfl, hr, hk⟩
  replace HX := Lib.hid (HX.out.next hr hk)
  clear hr hk
  have c1 := HasB.cell HX.out.f 1 (.int .i64 (0)) rfl
  have c3 := HasB.cell HX.out.f 3 (.bool (false)) rfl
  have f1 := HasB.free HX.out.f 1
  have f3 := HasB.free HX.out.f 3
  go_wp2_with fail
  clear c1 c3 f1 f3
  have HY := ((HX.out.put 1 (.int .i64 ((bt s 3 : Nat)))).put 3 (.bool (V)))
  replace HX : Hid (StG s 4 wa.heap.size #[.string ((s.extract 0 3)), .int .i64 ((bt s 3 : Nat)), .int .i64 (0), .bool (V), .int .i64 (0), .int .u64 (0), .bool (false), .int .i64 (0)] w _) := Lib.hid (by exact HY)
  clear HY
  (with_reducible refine (num2_at (w.heap.size + 1 + 1) (w.heap.size + 1) s 4 _ HX.out.rd hm (by have := HS.out; omega)).mono ?_)
  rintro e wb ⟨rfl, hr, hk⟩
  replace HX := Lib.hid (HX.out.next hr hk)
  clear hr hk
  have c4 := HasB.cell HX.out.f 4 (.int .i64 (0)) rfl
  have f4 := HasB.free HX.out.f 4
  go_wp2_with fail
  clear c4 f4
  have HY := (HX.out.put 4 (.int .i64 ((wt s 4 : Nat))))
  replace HX : Hid (StG s 6 wa.heap.size #[.string ((s.extract 0 3)), .int .i64 ((bt s 3 : Nat)), .int .i64 (0), .bool (V), .int .i64 ((wt s 4 : Nat)), .int .u64 (0), .bool (false), .int .i64 (0)] w _) := Lib.hid (by exact HY)
  clear HY
  (with_reducible refine (num1_at (w.heap.size + 1 + 1) (w.heap.size + 1) s 6 _ HX.out.rd hm (by have := HS.out; omega)).mono ?_)
  rintro e wb ⟨rfl, hr, hk⟩
  replace HX := Lib.hid (HX.out.next hr hk)
  clear hr hk
  have c2 := HasB.cell HX.out.f 2 (.int .i64 (0)) rfl
  have c6 := HasB.cell HX.out.f 6 (.bool (false)) rfl
  have f2 := HasB.free HX.out.f 2
  have f6 := HasB.free HX.out.f 6
  go_wp2_with fail
  clear c2 c6 f2 f6
  have HY := ((HX.out.put 2 (.int .i64 ((bt s 6 : Nat)))).put 6 (.bool (F)))
  replace HX : Hid (StG s 7 wa.heap.size #[.string ((s.extract 0 3)), .int .i64 ((bt s 3 : Nat)), .int .i64 ((bt s 6 : Nat)), .bool (V), .int .i64 ((wt s 4 : Nat)), .int .u64 (0), .bool (F), .int .i64 (0)] w _) := Lib.hid (by exact HY)
  clear HY
  (with_reducible refine (num1_at (w.heap.size + 1 + 1) (w.heap.size + 1) s 7 _ HX.out.rd hm (by have := HS.out; omega)).mono ?_)
  rintro e wb ⟨rfl, hr, hk⟩
  replace HX := Lib.hid (HX.out.next hr hk)
  clear hr hk
  have c7 := HasB.cell HX.out.f 7 (.int .i64 (0)) rfl
  have f7 := HasB.free HX.out.f 7
  go_wp2_with fail
  clear c7 f7
  have HY := (HX.out.put 7 (.int .i64 ((bt s 7 : Nat))))
  replace HX : Hid (StG s 8 wa.heap.size #[.string ((s.extract 0 3)), .int .i64 ((bt s 3 : Nat)), .int .i64 ((bt s 6 : Nat)), .bool (V), .int .i64 ((wt s 4 : Nat)), .int .u64 (0), .bool (F), .int .i64 ((bt s 7 : Nat))] w _) := Lib.hid (by exact HY)
  clear HY
  (with_reducible refine (text_at (w.heap.size + 1 + 1) (w.heap.size + 1) s 8 2 2 rfl _ HX.out.rd hm (by have := HS.out; omega)).mono ?_)
  rintro e wb ⟨rfl, hr, hk⟩
  replace HX := Lib.hid (HX.out.next hr hk)
  clear hr hk
  go_wp2_with fail
  (with_reducible refine (HR.out _ HX.out.rd).mono ?_)
  rintro e wb ⟨rfl, hr, hk⟩
  have HF := HasB.kept HX.out.f hk (by have := HX.out.far; omega)
  have HRS := HasB.kept HX.out.res hk (by omega)
  have HB := Lib.hid (HX.out.below.trans (hk.below HX.out.below.size (by omega)))
  have hfar := Lib.hid HX.out.far
  have hne := Lib.hid (show w.heap.size ≠ wa.heap.size by have := HX.out.far; omega)
  have c5 := HasB.cell HF 5 (.int .u64 0) rfl
  have f5 := HasB.free HF 5
  have HG2 : HasB _ _ _ #[.string ((s.extract 0 3)), .int .i64 ((bt s 3 : Nat)), .int .i64 ((bt s 6 : Nat)), .bool (V), .int .i64 ((wt s 4 : Nat)), .int .u64 ((seg s 10 8 : Nat)), .bool (F), .int .i64 ((bt s 7 : Nat))] := HasB.put HF 5 (.int .u64 (seg s 10 8 : Nat))
  have hro := HasB.rowOk HG2 (n := 8) rfl
  have hrw := HasB.rowOf HG2
  have hrr := HasB.rowOk (HasB.far HRS ⟨wa.heap.size, 5, none⟩ hne.out (.int .u64 (seg s 10 8 : Nat))) (n := 8) rfl
  clear hk hr HX HG2 HF
  go_wp2_with (first | (go_at_call 25; (with_reducible refine (HG.out _).mono ?_); rintro e wg ⟨rfl, rfl⟩) | fail)
  clear hro hrw hrr c5 f5
  have HW := HasB.setRow (HasB.far HRS ⟨wa.heap.size, 5, none⟩ hne.out (.int .u64 (seg s 10 8 : Nat))) #[.string ((s.extract 0 3)), .int .i64 ((bt s 3 : Nat)), .int .i64 ((bt s 6 : Nat)), .bool (V), .int .i64 ((wt s 4 : Nat)), .int .u64 ((seg s 10 8 : Nat)), .bool (F), .int .i64 ((bt s 7 : Nat))]
  have HL := below_setRow (Below.setCell (p := ⟨wa.heap.size, 5, none⟩) HB.out (by have := hfar.out; show w.heap.size ≤ wa.heap.size; omega) (.int .u64 (seg s 10 8 : Nat))) (Nat.le_refl _) #[.string ((s.extract 0 3)), .int .i64 ((bt s 3 : Nat)), .int .i64 ((bt s 6 : Nat)), .bool (V), .int .i64 ((wt s 4 : Nat)), .int .u64 ((seg s 10 8 : Nat)), .bool (F), .int .i64 ((bt s 7 : Nat))]
  try simp only [Exit.inBlock, Exit.then]
  refine bodyPost_ret (v := .agg #[.string ((s.extract 0 3)), .int .i64 ((bt s 3 : Nat)), .int .i64 ((bt s 6 : Nat)), .bool (V), .int .i64 ((wt s 4 : Nat)), .int .u64 ((seg s 10 8 : Nat)), .bool (F), .int .i64 ((bt s 7 : Nat))]) (results_cell_row Try.results17 _ _ w.heap.size _ _ _ _ rfl HW Try.underlying40 rfl infoFG) rfl ⟨rfl, HL⟩
end Go.Proofs.Ytklilelbebhinaa
