/- The contract of package quic: Get. -/
import Derived.Test.YtniaelmloealbaaQuicRead
import Derived.Test.YtniaelmloealbaaHeld
namespace Go.Proofs.Ytniaelmloealbaa
open Go.RowKit
set_option linter.unusedVariables false
attribute [local go_sem ↓] ldH9 stH9 ldR9 stR9
attribute [local go_sem] rowAt_p rowOkAt_p setAt_p aggOf_a rowOk_new rowOf_new setRow_new agg9 aggT9

theorem results_cellQ {P : Program} {fn : Func} {p q : Tmp} {ty : TypeId} (h : fn.results = #[.cell p ty, .tmp q]) (tmps : Array Value) (w : World) (g : Nat) (t : TypeId) (cs : Array Value) {fs : Array Field} {a : Value}
    (hp : tmps.getD p undef = .pointer (some ⟨g, 0, none⟩)) (hg : HasB w g t cs) (hu : P.underlying ty = some (.struct fs)) (hi : (P.info? ty).map (·.size) = some cs.size) (ha : tmps.getD q undef = a) :
    (results fn tmps).run P w = .ok (.tuple #[.agg cs, a]) w := by
  have hp' : tmps[p]?.getD undef = .pointer (some ⟨g, 0, none⟩) := by simpa using hp
  have ha' : tmps[q]?.getD undef = a := by simpa using ha
  simp [results, h, hp', ha', asAddr, run_loadVar_row w g t ty cs (0, 0) (.struct fs) hg hu rfl hi]
/-- What holds behind the literals: the result's block, the ids' block, the head's block, the reader. -/
structure StQ (o : Bool) (st : Option ByteArray) (g : Nat) (cs : Array Value) (w0 W : World) : Prop where
  res : HasB W w0.heap.size 31 #[.bool false, .int .i64 0, .int .u32 0, .string ⟨#[]⟩, .string ⟨#[]⟩, .string ⟨#[]⟩]
  ids : HasB W (w0.heap.size + 1 + 1 + 1) 49 #[.pointer (some ⟨w0.heap.size + 1 + 1, 0, none⟩), .bool o]
  hd : HasB W g 31 cs
  rd : Rd W (w0.heap.size + 1 + 1) (w0.heap.size + 1) st
  below : Below w0.heap.size w0 W
  far : w0.heap.size + 1 + 1 + 1 < g
theorem StQ.next {o : Bool} {st st' : Option ByteArray} {g : Nat} {cs : Array Value} {w0 W W' : World} (h : StQ o st g cs w0 W) (hr : Rd W' (w0.heap.size + 1 + 1) (w0.heap.size + 1) st') (hk : Kept (fun k => k = w0.heap.size + 1 + 1 ∨ k = w0.heap.size + 1) W W') : StQ o st' g cs w0 W' :=
  ⟨HasB.kept h.res hk (by omega), HasB.kept h.ids hk (by omega), HasB.kept h.hd hk (by have := h.far; omega), hr, h.below.trans (hk.below h.below.size (by omega)), h.far⟩
theorem StQ.nextI {o o' : Bool} {st st' : Option ByteArray} {g : Nat} {cs : Array Value} {w0 W W' : World} (h : StQ o st g cs w0 W) (hr : Rd W' (w0.heap.size + 1 + 1) (w0.heap.size + 1) st') (hi : HasB W' (w0.heap.size + 1 + 1 + 1) 49 #[.pointer (some ⟨w0.heap.size + 1 + 1, 0, none⟩), .bool o']) (hk : Kept (fun k => k = w0.heap.size + 1 + 1 ∨ k = w0.heap.size + 1 ∨ k = w0.heap.size + 1 + 1 + 1) W W') : StQ o' st' g cs w0 W' :=
  ⟨HasB.kept h.res hk (by omega), hi, HasB.kept h.hd hk (by have := h.far; omega), hr, h.below.trans (hk.below h.below.size (by omega)), h.far⟩
theorem StQ.put {o : Bool} {st : Option ByteArray} {g : Nat} {cs : Array Value} {w0 W : World} (h : StQ o st g cs w0 W) (i : Nat) (v : Value) : StQ o st g (cs.setIfInBounds i v) w0 (W.setCell ⟨g, i, none⟩ v) :=
  ⟨HasB.far h.res ⟨g, i, none⟩ (by have := h.far; show _ ≠ g; omega) v, HasB.far h.ids ⟨g, i, none⟩ (by have := h.far; show _ ≠ g; omega) v, HasB.put h.hd i v, h.rd.apart ⟨g, i, none⟩ (by have := h.far; show _ ≠ g; omega) (by have := h.far; show _ ≠ g; omega) v rfl, Below.setCell (p := ⟨g, i, none⟩) h.below (by have := h.far; show _ ≤ g; omega) v, h.far⟩
theorem get9_empty (s : ByteArray) (w : World) (h : s.size = 0) : Calls Try.prog 10 #[.string s] w fun e w' => e = .returned (.tuple #[.agg #[.bool (headG9 s).lg, .int .i64 (headG9 s).bi, .int .u32 (headG9 s).ve, .string (headG9 s).dc, .string (headG9 s).sc, .string (headG9 s).re], .int .i64 (errG9 s)]) ∧ Below w.heap.size w w' := by
  have he : errG9 s = 2 := by unfold errG9; rw [if_pos h]
  have hh := headG9_no (s := s) (by omega)
  rw [hh, he]
  show Calls _ _ _ _ fun e' w' => e' = .returned (.tuple #[.agg #[.bool false, .int .i64 0, .int .u32 0, .string ⟨#[]⟩, .string ⟨#[]⟩, .string ⟨#[]⟩], .int .i64 2]) ∧ Below w.heap.size w w'
  clear he hh
  obtain rfl := size_0 h
  have HW := HasB.new w 31 #[.bool false, .int .i64 0, .int .u32 0, .string ⟨#[]⟩, .string ⟨#[]⟩, .string ⟨#[]⟩]
  have HL : Below w.heap.size w (w.alloc (.cells #[.bool false, .int .i64 0, .int .u32 0, .string ⟨#[]⟩, .string ⟨#[]⟩, .string ⟨#[]⟩] 31)) := (Below.refl _ _).alloc (Nat.le_refl _) _
  have hro := HasB.rowOk HW (n := 6) rfl
  go_enter Try.func10, Try.ntmps10
  go_wp2_with fail
  (try simp only [Exit.inBlock, Exit.then]); refine bodyPost_ret (v := .tuple #[.agg #[.bool false, .int .i64 0, .int .u32 0, .string ⟨#[]⟩, .string ⟨#[]⟩, .string ⟨#[]⟩], .int .i64 2]) (results_cellQ Try.results10 _ _ w.heap.size _ _ rfl HW Try.underlying31 infoH9 rfl) rfl ⟨rfl, HL⟩
theorem maskQ (b : Nat) (h : b < 256) : bits .and .i64 (b : Int) 63 = (b % 64 : Nat) := by
  have h1 := bits_mask .i64 62 (by decide) (fun n h0 h1 => by rw [IntKind.wrap_i64]; omega) 6 (by decide) (b : Int) (by omega) (by omega)
  refine Eq.trans h1 ?_
  show (b : Int) % 64 = _
  omega
set_option maxHeartbeats 1000000 in
theorem get9_form (s : ByteArray) (hs : s.size ≤ 1000000) (w : World) (h0 : s.size ≠ 0) (h : bt s 0 / 64 % 2 = 0) : Calls Try.prog 10 #[.string s] w fun e w' => e = .returned (.tuple #[.agg #[.bool (headG9 s).lg, .int .i64 (headG9 s).bi, .int .u32 (headG9 s).ve, .string (headG9 s).dc, .string (headG9 s).sc, .string (headG9 s).re], .int .i64 (errG9 s)]) ∧ Below w.heap.size w w' := by
  have he : errG9 s = 3 := by unfold errG9; rw [if_neg h0, if_pos h]
  have hh := headG9_no (s := s) (by omega)
  rw [hh, he]
  show Calls _ _ _ _ fun e' w' => e' = .returned (.tuple #[.agg #[.bool false, .int .i64 0, .int .u32 0, .string ⟨#[]⟩, .string ⟨#[]⟩, .string ⟨#[]⟩], .int .i64 3]) ∧ Below w.heap.size w w'
  clear he hh
  have v1 : (((bt s 0 : Nat) : Int) / 64 == 1) = false := by simp; omega
  have v3 : (((bt s 0 : Nat) : Int) / 64 == 3) = false := by simp; omega
  obtain ⟨B, hB⟩ : ∃ B : Int, ((bt s 0 % 64 : Nat) : Int) = B := ⟨_, rfl⟩
  clear h
  have ne : (s.toList == []) = false := by
    rw [ByteArray.toList_eq]
    cases hl : s.data.toList with
    | nil => exact absurd (show s.size = 0 by rw [size_list, hl]; rfl) h0
    | cons x l => rfl
  have hbt := bt_lt s 0
  have mK := maskQ (bt s 0) hbt
  rw [hB] at mK
  have hle : LeR 1000000 (some (s.extract 1 s.size)) := by
    intro t ht; cases ht; rw [ByteArray.size_extract]; omega
  have HLE := Lib.hid hle
  have hm : s.size ≤ maxLen := by unfold maxLen; omega
  have h0' : 0 + 1 ≤ s.size := by omega
  have hmf : ∀ (fn : Fn) (first cap : Array Value) (w : World), (Instr.makeFunc fn first cap).run Try.prog w = .ok (.func fn first cap) w := fun _ _ _ _ => rfl
  clear hle h0 hs hB
  go_enter Try.func10, Try.ntmps10
  go_wp2_with fail
  refine (new_any s _).mono ?_
  rintro e w1 ⟨rfl, rfl⟩
  go_wp2_with fail
  have hr0 : Rd ((((w.alloc (.cells #[.bool false, .int .i64 0, .int .u32 0, .string ⟨#[]⟩, .string ⟨#[]⟩, .string ⟨#[]⟩] 31)).alloc (.cells #[.string s] 9)).alloc (.cells #[.pointer (some ⟨w.heap.size + 1, 0, none⟩)] 60)).alloc (.cells #[.pointer (some ⟨w.heap.size + 1 + 1, 0, none⟩), .bool false] 49)) (w.heap.size + 1 + 1) (w.heap.size + 1) (some (s.extract 0 s.size)) := by
    have e0 : s.extract 0 s.size = s := by apply ext_eq; rw [ext_str', List.drop_zero, Nat.sub_zero, size_list, List.take_length]
    rw [e0]
    refine ⟨?_, ?_, by omega⟩
    · have := (HasB.new ((w.alloc (.cells #[.bool false, .int .i64 0, .int .u32 0, .string ⟨#[]⟩, .string ⟨#[]⟩, .string ⟨#[]⟩] 31)).alloc (.cells #[.string s] 9)) 60 #[.pointer (some ⟨w.heap.size + 1, 0, none⟩)]).alloc (.cells #[.pointer (some ⟨w.heap.size + 1 + 1, 0, none⟩), .bool false] 49)
      simpa using this
    · have := ((HasB.new (w.alloc (.cells #[.bool false, .int .i64 0, .int .u32 0, .string ⟨#[]⟩, .string ⟨#[]⟩, .string ⟨#[]⟩] 31)) 9 #[.string s]).alloc (.cells #[.pointer (some ⟨w.heap.size + 1, 0, none⟩)] 60)).alloc (.cells #[.pointer (some ⟨w.heap.size + 1 + 1, 0, none⟩), .bool false] 49)
      simpa using this
  (with_reducible refine (num1_at (w.heap.size + 1 + 1) (w.heap.size + 1) s 0 _ hr0 hm h0').mono ?_)
  rintro e wa ⟨rfl, hr, hk⟩
  have HX : Hid (StQ false (some (s.extract 1 s.size)) wa.heap.size #[.bool false, .int .i64 (B), .int .u32 (0), .string (⟨#[]⟩), .string (⟨#[]⟩), .string (⟨#[]⟩)] w (wa.alloc (.cells #[.bool false, .int .i64 (B), .int .u32 (0), .string (⟨#[]⟩), .string (⟨#[]⟩), .string (⟨#[]⟩)] 31))) := by
    refine Lib.hid ⟨?_, ?_, HasB.new _ _ _, hr.alloc _, ?_, ?_⟩
    · exact HasB.alloc (HasB.kept (((HasB.new w 31 #[.bool false, .int .i64 0, .int .u32 0, .string ⟨#[]⟩, .string ⟨#[]⟩, .string ⟨#[]⟩]).alloc _).alloc _ |>.alloc _) hk (by omega)) _
    · have := HasB.new (((w.alloc (.cells #[.bool false, .int .i64 0, .int .u32 0, .string ⟨#[]⟩, .string ⟨#[]⟩, .string ⟨#[]⟩] 31)).alloc (.cells #[.string s] 9)).alloc (.cells #[.pointer (some ⟨w.heap.size + 1, 0, none⟩)] 60)) 49 #[.pointer (some ⟨w.heap.size + 1 + 1, 0, none⟩), .bool false]
      simp only [World.size_alloc] at this
      exact HasB.alloc (HasB.kept this hk (by omega)) _
    · have h1 : Below w.heap.size w ((((w.alloc (.cells #[.bool false, .int .i64 0, .int .u32 0, .string ⟨#[]⟩, .string ⟨#[]⟩, .string ⟨#[]⟩] 31)).alloc (.cells #[.string s] 9)).alloc (.cells #[.pointer (some ⟨w.heap.size + 1, 0, none⟩)] 60)).alloc (.cells #[.pointer (some ⟨w.heap.size + 1 + 1, 0, none⟩), .bool false] 49)) := ((((Below.refl _ w).alloc (Nat.le_refl _) _).alloc (by simp) _).alloc (by simp; omega) _).alloc (by simp; omega) _
      have h2 := h1.trans (hk.below h1.size (by omega))
      exact h2.alloc h2.size _
    · have := hk.size
      simp at this
      omega
  clear hr0 hr hk
  have hro := HasB.rowOk HX.out.res (n := 6) rfl
  go_wp2_with fail
  (try simp only [Exit.inBlock, Exit.then]); refine bodyPost_ret (v := .tuple #[.agg #[.bool false, .int .i64 0, .int .u32 0, .string ⟨#[]⟩, .string ⟨#[]⟩, .string ⟨#[]⟩], .int .i64 3]) (results_cellQ Try.results10 _ _ w.heap.size _ _ rfl (HasB.setRow HX.out.res #[.bool false, .int .i64 0, .int .u32 0, .string ⟨#[]⟩, .string ⟨#[]⟩, .string ⟨#[]⟩]) Try.underlying31 infoH9 rfl) rfl ⟨rfl, (below_setRow HX.out.below (Nat.le_refl _) #[.bool false, .int .i64 0, .int .u32 0, .string ⟨#[]⟩, .string ⟨#[]⟩, .string ⟨#[]⟩])⟩
set_option maxHeartbeats 1000000 in
theorem get9_scut (s : ByteArray) (hs : s.size ≤ 1000000) (w : World) (h0 : s.size ≠ 0) (h : bt s 0 / 64 = 1) (he : errG9 s = 2) (hbr : badR (restR (textR (some (s.extract 1 s.size)) 8).2).2 = true) : Calls Try.prog 10 #[.string s] w fun e w' => e = .returned (.tuple #[.agg #[.bool (headG9 s).lg, .int .i64 (headG9 s).bi, .int .u32 (headG9 s).ve, .string (headG9 s).dc, .string (headG9 s).sc, .string (headG9 s).re], .int .i64 (errG9 s)]) ∧ Below w.heap.size w w' := by
  have hh := headG9_no (s := s) (by omega)
  rw [hh, he]
  show Calls _ _ _ _ fun e' w' => e' = .returned (.tuple #[.agg #[.bool false, .int .i64 0, .int .u32 0, .string ⟨#[]⟩, .string ⟨#[]⟩, .string ⟨#[]⟩], .int .i64 2]) ∧ Below w.heap.size w w'
  clear he hh
  have v1 : (((bt s 0 : Nat) : Int) / 64 == 1) = true := by simp; omega
  obtain ⟨B, hB⟩ : ∃ B : Int, ((bt s 0 % 64 : Nat) : Int) = B := ⟨_, rfl⟩
  obtain ⟨D, hD⟩ : ∃ D, textR (some (s.extract 1 s.size)) 8 = D := ⟨_, rfl⟩
  obtain ⟨R, hR⟩ : ∃ R, restR D.2 = R := ⟨_, rfl⟩
  rw [hD, hR] at hbr
  have HBR := Lib.hid hbr
  clear h hbr
  have ne : (s.toList == []) = false := by
    rw [ByteArray.toList_eq]
    cases hl : s.data.toList with
    | nil => exact absurd (show s.size = 0 by rw [size_list, hl]; rfl) h0
    | cons x l => rfl
  have hbt := bt_lt s 0
  have mK := maskQ (bt s 0) hbt
  rw [hB] at mK
  have hle : LeR 1000000 (some (s.extract 1 s.size)) := by
    intro t ht; cases ht; rw [ByteArray.size_extract]; omega
  have HLE := Lib.hid hle
  have hm : s.size ≤ maxLen := by unfold maxLen; omega
  have h0' : 0 + 1 ≤ s.size := by omega
  have hmf : ∀ (fn : Fn) (first cap : Array Value) (w : World), (Instr.makeFunc fn first cap).run Try.prog w = .ok (.func fn first cap) w := fun _ _ _ _ => rfl
  clear hle h0 hs hB
  go_enter Try.func10, Try.ntmps10
  go_wp2_with fail
  refine (new_any s _).mono ?_
  rintro e w1 ⟨rfl, rfl⟩
  go_wp2_with fail
  have hr0 : Rd ((((w.alloc (.cells #[.bool false, .int .i64 0, .int .u32 0, .string ⟨#[]⟩, .string ⟨#[]⟩, .string ⟨#[]⟩] 31)).alloc (.cells #[.string s] 9)).alloc (.cells #[.pointer (some ⟨w.heap.size + 1, 0, none⟩)] 60)).alloc (.cells #[.pointer (some ⟨w.heap.size + 1 + 1, 0, none⟩), .bool false] 49)) (w.heap.size + 1 + 1) (w.heap.size + 1) (some (s.extract 0 s.size)) := by
    have e0 : s.extract 0 s.size = s := by apply ext_eq; rw [ext_str', List.drop_zero, Nat.sub_zero, size_list, List.take_length]
    rw [e0]
    refine ⟨?_, ?_, by omega⟩
    · have := (HasB.new ((w.alloc (.cells #[.bool false, .int .i64 0, .int .u32 0, .string ⟨#[]⟩, .string ⟨#[]⟩, .string ⟨#[]⟩] 31)).alloc (.cells #[.string s] 9)) 60 #[.pointer (some ⟨w.heap.size + 1, 0, none⟩)]).alloc (.cells #[.pointer (some ⟨w.heap.size + 1 + 1, 0, none⟩), .bool false] 49)
      simpa using this
    · have := ((HasB.new (w.alloc (.cells #[.bool false, .int .i64 0, .int .u32 0, .string ⟨#[]⟩, .string ⟨#[]⟩, .string ⟨#[]⟩] 31)) 9 #[.string s]).alloc (.cells #[.pointer (some ⟨w.heap.size + 1, 0, none⟩)] 60)).alloc (.cells #[.pointer (some ⟨w.heap.size + 1 + 1, 0, none⟩), .bool false] 49)
      simpa using this
  (with_reducible refine (num1_at (w.heap.size + 1 + 1) (w.heap.size + 1) s 0 _ hr0 hm h0').mono ?_)
  rintro e wa ⟨rfl, hr, hk⟩
  have HX : Hid (StQ false (some (s.extract 1 s.size)) wa.heap.size #[.bool false, .int .i64 (B), .int .u32 (0), .string (⟨#[]⟩), .string (⟨#[]⟩), .string (⟨#[]⟩)] w (wa.alloc (.cells #[.bool false, .int .i64 (B), .int .u32 (0), .string (⟨#[]⟩), .string (⟨#[]⟩), .string (⟨#[]⟩)] 31))) := by
    refine Lib.hid ⟨?_, ?_, HasB.new _ _ _, hr.alloc _, ?_, ?_⟩
    · exact HasB.alloc (HasB.kept (((HasB.new w 31 #[.bool false, .int .i64 0, .int .u32 0, .string ⟨#[]⟩, .string ⟨#[]⟩, .string ⟨#[]⟩]).alloc _).alloc _ |>.alloc _) hk (by omega)) _
    · have := HasB.new (((w.alloc (.cells #[.bool false, .int .i64 0, .int .u32 0, .string ⟨#[]⟩, .string ⟨#[]⟩, .string ⟨#[]⟩] 31)).alloc (.cells #[.string s] 9)).alloc (.cells #[.pointer (some ⟨w.heap.size + 1, 0, none⟩)] 60)) 49 #[.pointer (some ⟨w.heap.size + 1 + 1, 0, none⟩), .bool false]
      simp only [World.size_alloc] at this
      exact HasB.alloc (HasB.kept this hk (by omega)) _
    · have h1 : Below w.heap.size w ((((w.alloc (.cells #[.bool false, .int .i64 0, .int .u32 0, .string ⟨#[]⟩, .string ⟨#[]⟩, .string ⟨#[]⟩] 31)).alloc (.cells #[.string s] 9)).alloc (.cells #[.pointer (some ⟨w.heap.size + 1, 0, none⟩)] 60)).alloc (.cells #[.pointer (some ⟨w.heap.size + 1 + 1, 0, none⟩), .bool false] 49)) := ((((Below.refl _ w).alloc (Nat.le_refl _) _).alloc (by simp) _).alloc (by simp; omega) _).alloc (by simp; omega) _
      have h2 := h1.trans (hk.below h1.size (by omega))
      exact h2.alloc h2.size _
    · have := hk.size
      simp at this
      omega
  clear hr0 hr hk
  have HD := Lib.hid hD
  have HR := Lib.hid hR
  clear hD hR
  go_wp2_with fail
  (with_reducible refine (wide_any (w.heap.size + 1 + 1 + 1) (w.heap.size + 1 + 1) (w.heap.size + 1) false _ _ HX.out.ids HX.out.rd HLE.out).mono ?_)
  rintro e wb ⟨rfl, hr, hk⟩
  rw [HD.out] at hr ⊢
  replace HX := Lib.hid (HX.out.next hr hk)
  have hle2 : LeR 1000000 D.2 := by rw [← HD.out]; exact HLE.out.text 8
  clear hr hk
  have c3 := HasB.cell HX.out.hd 3 (.string ⟨#[]⟩) rfl
  have f3 := HasB.free HX.out.hd 3
  replace HX := Lib.hid (HX.out.put 3 (.string D.1))
  have c0 := HasB.cell HX.out.hd 0 (.bool false) rfl
  go_wp2_with fail
  (with_reducible refine (rest_any (w.heap.size + 1 + 1) (w.heap.size + 1) D.2 _ HX.out.rd (hle2.max (by omega))).mono ?_)
  rintro e wb ⟨rfl, hr, hk⟩
  rw [HR.out] at hr ⊢
  replace HX := Lib.hid (HX.out.next hr hk)
  clear hr hk c3 f3 c0 hle2
  have c5 := HasB.cell HX.out.hd 5 (.string ⟨#[]⟩) rfl
  have f5 := HasB.free HX.out.hd 5
  replace HX := Lib.hid (HX.out.put 5 (.string R.1))
  have k1 := HasB.cell HX.out.ids 1 (.bool false) rfl
  have hro := HasB.rowOk HX.out.res (n := 6) rfl
  have hrn := HasB.rowOk HX.out.hd (n := 6) rfl
  have hrw := HasB.rowOf HX.out.hd
  have HB := Lib.hid (bad_any (w.heap.size + 1 + 1) (w.heap.size + 1) R.2 _ HX.out.rd)
  rw [HBR.out] at HB
  go_wp2_with fail
  (with_reducible refine (HB.out).mono ?_)
  rintro e wc ⟨rfl, rfl⟩
  go_wp2_with fail
  (try simp only [Exit.inBlock, Exit.then]); refine bodyPost_ret (v := .tuple #[.agg #[.bool false, .int .i64 0, .int .u32 0, .string ⟨#[]⟩, .string ⟨#[]⟩, .string ⟨#[]⟩], .int .i64 2]) (results_cellQ Try.results10 _ _ w.heap.size _ _ rfl (HasB.setRow HX.out.res #[.bool false, .int .i64 0, .int .u32 0, .string ⟨#[]⟩, .string ⟨#[]⟩, .string ⟨#[]⟩]) Try.underlying31 infoH9 rfl) rfl ⟨rfl, (below_setRow HX.out.below (Nat.le_refl _) #[.bool false, .int .i64 0, .int .u32 0, .string ⟨#[]⟩, .string ⟨#[]⟩, .string ⟨#[]⟩])⟩
set_option maxHeartbeats 1000000 in
theorem get9_short (s : ByteArray) (hs : s.size ≤ 1000000) (w : World) (h0 : s.size ≠ 0) (h : bt s 0 / 64 = 1) (he : errG9 s = 0) (hbr : badR (restR (textR (some (s.extract 1 s.size)) 8).2).2 = false) (hh : headG9 s = ⟨false, (bt s 0 % 64 : Nat), 0, (textR (some (s.extract 1 s.size)) 8).1, ⟨#[]⟩, (restR (textR (some (s.extract 1 s.size)) 8).2).1⟩) : Calls Try.prog 10 #[.string s] w fun e w' => e = .returned (.tuple #[.agg #[.bool (headG9 s).lg, .int .i64 (headG9 s).bi, .int .u32 (headG9 s).ve, .string (headG9 s).dc, .string (headG9 s).sc, .string (headG9 s).re], .int .i64 (errG9 s)]) ∧ Below w.heap.size w w' := by
  have v1 : (((bt s 0 : Nat) : Int) / 64 == 1) = true := by simp; omega
  obtain ⟨B, hB⟩ : ∃ B : Int, ((bt s 0 % 64 : Nat) : Int) = B := ⟨_, rfl⟩
  obtain ⟨D, hD⟩ : ∃ D, textR (some (s.extract 1 s.size)) 8 = D := ⟨_, rfl⟩
  obtain ⟨R, hR⟩ : ∃ R, restR D.2 = R := ⟨_, rfl⟩
  rw [hD, hR] at hbr hh
  rw [hB] at hh
  rw [hh, he]
  show Calls _ _ _ _ fun e' w' => e' = .returned (.tuple #[.agg #[.bool false, .int .i64 (B), .int .u32 (0), .string (D.1), .string (⟨#[]⟩), .string (R.1)], .int .i64 0]) ∧ Below w.heap.size w w'
  have HBR := Lib.hid hbr
  clear h hbr hh he
  have ne : (s.toList == []) = false := by
    rw [ByteArray.toList_eq]
    cases hl : s.data.toList with
    | nil => exact absurd (show s.size = 0 by rw [size_list, hl]; rfl) h0
    | cons x l => rfl
  have hbt := bt_lt s 0
  have mK := maskQ (bt s 0) hbt
  rw [hB] at mK
  have hle : LeR 1000000 (some (s.extract 1 s.size)) := by
    intro t ht; cases ht; rw [ByteArray.size_extract]; omega
  have HLE := Lib.hid hle
  have hm : s.size ≤ maxLen := by unfold maxLen; omega
  have h0' : 0 + 1 ≤ s.size := by omega
  have hmf : ∀ (fn : Fn) (first cap : Array Value) (w : World), (Instr.makeFunc fn first cap).run Try.prog w = .ok (.func fn first cap) w := fun _ _ _ _ => rfl
  clear hle h0 hs hB
  go_enter Try.func10, Try.ntmps10
  go_wp2_with fail
  refine (new_any s _).mono ?_
  rintro e w1 ⟨rfl, rfl⟩
  go_wp2_with fail
  have hr0 : Rd ((((w.alloc (.cells #[.bool false, .int .i64 0, .int .u32 0, .string ⟨#[]⟩, .string ⟨#[]⟩, .string ⟨#[]⟩] 31)).alloc (.cells #[.string s] 9)).alloc (.cells #[.pointer (some ⟨w.heap.size + 1, 0, none⟩)] 60)).alloc (.cells #[.pointer (some ⟨w.heap.size + 1 + 1, 0, none⟩), .bool false] 49)) (w.heap.size + 1 + 1) (w.heap.size + 1) (some (s.extract 0 s.size)) := by
    have e0 : s.extract 0 s.size = s := by apply ext_eq; rw [ext_str', List.drop_zero, Nat.sub_zero, size_list, List.take_length]
    rw [e0]
    refine ⟨?_, ?_, by omega⟩
    · have := (HasB.new ((w.alloc (.cells #[.bool false, .int .i64 0, .int .u32 0, .string ⟨#[]⟩, .string ⟨#[]⟩, .string ⟨#[]⟩] 31)).alloc (.cells #[.string s] 9)) 60 #[.pointer (some ⟨w.heap.size + 1, 0, none⟩)]).alloc (.cells #[.pointer (some ⟨w.heap.size + 1 + 1, 0, none⟩), .bool false] 49)
      simpa using this
    · have := ((HasB.new (w.alloc (.cells #[.bool false, .int .i64 0, .int .u32 0, .string ⟨#[]⟩, .string ⟨#[]⟩, .string ⟨#[]⟩] 31)) 9 #[.string s]).alloc (.cells #[.pointer (some ⟨w.heap.size + 1, 0, none⟩)] 60)).alloc (.cells #[.pointer (some ⟨w.heap.size + 1 + 1, 0, none⟩), .bool false] 49)
      simpa using this
  (with_reducible refine (num1_at (w.heap.size + 1 + 1) (w.heap.size + 1) s 0 _ hr0 hm h0').mono ?_)
  rintro e wa ⟨rfl, hr, hk⟩
  have HX : Hid (StQ false (some (s.extract 1 s.size)) wa.heap.size #[.bool false, .int .i64 (B), .int .u32 (0), .string (⟨#[]⟩), .string (⟨#[]⟩), .string (⟨#[]⟩)] w (wa.alloc (.cells #[.bool false, .int .i64 (B), .int .u32 (0), .string (⟨#[]⟩), .string (⟨#[]⟩), .string (⟨#[]⟩)] 31))) := by
    refine Lib.hid ⟨?_, ?_, HasB.new _ _ _, hr.alloc _, ?_, ?_⟩
    · exact HasB.alloc (HasB.kept (((HasB.new w 31 #[.bool false, .int .i64 0, .int .u32 0, .string ⟨#[]⟩, .string ⟨#[]⟩, .string ⟨#[]⟩]).alloc _).alloc _ |>.alloc _) hk (by omega)) _
    · have := HasB.new (((w.alloc (.cells #[.bool false, .int .i64 0, .int .u32 0, .string ⟨#[]⟩, .string ⟨#[]⟩, .string ⟨#[]⟩] 31)).alloc (.cells #[.string s] 9)).alloc (.cells #[.pointer (some ⟨w.heap.size + 1, 0, none⟩)] 60)) 49 #[.pointer (some ⟨w.heap.size + 1 + 1, 0, none⟩), .bool false]
      simp only [World.size_alloc] at this
      exact HasB.alloc (HasB.kept this hk (by omega)) _
    · have h1 : Below w.heap.size w ((((w.alloc (.cells #[.bool false, .int .i64 0, .int .u32 0, .string ⟨#[]⟩, .string ⟨#[]⟩, .string ⟨#[]⟩] 31)).alloc (.cells #[.string s] 9)).alloc (.cells #[.pointer (some ⟨w.heap.size + 1, 0, none⟩)] 60)).alloc (.cells #[.pointer (some ⟨w.heap.size + 1 + 1, 0, none⟩), .bool false] 49)) := ((((Below.refl _ w).alloc (Nat.le_refl _) _).alloc (by simp) _).alloc (by simp; omega) _).alloc (by simp; omega) _
      have h2 := h1.trans (hk.below h1.size (by omega))
      exact h2.alloc h2.size _
    · have := hk.size
      simp at this
      omega
  clear hr0 hr hk
  have HD := Lib.hid hD
  have HR := Lib.hid hR
  clear hD hR
  go_wp2_with fail
  (with_reducible refine (wide_any (w.heap.size + 1 + 1 + 1) (w.heap.size + 1 + 1) (w.heap.size + 1) false _ _ HX.out.ids HX.out.rd HLE.out).mono ?_)
  rintro e wb ⟨rfl, hr, hk⟩
  rw [HD.out] at hr ⊢
  replace HX := Lib.hid (HX.out.next hr hk)
  have hle2 : LeR 1000000 D.2 := by rw [← HD.out]; exact HLE.out.text 8
  clear hr hk
  have c3 := HasB.cell HX.out.hd 3 (.string ⟨#[]⟩) rfl
  have f3 := HasB.free HX.out.hd 3
  replace HX := Lib.hid (HX.out.put 3 (.string D.1))
  have c0 := HasB.cell HX.out.hd 0 (.bool false) rfl
  go_wp2_with fail
  (with_reducible refine (rest_any (w.heap.size + 1 + 1) (w.heap.size + 1) D.2 _ HX.out.rd (hle2.max (by omega))).mono ?_)
  rintro e wb ⟨rfl, hr, hk⟩
  rw [HR.out] at hr ⊢
  replace HX := Lib.hid (HX.out.next hr hk)
  clear hr hk c3 f3 c0 hle2
  have c5 := HasB.cell HX.out.hd 5 (.string ⟨#[]⟩) rfl
  have f5 := HasB.free HX.out.hd 5
  replace HX := Lib.hid (HX.out.put 5 (.string R.1))
  have k1 := HasB.cell HX.out.ids 1 (.bool false) rfl
  have hro := HasB.rowOk HX.out.res (n := 6) rfl
  have hrn := HasB.rowOk HX.out.hd (n := 6) rfl
  have hrw := HasB.rowOf HX.out.hd
  have HB := Lib.hid (bad_any (w.heap.size + 1 + 1) (w.heap.size + 1) R.2 _ HX.out.rd)
  rw [HBR.out] at HB
  go_wp2_with fail
  (with_reducible refine (HB.out).mono ?_)
  rintro e wc ⟨rfl, rfl⟩
  go_wp2_with fail
  (try simp only [Exit.inBlock, Exit.then]); refine bodyPost_ret (v := .tuple #[.agg #[.bool false, .int .i64 (B), .int .u32 (0), .string (D.1), .string (⟨#[]⟩), .string (R.1)], .int .i64 0]) (results_cellQ Try.results10 _ _ w.heap.size _ _ rfl (HasB.setRow HX.out.res #[.bool false, .int .i64 (B), .int .u32 (0), .string (D.1), .string (⟨#[]⟩), .string (R.1)]) Try.underlying31 infoH9 rfl) rfl ⟨rfl, (below_setRow HX.out.below (Nat.le_refl _) #[.bool false, .int .i64 (B), .int .u32 (0), .string (D.1), .string (⟨#[]⟩), .string (R.1)])⟩
set_option maxHeartbeats 1000000 in
theorem get9_lform (s : ByteArray) (hs : s.size ≤ 1000000) (w : World) (h0 : s.size ≠ 0) (h : bt s 0 / 64 = 3) {v : Int × Option ByteArray} {d c r : ByteArray × Option ByteArray} {o : Bool} (hv : numRd (some (s.extract 1 s.size)) 4 = v) (hd : szR v.2 = d) (hc : szR d.2 = c) (hr2 : restR c.2 = r) (ho : (szO v.2 || szO d.2) = o) (hov : o = true) (he : errG9 s = 3) : Calls Try.prog 10 #[.string s] w fun e w' => e = .returned (.tuple #[.agg #[.bool (headG9 s).lg, .int .i64 (headG9 s).bi, .int .u32 (headG9 s).ve, .string (headG9 s).dc, .string (headG9 s).sc, .string (headG9 s).re], .int .i64 (errG9 s)]) ∧ Below w.heap.size w w' := by
  have hh := headG9_no (s := s) (by omega)
  rw [hh, he]
  show Calls _ _ _ _ fun e' w' => e' = .returned (.tuple #[.agg #[.bool false, .int .i64 0, .int .u32 0, .string ⟨#[]⟩, .string ⟨#[]⟩, .string ⟨#[]⟩], .int .i64 3]) ∧ Below w.heap.size w w'
  clear he hh
  have HOV := Lib.hid hov
  clear hov
  have v1 : (((bt s 0 : Nat) : Int) / 64 == 1) = false := by simp; omega
  have v3 : (((bt s 0 : Nat) : Int) / 64 == 3) = true := by simp; omega
  obtain ⟨B, hB⟩ : ∃ B : Int, ((bt s 0 % 64 : Nat) : Int) = B := ⟨_, rfl⟩
  have HV := Lib.hid hv
  have HD := Lib.hid hd
  have HC := Lib.hid hc
  have HR := Lib.hid hr2
  have HO := Lib.hid ho
  have hvb := numRd4_bd (some (s.extract 1 s.size))
  rw [hv] at hvb
  have xv : IntKind.u32.wrap v.1 = v.1 := by rw [show IntKind.u32.wrap v.1 = v.1 % 4294967296 from rfl]; omega
  clear h hv hd hc hr2 ho
  have ne : (s.toList == []) = false := by
    rw [ByteArray.toList_eq]
    cases hl : s.data.toList with
    | nil => exact absurd (show s.size = 0 by rw [size_list, hl]; rfl) h0
    | cons x l => rfl
  have hbt := bt_lt s 0
  have mK := maskQ (bt s 0) hbt
  rw [hB] at mK
  have hle : LeR 1000000 (some (s.extract 1 s.size)) := by
    intro t ht; cases ht; rw [ByteArray.size_extract]; omega
  have HLE := Lib.hid hle
  have hm : s.size ≤ maxLen := by unfold maxLen; omega
  have h0' : 0 + 1 ≤ s.size := by omega
  have hmf : ∀ (fn : Fn) (first cap : Array Value) (w : World), (Instr.makeFunc fn first cap).run Try.prog w = .ok (.func fn first cap) w := fun _ _ _ _ => rfl
  clear hle h0 hs hB
  go_enter Try.func10, Try.ntmps10
  go_wp2_with fail
  refine (new_any s _).mono ?_
  rintro e w1 ⟨rfl, rfl⟩
  go_wp2_with fail
  have hr0 : Rd ((((w.alloc (.cells #[.bool false, .int .i64 0, .int .u32 0, .string ⟨#[]⟩, .string ⟨#[]⟩, .string ⟨#[]⟩] 31)).alloc (.cells #[.string s] 9)).alloc (.cells #[.pointer (some ⟨w.heap.size + 1, 0, none⟩)] 60)).alloc (.cells #[.pointer (some ⟨w.heap.size + 1 + 1, 0, none⟩), .bool false] 49)) (w.heap.size + 1 + 1) (w.heap.size + 1) (some (s.extract 0 s.size)) := by
    have e0 : s.extract 0 s.size = s := by apply ext_eq; rw [ext_str', List.drop_zero, Nat.sub_zero, size_list, List.take_length]
    rw [e0]
    refine ⟨?_, ?_, by omega⟩
    · have := (HasB.new ((w.alloc (.cells #[.bool false, .int .i64 0, .int .u32 0, .string ⟨#[]⟩, .string ⟨#[]⟩, .string ⟨#[]⟩] 31)).alloc (.cells #[.string s] 9)) 60 #[.pointer (some ⟨w.heap.size + 1, 0, none⟩)]).alloc (.cells #[.pointer (some ⟨w.heap.size + 1 + 1, 0, none⟩), .bool false] 49)
      simpa using this
    · have := ((HasB.new (w.alloc (.cells #[.bool false, .int .i64 0, .int .u32 0, .string ⟨#[]⟩, .string ⟨#[]⟩, .string ⟨#[]⟩] 31)) 9 #[.string s]).alloc (.cells #[.pointer (some ⟨w.heap.size + 1, 0, none⟩)] 60)).alloc (.cells #[.pointer (some ⟨w.heap.size + 1 + 1, 0, none⟩), .bool false] 49)
      simpa using this
  (with_reducible refine (num1_at (w.heap.size + 1 + 1) (w.heap.size + 1) s 0 _ hr0 hm h0').mono ?_)
  rintro e wa ⟨rfl, hr, hk⟩
  have HX : Hid (StQ false (some (s.extract 1 s.size)) wa.heap.size #[.bool true, .int .i64 (B), .int .u32 (0), .string (⟨#[]⟩), .string (⟨#[]⟩), .string (⟨#[]⟩)] w (wa.alloc (.cells #[.bool true, .int .i64 (B), .int .u32 (0), .string (⟨#[]⟩), .string (⟨#[]⟩), .string (⟨#[]⟩)] 31))) := by
    refine Lib.hid ⟨?_, ?_, HasB.new _ _ _, hr.alloc _, ?_, ?_⟩
    · exact HasB.alloc (HasB.kept (((HasB.new w 31 #[.bool false, .int .i64 0, .int .u32 0, .string ⟨#[]⟩, .string ⟨#[]⟩, .string ⟨#[]⟩]).alloc _).alloc _ |>.alloc _) hk (by omega)) _
    · have := HasB.new (((w.alloc (.cells #[.bool false, .int .i64 0, .int .u32 0, .string ⟨#[]⟩, .string ⟨#[]⟩, .string ⟨#[]⟩] 31)).alloc (.cells #[.string s] 9)).alloc (.cells #[.pointer (some ⟨w.heap.size + 1, 0, none⟩)] 60)) 49 #[.pointer (some ⟨w.heap.size + 1 + 1, 0, none⟩), .bool false]
      simp only [World.size_alloc] at this
      exact HasB.alloc (HasB.kept this hk (by omega)) _
    · have h1 : Below w.heap.size w ((((w.alloc (.cells #[.bool false, .int .i64 0, .int .u32 0, .string ⟨#[]⟩, .string ⟨#[]⟩, .string ⟨#[]⟩] 31)).alloc (.cells #[.string s] 9)).alloc (.cells #[.pointer (some ⟨w.heap.size + 1, 0, none⟩)] 60)).alloc (.cells #[.pointer (some ⟨w.heap.size + 1 + 1, 0, none⟩), .bool false] 49)) := ((((Below.refl _ w).alloc (Nat.le_refl _) _).alloc (by simp) _).alloc (by simp; omega) _).alloc (by simp; omega) _
      have h2 := h1.trans (hk.below h1.size (by omega))
      exact h2.alloc h2.size _
    · have := hk.size
      simp at this
      omega
  clear hr0 hr hk
  go_wp2_with fail
  (with_reducible refine (num_any (w.heap.size + 1 + 1) (w.heap.size + 1) _ 4 _ HX.out.rd (HLE.out.max (by omega))).mono ?_)
  rintro e wb ⟨rfl, hr, hk⟩
  rw [HV.out] at hr ⊢
  replace HX := Lib.hid (HX.out.next hr hk)
  have hle1 : LeR 1000000 v.2 := by rw [← HV.out]; exact HLE.out.num 4
  clear hr hk
  have c2 := HasB.cell HX.out.hd 2 (.int .u32 0) rfl
  have f2 := HasB.free HX.out.hd 2
  replace HX := Lib.hid (HX.out.put 2 (.int .u32 v.1))
  go_wp2_with fail
  (with_reducible refine (sized_any (w.heap.size + 1 + 1 + 1) (w.heap.size + 1 + 1) (w.heap.size + 1) false v.2 _ HX.out.ids ⟨by omega, by omega⟩ HX.out.rd hle1).mono ?_)
  rintro e wb ⟨rfl, hr, hi, hk⟩
  rw [HD.out] at hr ⊢
  replace HX := Lib.hid (HX.out.nextI hr hi hk)
  have hle2 : LeR 1000000 d.2 := by rw [← HD.out]; exact hle1.sz
  clear hr hi hk c2 f2 hle1
  have c3 := HasB.cell HX.out.hd 3 (.string ⟨#[]⟩) rfl
  have f3 := HasB.free HX.out.hd 3
  replace HX := Lib.hid (HX.out.put 3 (.string d.1))
  have c0 := HasB.cell HX.out.hd 0 (.bool true) rfl
  go_wp2_with fail
  (with_reducible refine (sized_any (w.heap.size + 1 + 1 + 1) (w.heap.size + 1 + 1) (w.heap.size + 1) _ d.2 _ HX.out.ids ⟨by omega, by omega⟩ HX.out.rd hle2).mono ?_)
  rintro e wc ⟨rfl, hr, hi, hk⟩
  rw [HC.out] at hr ⊢
  rw [Bool.false_or, HO.out] at hi
  replace HX := Lib.hid (HX.out.nextI hr hi hk)
  have hle3 : LeR 1000000 c.2 := by rw [← HC.out]; exact hle2.sz
  clear hr hi hk c3 f3 c0 hle2
  have c4 := HasB.cell HX.out.hd 4 (.string ⟨#[]⟩) rfl
  have f4 := HasB.free HX.out.hd 4
  replace HX := Lib.hid (HX.out.put 4 (.string c.1))
  go_wp2_with fail
  (with_reducible refine (rest_any (w.heap.size + 1 + 1) (w.heap.size + 1) c.2 _ HX.out.rd (hle3.max (by omega))).mono ?_)
  rintro e wb ⟨rfl, hr, hk⟩
  rw [HR.out] at hr ⊢
  replace HX := Lib.hid (HX.out.next hr hk)
  clear hr hk c4 f4 hle3
  have c5 := HasB.cell HX.out.hd 5 (.string ⟨#[]⟩) rfl
  have f5 := HasB.free HX.out.hd 5
  replace HX := Lib.hid (HX.out.put 5 (.string r.1))
  have k1 := HasB.cell HX.out.ids 1 (.bool o) rfl
  have hro := HasB.rowOk HX.out.res (n := 6) rfl
  have hrn := HasB.rowOk HX.out.hd (n := 6) rfl
  have hrw := HasB.rowOf HX.out.hd
  obtain rfl := HOV.out
  go_wp2_with fail
  (try simp only [Exit.inBlock, Exit.then]); refine bodyPost_ret (v := .tuple #[.agg #[.bool false, .int .i64 0, .int .u32 0, .string ⟨#[]⟩, .string ⟨#[]⟩, .string ⟨#[]⟩], .int .i64 3]) (results_cellQ Try.results10 _ _ w.heap.size _ _ rfl (HasB.setRow HX.out.res #[.bool false, .int .i64 0, .int .u32 0, .string ⟨#[]⟩, .string ⟨#[]⟩, .string ⟨#[]⟩]) Try.underlying31 infoH9 rfl) rfl ⟨rfl, (below_setRow HX.out.below (Nat.le_refl _) #[.bool false, .int .i64 0, .int .u32 0, .string ⟨#[]⟩, .string ⟨#[]⟩, .string ⟨#[]⟩])⟩
set_option maxHeartbeats 1000000 in
theorem get9_lcut (s : ByteArray) (hs : s.size ≤ 1000000) (w : World) (h0 : s.size ≠ 0) (h : bt s 0 / 64 = 3) {v : Int × Option ByteArray} {d c r : ByteArray × Option ByteArray} {o : Bool} (hv : numRd (some (s.extract 1 s.size)) 4 = v) (hd : szR v.2 = d) (hc : szR d.2 = c) (hr2 : restR c.2 = r) (ho : (szO v.2 || szO d.2) = o) (hov : o = false) (hbr : badR r.2 = true) (he : errG9 s = 2) : Calls Try.prog 10 #[.string s] w fun e w' => e = .returned (.tuple #[.agg #[.bool (headG9 s).lg, .int .i64 (headG9 s).bi, .int .u32 (headG9 s).ve, .string (headG9 s).dc, .string (headG9 s).sc, .string (headG9 s).re], .int .i64 (errG9 s)]) ∧ Below w.heap.size w w' := by
  have hh := headG9_no (s := s) (by omega)
  rw [hh, he]
  show Calls _ _ _ _ fun e' w' => e' = .returned (.tuple #[.agg #[.bool false, .int .i64 0, .int .u32 0, .string ⟨#[]⟩, .string ⟨#[]⟩, .string ⟨#[]⟩], .int .i64 2]) ∧ Below w.heap.size w w'
  clear he hh
  have HOV := Lib.hid hov
  have HBR := Lib.hid hbr
  clear hov hbr
  have v1 : (((bt s 0 : Nat) : Int) / 64 == 1) = false := by simp; omega
  have v3 : (((bt s 0 : Nat) : Int) / 64 == 3) = true := by simp; omega
  obtain ⟨B, hB⟩ : ∃ B : Int, ((bt s 0 % 64 : Nat) : Int) = B := ⟨_, rfl⟩
  have HV := Lib.hid hv
  have HD := Lib.hid hd
  have HC := Lib.hid hc
  have HR := Lib.hid hr2
  have HO := Lib.hid ho
  have hvb := numRd4_bd (some (s.extract 1 s.size))
  rw [hv] at hvb
  have xv : IntKind.u32.wrap v.1 = v.1 := by rw [show IntKind.u32.wrap v.1 = v.1 % 4294967296 from rfl]; omega
  clear h hv hd hc hr2 ho
  have ne : (s.toList == []) = false := by
    rw [ByteArray.toList_eq]
    cases hl : s.data.toList with
    | nil => exact absurd (show s.size = 0 by rw [size_list, hl]; rfl) h0
    | cons x l => rfl
  have hbt := bt_lt s 0
  have mK := maskQ (bt s 0) hbt
  rw [hB] at mK
  have hle : LeR 1000000 (some (s.extract 1 s.size)) := by
    intro t ht; cases ht; rw [ByteArray.size_extract]; omega
  have HLE := Lib.hid hle
  have hm : s.size ≤ maxLen := by unfold maxLen; omega
  have h0' : 0 + 1 ≤ s.size := by omega
  have hmf : ∀ (fn : Fn) (first cap : Array Value) (w : World), (Instr.makeFunc fn first cap).run Try.prog w = .ok (.func fn first cap) w := fun _ _ _ _ => rfl
  clear hle h0 hs hB
  go_enter Try.func10, Try.ntmps10
  go_wp2_with fail
  refine (new_any s _).mono ?_
  rintro e w1 ⟨rfl, rfl⟩
  go_wp2_with fail
  have hr0 : Rd ((((w.alloc (.cells #[.bool false, .int .i64 0, .int .u32 0, .string ⟨#[]⟩, .string ⟨#[]⟩, .string ⟨#[]⟩] 31)).alloc (.cells #[.string s] 9)).alloc (.cells #[.pointer (some ⟨w.heap.size + 1, 0, none⟩)] 60)).alloc (.cells #[.pointer (some ⟨w.heap.size + 1 + 1, 0, none⟩), .bool false] 49)) (w.heap.size + 1 + 1) (w.heap.size + 1) (some (s.extract 0 s.size)) := by
    have e0 : s.extract 0 s.size = s := by apply ext_eq; rw [ext_str', List.drop_zero, Nat.sub_zero, size_list, List.take_length]
    rw [e0]
    refine ⟨?_, ?_, by omega⟩
    · have := (HasB.new ((w.alloc (.cells #[.bool false, .int .i64 0, .int .u32 0, .string ⟨#[]⟩, .string ⟨#[]⟩, .string ⟨#[]⟩] 31)).alloc (.cells #[.string s] 9)) 60 #[.pointer (some ⟨w.heap.size + 1, 0, none⟩)]).alloc (.cells #[.pointer (some ⟨w.heap.size + 1 + 1, 0, none⟩), .bool false] 49)
      simpa using this
    · have := ((HasB.new (w.alloc (.cells #[.bool false, .int .i64 0, .int .u32 0, .string ⟨#[]⟩, .string ⟨#[]⟩, .string ⟨#[]⟩] 31)) 9 #[.string s]).alloc (.cells #[.pointer (some ⟨w.heap.size + 1, 0, none⟩)] 60)).alloc (.cells #[.pointer (some ⟨w.heap.size + 1 + 1, 0, none⟩), .bool false] 49)
      simpa using this
  (with_reducible refine (num1_at (w.heap.size + 1 + 1) (w.heap.size + 1) s 0 _ hr0 hm h0').mono ?_)
  rintro e wa ⟨rfl, hr, hk⟩
  have HX : Hid (StQ false (some (s.extract 1 s.size)) wa.heap.size #[.bool true, .int .i64 (B), .int .u32 (0), .string (⟨#[]⟩), .string (⟨#[]⟩), .string (⟨#[]⟩)] w (wa.alloc (.cells #[.bool true, .int .i64 (B), .int .u32 (0), .string (⟨#[]⟩), .string (⟨#[]⟩), .string (⟨#[]⟩)] 31))) := by
    refine Lib.hid ⟨?_, ?_, HasB.new _ _ _, hr.alloc _, ?_, ?_⟩
    · exact HasB.alloc (HasB.kept (((HasB.new w 31 #[.bool false, .int .i64 0, .int .u32 0, .string ⟨#[]⟩, .string ⟨#[]⟩, .string ⟨#[]⟩]).alloc _).alloc _ |>.alloc _) hk (by omega)) _
    · have := HasB.new (((w.alloc (.cells #[.bool false, .int .i64 0, .int .u32 0, .string ⟨#[]⟩, .string ⟨#[]⟩, .string ⟨#[]⟩] 31)).alloc (.cells #[.string s] 9)).alloc (.cells #[.pointer (some ⟨w.heap.size + 1, 0, none⟩)] 60)) 49 #[.pointer (some ⟨w.heap.size + 1 + 1, 0, none⟩), .bool false]
      simp only [World.size_alloc] at this
      exact HasB.alloc (HasB.kept this hk (by omega)) _
    · have h1 : Below w.heap.size w ((((w.alloc (.cells #[.bool false, .int .i64 0, .int .u32 0, .string ⟨#[]⟩, .string ⟨#[]⟩, .string ⟨#[]⟩] 31)).alloc (.cells #[.string s] 9)).alloc (.cells #[.pointer (some ⟨w.heap.size + 1, 0, none⟩)] 60)).alloc (.cells #[.pointer (some ⟨w.heap.size + 1 + 1, 0, none⟩), .bool false] 49)) := ((((Below.refl _ w).alloc (Nat.le_refl _) _).alloc (by simp) _).alloc (by simp; omega) _).alloc (by simp; omega) _
      have h2 := h1.trans (hk.below h1.size (by omega))
      exact h2.alloc h2.size _
    · have := hk.size
      simp at this
      omega
  clear hr0 hr hk
  go_wp2_with fail
  (with_reducible refine (num_any (w.heap.size + 1 + 1) (w.heap.size + 1) _ 4 _ HX.out.rd (HLE.out.max (by omega))).mono ?_)
  rintro e wb ⟨rfl, hr, hk⟩
  rw [HV.out] at hr ⊢
  replace HX := Lib.hid (HX.out.next hr hk)
  have hle1 : LeR 1000000 v.2 := by rw [← HV.out]; exact HLE.out.num 4
  clear hr hk
  have c2 := HasB.cell HX.out.hd 2 (.int .u32 0) rfl
  have f2 := HasB.free HX.out.hd 2
  replace HX := Lib.hid (HX.out.put 2 (.int .u32 v.1))
  go_wp2_with fail
  (with_reducible refine (sized_any (w.heap.size + 1 + 1 + 1) (w.heap.size + 1 + 1) (w.heap.size + 1) false v.2 _ HX.out.ids ⟨by omega, by omega⟩ HX.out.rd hle1).mono ?_)
  rintro e wb ⟨rfl, hr, hi, hk⟩
  rw [HD.out] at hr ⊢
  replace HX := Lib.hid (HX.out.nextI hr hi hk)
  have hle2 : LeR 1000000 d.2 := by rw [← HD.out]; exact hle1.sz
  clear hr hi hk c2 f2 hle1
  have c3 := HasB.cell HX.out.hd 3 (.string ⟨#[]⟩) rfl
  have f3 := HasB.free HX.out.hd 3
  replace HX := Lib.hid (HX.out.put 3 (.string d.1))
  have c0 := HasB.cell HX.out.hd 0 (.bool true) rfl
  go_wp2_with fail
  (with_reducible refine (sized_any (w.heap.size + 1 + 1 + 1) (w.heap.size + 1 + 1) (w.heap.size + 1) _ d.2 _ HX.out.ids ⟨by omega, by omega⟩ HX.out.rd hle2).mono ?_)
  rintro e wc ⟨rfl, hr, hi, hk⟩
  rw [HC.out] at hr ⊢
  rw [Bool.false_or, HO.out] at hi
  replace HX := Lib.hid (HX.out.nextI hr hi hk)
  have hle3 : LeR 1000000 c.2 := by rw [← HC.out]; exact hle2.sz
  clear hr hi hk c3 f3 c0 hle2
  have c4 := HasB.cell HX.out.hd 4 (.string ⟨#[]⟩) rfl
  have f4 := HasB.free HX.out.hd 4
  replace HX := Lib.hid (HX.out.put 4 (.string c.1))
  go_wp2_with fail
  (with_reducible refine (rest_any (w.heap.size + 1 + 1) (w.heap.size + 1) c.2 _ HX.out.rd (hle3.max (by omega))).mono ?_)
  rintro e wb ⟨rfl, hr, hk⟩
  rw [HR.out] at hr ⊢
  replace HX := Lib.hid (HX.out.next hr hk)
  clear hr hk c4 f4 hle3
  have c5 := HasB.cell HX.out.hd 5 (.string ⟨#[]⟩) rfl
  have f5 := HasB.free HX.out.hd 5
  replace HX := Lib.hid (HX.out.put 5 (.string r.1))
  have k1 := HasB.cell HX.out.ids 1 (.bool o) rfl
  have hro := HasB.rowOk HX.out.res (n := 6) rfl
  have hrn := HasB.rowOk HX.out.hd (n := 6) rfl
  have hrw := HasB.rowOf HX.out.hd
  have HB := Lib.hid (bad_any (w.heap.size + 1 + 1) (w.heap.size + 1) r.2 _ HX.out.rd)
  rw [HBR.out] at HB
  obtain rfl := HOV.out
  go_wp2_with fail
  (with_reducible refine (HB.out).mono ?_)
  rintro e wd ⟨rfl, rfl⟩
  go_wp2_with fail
  (try simp only [Exit.inBlock, Exit.then]); refine bodyPost_ret (v := .tuple #[.agg #[.bool false, .int .i64 0, .int .u32 0, .string ⟨#[]⟩, .string ⟨#[]⟩, .string ⟨#[]⟩], .int .i64 2]) (results_cellQ Try.results10 _ _ w.heap.size _ _ rfl (HasB.setRow HX.out.res #[.bool false, .int .i64 0, .int .u32 0, .string ⟨#[]⟩, .string ⟨#[]⟩, .string ⟨#[]⟩]) Try.underlying31 infoH9 rfl) rfl ⟨rfl, (below_setRow HX.out.below (Nat.le_refl _) #[.bool false, .int .i64 0, .int .u32 0, .string ⟨#[]⟩, .string ⟨#[]⟩, .string ⟨#[]⟩])⟩
set_option maxHeartbeats 1000000 in
theorem get9_long (s : ByteArray) (hs : s.size ≤ 1000000) (w : World) (h0 : s.size ≠ 0) (h : bt s 0 / 64 = 3) {v : Int × Option ByteArray} {d c r : ByteArray × Option ByteArray} {o : Bool} (hv : numRd (some (s.extract 1 s.size)) 4 = v) (hd : szR v.2 = d) (hc : szR d.2 = c) (hr2 : restR c.2 = r) (ho : (szO v.2 || szO d.2) = o) (hov : o = false) (hbr : badR r.2 = false) (he : errG9 s = 0) (hh : headG9 s = ⟨true, (bt s 0 % 64 : Nat), v.1, d.1, c.1, r.1⟩) : Calls Try.prog 10 #[.string s] w fun e w' => e = .returned (.tuple #[.agg #[.bool (headG9 s).lg, .int .i64 (headG9 s).bi, .int .u32 (headG9 s).ve, .string (headG9 s).dc, .string (headG9 s).sc, .string (headG9 s).re], .int .i64 (errG9 s)]) ∧ Below w.heap.size w w' := by
  have HOV := Lib.hid hov
  have HBR := Lib.hid hbr
  clear hov hbr
  have v1 : (((bt s 0 : Nat) : Int) / 64 == 1) = false := by simp; omega
  have v3 : (((bt s 0 : Nat) : Int) / 64 == 3) = true := by simp; omega
  obtain ⟨B, hB⟩ : ∃ B : Int, ((bt s 0 % 64 : Nat) : Int) = B := ⟨_, rfl⟩
  have HV := Lib.hid hv
  have HD := Lib.hid hd
  have HC := Lib.hid hc
  have HR := Lib.hid hr2
  have HO := Lib.hid ho
  have hvb := numRd4_bd (some (s.extract 1 s.size))
  rw [hv] at hvb
  have xv : IntKind.u32.wrap v.1 = v.1 := by rw [show IntKind.u32.wrap v.1 = v.1 % 4294967296 from rfl]; omega
  clear h hv hd hc hr2 ho
  rw [hB] at hh
  rw [hh, he]
  show Calls _ _ _ _ fun e' w' => e' = .returned (.tuple #[.agg #[.bool true, .int .i64 (B), .int .u32 (v.1), .string (d.1), .string (c.1), .string (r.1)], .int .i64 0]) ∧ Below w.heap.size w w'
  clear hh he
  have ne : (s.toList == []) = false := by
    rw [ByteArray.toList_eq]
    cases hl : s.data.toList with
    | nil => exact absurd (show s.size = 0 by rw [size_list, hl]; rfl) h0
    | cons x l => rfl
  have hbt := bt_lt s 0
  have mK := maskQ (bt s 0) hbt
  rw [hB] at mK
  have hle : LeR 1000000 (some (s.extract 1 s.size)) := by
    intro t ht; cases ht; rw [ByteArray.size_extract]; omega
  have HLE := Lib.hid hle
  have hm : s.size ≤ maxLen := by unfold maxLen; omega
  have h0' : 0 + 1 ≤ s.size := by omega
  have hmf : ∀ (fn : Fn) (first cap : Array Value) (w : World), (Instr.makeFunc fn first cap).run Try.prog w = .ok (.func fn first cap) w := fun _ _ _ _ => rfl
  clear hle h0 hs hB
  go_enter Try.func10, Try.ntmps10
  go_wp2_with fail
  refine (new_any s _).mono ?_
  rintro e w1 ⟨rfl, rfl⟩
  go_wp2_with fail
  have hr0 : Rd ((((w.alloc (.cells #[.bool false, .int .i64 0, .int .u32 0, .string ⟨#[]⟩, .string ⟨#[]⟩, .string ⟨#[]⟩] 31)).alloc (.cells #[.string s] 9)).alloc (.cells #[.pointer (some ⟨w.heap.size + 1, 0, none⟩)] 60)).alloc (.cells #[.pointer (some ⟨w.heap.size + 1 + 1, 0, none⟩), .bool false] 49)) (w.heap.size + 1 + 1) (w.heap.size + 1) (some (s.extract 0 s.size)) := by
    have e0 : s.extract 0 s.size = s := by apply ext_eq; rw [ext_str', List.drop_zero, Nat.sub_zero, size_list, List.take_length]
    rw [e0]
    refine ⟨?_, ?_, by omega⟩
    · have := (HasB.new ((w.alloc (.cells #[.bool false, .int .i64 0, .int .u32 0, .string ⟨#[]⟩, .string ⟨#[]⟩, .string ⟨#[]⟩] 31)).alloc (.cells #[.string s] 9)) 60 #[.pointer (some ⟨w.heap.size + 1, 0, none⟩)]).alloc (.cells #[.pointer (some ⟨w.heap.size + 1 + 1, 0, none⟩), .bool false] 49)
      simpa using this
    · have := ((HasB.new (w.alloc (.cells #[.bool false, .int .i64 0, .int .u32 0, .string ⟨#[]⟩, .string ⟨#[]⟩, .string ⟨#[]⟩] 31)) 9 #[.string s]).alloc (.cells #[.pointer (some ⟨w.heap.size + 1, 0, none⟩)] 60)).alloc (.cells #[.pointer (some ⟨w.heap.size + 1 + 1, 0, none⟩), .bool false] 49)
      simpa using this
  (with_reducible refine (num1_at (w.heap.size + 1 + 1) (w.heap.size + 1) s 0 _ hr0 hm h0').mono ?_)
  rintro e wa ⟨rfl, hr, hk⟩
  have HX : Hid (StQ false (some (s.extract 1 s.size)) wa.heap.size #[.bool true, .int .i64 (B), .int .u32 (0), .string (⟨#[]⟩), .string (⟨#[]⟩), .string (⟨#[]⟩)] w (wa.alloc (.cells #[.bool true, .int .i64 (B), .int .u32 (0), .string (⟨#[]⟩), .string (⟨#[]⟩), .string (⟨#[]⟩)] 31))) := by
    refine Lib.hid ⟨?_, ?_, HasB.new _ _ _, hr.alloc _, ?_, ?_⟩
    · exact HasB.alloc (HasB.kept (((HasB.new w 31 #[.bool false, .int .i64 0, .int .u32 0, .string ⟨#[]⟩, .string ⟨#[]⟩, .string ⟨#[]⟩]).alloc _).alloc _ |>.alloc _) hk (by omega)) _
    · have := HasB.new (((w.alloc (.cells #[.bool false, .int .i64 0, .int .u32 0, .string ⟨#[]⟩, .string ⟨#[]⟩, .string ⟨#[]⟩] 31)).alloc (.cells #[.string s] 9)).alloc (.cells #[.pointer (some ⟨w.heap.size + 1, 0, none⟩)] 60)) 49 #[.pointer (some ⟨w.heap.size + 1 + 1, 0, none⟩), .bool false]
      simp only [World.size_alloc] at this
      exact HasB.alloc (HasB.kept this hk (by omega)) _
    · have h1 : Below w.heap.size w ((((w.alloc (.cells #[.bool false, .int .i64 0, .int .u32 0, .string ⟨#[]⟩, .string ⟨#[]⟩, .string ⟨#[]⟩] 31)).alloc (.cells #[.string s] 9)).alloc (.cells #[.pointer (some ⟨w.heap.size + 1, 0, none⟩)] 60)).alloc (.cells #[.pointer (some ⟨w.heap.size + 1 + 1, 0, none⟩), .bool false] 49)) := ((((Below.refl _ w).alloc (Nat.le_refl _) _).alloc (by simp) _).alloc (by simp; omega) _).alloc (by simp; omega) _
      have h2 := h1.trans (hk.below h1.size (by omega))
      exact h2.alloc h2.size _
    · have := hk.size
      simp at this
      omega
  clear hr0 hr hk
  go_wp2_with fail
  (with_reducible refine (num_any (w.heap.size + 1 + 1) (w.heap.size + 1) _ 4 _ HX.out.rd (HLE.out.max (by omega))).mono ?_)
  rintro e wb ⟨rfl, hr, hk⟩
  rw [HV.out] at hr ⊢
  replace HX := Lib.hid (HX.out.next hr hk)
  have hle1 : LeR 1000000 v.2 := by rw [← HV.out]; exact HLE.out.num 4
  clear hr hk
  have c2 := HasB.cell HX.out.hd 2 (.int .u32 0) rfl
  have f2 := HasB.free HX.out.hd 2
  replace HX := Lib.hid (HX.out.put 2 (.int .u32 v.1))
  go_wp2_with fail
  (with_reducible refine (sized_any (w.heap.size + 1 + 1 + 1) (w.heap.size + 1 + 1) (w.heap.size + 1) false v.2 _ HX.out.ids ⟨by omega, by omega⟩ HX.out.rd hle1).mono ?_)
  rintro e wb ⟨rfl, hr, hi, hk⟩
  rw [HD.out] at hr ⊢
  replace HX := Lib.hid (HX.out.nextI hr hi hk)
  have hle2 : LeR 1000000 d.2 := by rw [← HD.out]; exact hle1.sz
  clear hr hi hk c2 f2 hle1
  have c3 := HasB.cell HX.out.hd 3 (.string ⟨#[]⟩) rfl
  have f3 := HasB.free HX.out.hd 3
  replace HX := Lib.hid (HX.out.put 3 (.string d.1))
  have c0 := HasB.cell HX.out.hd 0 (.bool true) rfl
  go_wp2_with fail
  (with_reducible refine (sized_any (w.heap.size + 1 + 1 + 1) (w.heap.size + 1 + 1) (w.heap.size + 1) _ d.2 _ HX.out.ids ⟨by omega, by omega⟩ HX.out.rd hle2).mono ?_)
  rintro e wc ⟨rfl, hr, hi, hk⟩
  rw [HC.out] at hr ⊢
  rw [Bool.false_or, HO.out] at hi
  replace HX := Lib.hid (HX.out.nextI hr hi hk)
  have hle3 : LeR 1000000 c.2 := by rw [← HC.out]; exact hle2.sz
  clear hr hi hk c3 f3 c0 hle2
  have c4 := HasB.cell HX.out.hd 4 (.string ⟨#[]⟩) rfl
  have f4 := HasB.free HX.out.hd 4
  replace HX := Lib.hid (HX.out.put 4 (.string c.1))
  go_wp2_with fail
  (with_reducible refine (rest_any (w.heap.size + 1 + 1) (w.heap.size + 1) c.2 _ HX.out.rd (hle3.max (by omega))).mono ?_)
  rintro e wb ⟨rfl, hr, hk⟩
  rw [HR.out] at hr ⊢
  replace HX := Lib.hid (HX.out.next hr hk)
  clear hr hk c4 f4 hle3
  have c5 := HasB.cell HX.out.hd 5 (.string ⟨#[]⟩) rfl
  have f5 := HasB.free HX.out.hd 5
  replace HX := Lib.hid (HX.out.put 5 (.string r.1))
  have k1 := HasB.cell HX.out.ids 1 (.bool o) rfl
  have hro := HasB.rowOk HX.out.res (n := 6) rfl
  have hrn := HasB.rowOk HX.out.hd (n := 6) rfl
  have hrw := HasB.rowOf HX.out.hd
  have HB := Lib.hid (bad_any (w.heap.size + 1 + 1) (w.heap.size + 1) r.2 _ HX.out.rd)
  rw [HBR.out] at HB
  obtain rfl := HOV.out
  go_wp2_with fail
  (with_reducible refine (HB.out).mono ?_)
  rintro e wd ⟨rfl, rfl⟩
  go_wp2_with fail
  (try simp only [Exit.inBlock, Exit.then]); refine bodyPost_ret (v := .tuple #[.agg #[.bool true, .int .i64 (B), .int .u32 (v.1), .string (d.1), .string (c.1), .string (r.1)], .int .i64 0]) (results_cellQ Try.results10 _ _ w.heap.size _ _ rfl (HasB.setRow HX.out.res #[.bool true, .int .i64 (B), .int .u32 (v.1), .string (d.1), .string (c.1), .string (r.1)]) Try.underlying31 infoH9 rfl) rfl ⟨rfl, (below_setRow HX.out.below (Nat.le_refl _) #[.bool true, .int .i64 (B), .int .u32 (v.1), .string (d.1), .string (c.1), .string (r.1)])⟩
theorem get9_any (s : ByteArray) (hs : s.size ≤ 1000000) (w : World) : Calls Try.prog 10 #[.string s] w fun e w' => e = .returned (.tuple #[.agg #[.bool (headG9 s).lg, .int .i64 (headG9 s).bi, .int .u32 (headG9 s).ve, .string (headG9 s).dc, .string (headG9 s).sc, .string (headG9 s).re], .int .i64 (errG9 s)]) ∧ Below w.heap.size w w' := by
  by_cases h0 : s.size = 0
  · exact get9_empty s w h0
  · have hb := bt_lt s 0
    by_cases h : bt s 0 / 64 % 2 = 0
    · exact get9_form s hs w h0 h
    · by_cases h1 : bt s 0 / 64 = 1
      · rcases read_short h0 h1 with ⟨_, he, hbr, hh⟩ | ⟨he, hbr⟩
        · exact get9_short s hs w h0 h1 he hbr hh
        · exact get9_scut s hs w h0 h1 he hbr
      · have h3 : bt s 0 / 64 = 3 := by omega
        rcases read_long h0 h3 rfl rfl rfl rfl rfl with ⟨hov, he⟩ | ⟨hov, hbr, he⟩ | ⟨hov, hbr, he, hh⟩
        · exact get9_lform s hs w h0 h3 rfl rfl rfl rfl rfl hov he
        · exact get9_lcut s hs w h0 h3 rfl rfl rfl rfl rfl hov hbr he
        · exact get9_long s hs w h0 h3 rfl rfl rfl rfl rfl hov hbr he hh
end Go.Proofs.Ytniaelmloealbaa
