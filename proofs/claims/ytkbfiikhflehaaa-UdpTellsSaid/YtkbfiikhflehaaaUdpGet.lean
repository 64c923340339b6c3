/- The contracts of package udp: Get. -/
import Derived.Test.YtkbfiikhflehaaaUdpWalks
import Derived.Test.YtkbfiikhflehaaaFourPseudo
import Derived.Test.YtkbfiikhflehaaaReadAt
namespace Go.Proofs.Ytkbfiikhflehaaa
open Go.RowKit
set_option linter.unusedVariables false
attribute [local go_sem ↓] ldH8 stH8 ldR8 stR8
attribute [local go_sem] rowAt_p rowOkAt_p setAt_p aggOf_a rowOk_new rowOf_new setRow_new agg2

theorem rightQ_any (P : List UInt8) (s : ByteArray) (h : P.length + s.size ≤ 1099511627776) (w : World) :
    Calls Try.prog 22 #[.string (⟨P.toArray⟩ ++ s)] w fun e w' => e = .returned (.bool ((sumL (P ++ s.data.toList) : Int) == 65535)) ∧ Below w.heap.size w w' := by
  have h1 := rightS_any (⟨P.toArray⟩ ++ s) (by rw [ByteArray.size_append]; exact h) w
  rw [app_str, show (⟨P.toArray⟩ : ByteArray).data.toList = P by simp] at h1
  exact h1
/-- What holds while the words are read: the result's block, both addresses, the reader. -/
def StU (s : ByteArray) (p : Nat) (v : Bool) (hi lo : Int) (v' : Bool) (hi' lo' : Int) (w0 W : World) : Prop :=
  Held3 w0.heap.size (w0.heap.size + 1 + 1) 33 #[.int .i64 (0), .int .i64 (0)] w0.heap.size 26 #[.bool v, .int .u64 hi, .int .u64 lo] (w0.heap.size + 1) 26 #[.bool v', .int .u64 hi', .int .u64 lo'] w0 W ∧ Rd W (w0.heap.size + 1 + 1 + 1 + 1) (w0.heap.size + 1 + 1 + 1) (some (s.extract p s.size))
theorem StU.next {s : ByteArray} {p p' : Nat} {v : Bool} {hi lo : Int} {v' : Bool} {hi' lo' : Int} {w0 W W' : World} (h : StU s p v hi lo v' hi' lo' w0 W) (hr : Rd W' (w0.heap.size + 1 + 1 + 1 + 1) (w0.heap.size + 1 + 1 + 1) (some (s.extract p' s.size))) (hk : Kept (fun k => k = w0.heap.size + 1 + 1 + 1 + 1 ∨ k = w0.heap.size + 1 + 1 + 1) W W') : StU s p' v hi lo v' hi' lo' w0 W' :=
  ⟨⟨HasB.kept h.1.1 hk (by omega), HasB.kept h.1.2.1 hk (by omega), HasB.kept h.1.2.2.1 hk (by omega), h.1.2.2.2.1.trans (hk.below h.1.2.2.2.2 (by omega)), Nat.le_trans h.1.2.2.2.2 hk.size⟩, hr⟩
theorem StU.rd {s : ByteArray} {p : Nat} {v : Bool} {hi lo : Int} {v' : Bool} {hi' lo' : Int} {w0 W : World} (h : StU s p v hi lo v' hi' lo' w0 W) : Rd W (w0.heap.size + 1 + 1 + 1 + 1) (w0.heap.size + 1 + 1 + 1) (some (s.extract p s.size)) := h.2
theorem Rd.oldU {w w' : World} {b c : Nat} {s : ByteArray} (h : Rd w b c (some s)) (hk : Below w.heap.size w w') : Rd w' b c (some s) := ⟨HasB.below h.1 hk h.1.lt, HasB.below h.2.1 hk h.2.1.lt, h.2.2⟩
theorem StU.alloc {s : ByteArray} {p : Nat} {v : Bool} {hi lo : Int} {v' : Bool} {hi' lo' : Int} {w0 W : World} (h : StU s p v hi lo v' hi' lo' w0 W) (o : Obj) : StU s p v hi lo v' hi' lo' w0 (W.alloc o) :=
  ⟨h.1.next ((Below.refl _ _).alloc (Nat.le_refl _) o), h.2.oldU ((Below.refl _ _).alloc (Nat.le_refl _) o)⟩
theorem get8_short (s : ByteArray) (v : Bool) (hi lo : Int) (v' : Bool) (hi' lo' : Int) (hA : BA hi lo hi' lo') (hs : s.size ≤ 1000000) (P : List UInt8) (hPe : pseudoL v hi lo v' hi' lo' 17 (wt s 4 : Nat) = P) (w : World) (h : s.size < 8) : Calls Try.prog 9 #[.string s, .agg #[.bool v, .int .u64 hi, .int .u64 lo], .agg #[.bool v', .int .u64 hi', .int .u64 lo']] w fun e w' => e = .returned (.tuple #[.agg #[.int .i64 (spG s P v), .int .i64 (dpG s P v)], .string (payG8 s P v), .int .i64 (errG8 s P v)]) ∧ Below w.heap.size w w' := by
  have he : errG8 s P v = 2 := by unfold errG8; rw [if_pos h]
  obtain ⟨h1', h2', hp⟩ := headG8_no he (by omega)
  rw [h1', h2', hp, he]
  clear he h1' h2' hp
  have h20 : (s.size : Int) < 8 := by omega
  have HX0 : Hid (Held3 w.heap.size (w.heap.size + 1 + 1) 33 #[.int .i64 (0), .int .i64 (0)] w.heap.size 26 #[.bool v, .int .u64 hi, .int .u64 lo] (w.heap.size + 1) 26 #[.bool v', .int .u64 hi', .int .u64 lo'] w (((w.alloc (.cells #[.bool v, .int .u64 hi, .int .u64 lo] 26)).alloc (.cells #[.bool v', .int .u64 hi', .int .u64 lo'] 26)).alloc (.cells #[.int .i64 (0), .int .i64 (0)] 33))) := by
    refine Lib.hid ⟨?_, ((HasB.new w _ _).alloc _).alloc _, ?_, (((Below.refl _ _).alloc (Nat.le_refl _) _).alloc (by simp) _).alloc (by simp; omega) _, by simp; omega⟩
    · have := HasB.new ((w.alloc (.cells #[.bool v, .int .u64 hi, .int .u64 lo] 26)).alloc (.cells #[.bool v', .int .u64 hi', .int .u64 lo'] 26)) 33 #[.int .i64 (0), .int .i64 (0)]
      simpa using this
    · have := (HasB.new (w.alloc (.cells #[.bool v, .int .u64 hi, .int .u64 lo] 26)) 26 #[.bool v', .int .u64 hi', .int .u64 lo']).alloc (.cells #[.int .i64 (0), .int .i64 (0)] 33)
      simpa using this
  have hro := HasB.rowOk HX0.out.1 (n := 2) rfl
  go_enter Try.func9, Try.ntmps9
  go_wp2_with fail
  (try simp only [Exit.inBlock, Exit.then]); refine bodyPost_ret (v := .tuple #[.agg #[.int .i64 (0), .int .i64 (0)], .string ⟨#[]⟩, .int .i64 2]) (results_cell3 Try.results9 _ _ (w.heap.size + 1 + 1) _ _ rfl HX0.out.1 Try.underlying33 infoH8 rfl rfl) rfl ⟨rfl, HX0.out.2.2.2.1⟩
set_option maxHeartbeats 1000000 in
theorem get8_form (s : ByteArray) (v : Bool) (hi lo : Int) (v' : Bool) (hi' lo' : Int) (hA : BA hi lo hi' lo') (hs : s.size ≤ 1000000) (P : List UInt8) (hPe : pseudoL v hi lo v' hi' lo' 17 (wt s 4 : Nat) = P) (w : World) (h1 : 8 ≤ s.size) (h : wt s 4 < 8) : Calls Try.prog 9 #[.string s, .agg #[.bool v, .int .u64 hi, .int .u64 lo], .agg #[.bool v', .int .u64 hi', .int .u64 lo']] w fun e w' => e = .returned (.tuple #[.agg #[.int .i64 (spG s P v), .int .i64 (dpG s P v)], .string (payG8 s P v), .int .i64 (errG8 s P v)]) ∧ Below w.heap.size w w' := by
  have he : errG8 s P v = 3 := by unfold errG8; rw [if_neg (by omega), if_pos h]
  obtain ⟨h1', h2', hp⟩ := headG8_no he (by omega)
  rw [h1', h2', hp, he]
  clear he h1' h2' hp
  have v1 : ((wt s 4 : Nat) : Int) < 8 := by omega
  clear h
  have h40i : ¬ (s.size : Int) < 8 := by omega
  have hm : s.size ≤ maxLen := by unfold maxLen; omega
  have PS := pseudo4_any v hi lo v' hi' lo' 17 (wt s 4 : Nat) hA.a0 hA.a1 hA.b0 hA.b1 hA.c0 hA.c1 hA.d0 hA.d1
  have hPl : P.length ≤ 40 := by rw [← hPe]; exact (pseudoL_len _ _ _ _ _ _ _ _).1
  rw [hPe] at PS
  have PS := Lib.hid PS
  clear hPe
  have HX0 : Hid (Held3 w.heap.size (w.heap.size + 1 + 1) 33 #[.int .i64 (0), .int .i64 (0)] w.heap.size 26 #[.bool v, .int .u64 hi, .int .u64 lo] (w.heap.size + 1) 26 #[.bool v', .int .u64 hi', .int .u64 lo'] w (((w.alloc (.cells #[.bool v, .int .u64 hi, .int .u64 lo] 26)).alloc (.cells #[.bool v', .int .u64 hi', .int .u64 lo'] 26)).alloc (.cells #[.int .i64 (0), .int .i64 (0)] 33))) := by
    refine Lib.hid ⟨?_, ((HasB.new w _ _).alloc _).alloc _, ?_, (((Below.refl _ _).alloc (Nat.le_refl _) _).alloc (by simp) _).alloc (by simp; omega) _, by simp; omega⟩
    · have := HasB.new ((w.alloc (.cells #[.bool v, .int .u64 hi, .int .u64 lo] 26)).alloc (.cells #[.bool v', .int .u64 hi', .int .u64 lo'] 26)) 33 #[.int .i64 (0), .int .i64 (0)]
      simpa using this
    · have := (HasB.new (w.alloc (.cells #[.bool v, .int .u64 hi, .int .u64 lo] 26)) 26 #[.bool v', .int .u64 hi', .int .u64 lo']).alloc (.cells #[.int .i64 (0), .int .i64 (0)] 33)
      simpa using this
  go_enter Try.func9, Try.ntmps9
  go_wp2_with fail
  refine (new_any s _).mono ?_
  rintro e w1 ⟨rfl, rfl⟩
  go_wp2_with fail
  have HX : Hid (StU s 0 v hi lo v' hi' lo' w (((((w.alloc (.cells #[.bool v, .int .u64 hi, .int .u64 lo] 26)).alloc (.cells #[.bool v', .int .u64 hi', .int .u64 lo'] 26)).alloc (.cells #[.int .i64 (0), .int .i64 (0)] 33)).alloc (.cells #[.string s] 9)).alloc (.cells #[.pointer (some ⟨w.heap.size + 1 + 1 + 1, 0, none⟩)] 71))) := by
    refine Lib.hid ⟨(HX0.out.next ((Below.refl _ _).alloc (Nat.le_refl _) _)).next ((Below.refl _ _).alloc (Nat.le_refl _) _), ?_, ?_, by omega⟩
    · have := HasB.new ((((w.alloc (.cells #[.bool v, .int .u64 hi, .int .u64 lo] 26)).alloc (.cells #[.bool v', .int .u64 hi', .int .u64 lo'] 26)).alloc (.cells #[.int .i64 (0), .int .i64 (0)] 33)).alloc (.cells #[.string s] 9)) 71 #[.pointer (some ⟨w.heap.size + 1 + 1 + 1, 0, none⟩)]
      simpa using this
    · have := (HasB.new (((w.alloc (.cells #[.bool v, .int .u64 hi, .int .u64 lo] 26)).alloc (.cells #[.bool v', .int .u64 hi', .int .u64 lo'] 26)).alloc (.cells #[.int .i64 (0), .int .i64 (0)] 33)) 9 #[.string s]).alloc (.cells #[.pointer (some ⟨w.heap.size + 1 + 1 + 1, 0, none⟩)] 71)
      rw [show s.extract 0 s.size = s by apply ext_eq; rw [ext_str', List.drop_zero, Nat.sub_zero, size_list, List.take_length]]
      simpa using this
  clear HX0
  (with_reducible refine (num2_at (w.heap.size + 1 + 1 + 1 + 1) (w.heap.size + 1 + 1 + 1) s 0 _ HX.out.rd hm (by omega)).mono ?_)
  rintro e wa ⟨rfl, hr, hk⟩
  replace HX := Lib.hid (HX.out.next hr hk)
  clear hr hk
  go_wp2_with fail
  (with_reducible refine (num2_at (w.heap.size + 1 + 1 + 1 + 1) (w.heap.size + 1 + 1 + 1) s 2 _ HX.out.rd hm (by omega)).mono ?_)
  rintro e wa ⟨rfl, hr, hk⟩
  replace HX := Lib.hid (HX.out.next hr hk)
  clear hr hk
  have HF := HasB.new wa 33 #[.int .i64 ((wt s 0 : Nat)), .int .i64 ((wt s 2 : Nat))]
  have hwl := HX.out.2.1.lt
  obtain ⟨gF, hgF⟩ : ∃ g, g = wa.heap.size := ⟨_, rfl⟩
  replace HX := Lib.hid (HX.out.alloc (.cells #[.int .i64 ((wt s 0 : Nat)), .int .i64 ((wt s 2 : Nat))] 33))
  go_wp2_with fail
  rw [← hgF] at HF ⊢
  have HGF := Lib.hid hgF
  clear hgF
  (with_reducible refine (num2_at (w.heap.size + 1 + 1 + 1 + 1) (w.heap.size + 1 + 1 + 1) s 4 _ HX.out.rd hm (by omega)).mono ?_)
  rintro e wa ⟨rfl, hr, hk⟩
  replace HX := Lib.hid (HX.out.next hr hk)
  replace HF := HasB.kept HF hk (by have := HGF.out; omega)
  clear hr hk
  go_wp2_with fail
  (with_reducible refine (num2_at (w.heap.size + 1 + 1 + 1 + 1) (w.heap.size + 1 + 1 + 1) s 6 _ HX.out.rd hm (by omega)).mono ?_)
  rintro e wa ⟨rfl, hr, hk⟩
  replace HX := Lib.hid (HX.out.next hr hk)
  replace HF := HasB.kept HF hk (by have := HGF.out; omega)
  clear hr hk
  have k0 := HasB.cell HX.out.1.2.1 0 _ rfl
  have k1 := HasB.cell HX.out.1.2.1 1 _ rfl
  have k2 := HasB.cell HX.out.1.2.1 2 _ rfl
  have k3 := HasB.cell HX.out.1.2.2.1 0 _ rfl
  have k4 := HasB.cell HX.out.1.2.2.1 1 _ rfl
  have k5 := HasB.cell HX.out.1.2.2.1 2 _ rfl
  go_wp2_with fail
  (with_reducible refine (PS.out _).mono ?_)
  rintro e wb ⟨rfl, hb⟩
  replace HF := Lib.hid (HasB.below HF hb HF.lt)
  replace HX := Lib.hid (HX.out.1.next hb)
  clear hb k0 k1 k2 k3 k4 k5 hwl
  have k0 := HasB.cell HX.out.2.1 0 _ rfl
  have hro := HasB.rowOk HX.out.1 (n := 2) rfl
  go_wp2_with fail
  have HW := HasB.setRow HX.out.1 #[.int .i64 (0), .int .i64 (0)]; have HL := below_setRow HX.out.2.2.2.1 (show w.heap.size ≤ w.heap.size + 1 + 1 by omega) #[.int .i64 (0), .int .i64 (0)]; (try simp only [Exit.inBlock, Exit.then]); refine bodyPost_ret (v := .tuple #[.agg #[.int .i64 (0), .int .i64 (0)], .string ⟨#[]⟩, .int .i64 3]) (results_cell3 Try.results9 _ _ (w.heap.size + 1 + 1) _ _ rfl HW Try.underlying33 infoH8 rfl rfl) rfl ⟨rfl, HL⟩
set_option maxHeartbeats 1000000 in
theorem get8_cut (s : ByteArray) (v : Bool) (hi lo : Int) (v' : Bool) (hi' lo' : Int) (hA : BA hi lo hi' lo') (hs : s.size ≤ 1000000) (P : List UInt8) (hPe : pseudoL v hi lo v' hi' lo' 17 (wt s 4 : Nat) = P) (w : World) (h1 : 8 ≤ s.size) (h2 : 8 ≤ wt s 4) (h : s.size < wt s 4) : Calls Try.prog 9 #[.string s, .agg #[.bool v, .int .u64 hi, .int .u64 lo], .agg #[.bool v', .int .u64 hi', .int .u64 lo']] w fun e w' => e = .returned (.tuple #[.agg #[.int .i64 (spG s P v), .int .i64 (dpG s P v)], .string (payG8 s P v), .int .i64 (errG8 s P v)]) ∧ Below w.heap.size w w' := by
  have he : errG8 s P v = 2 := by unfold errG8; rw [if_neg (by omega), if_neg (by omega), if_pos h]
  obtain ⟨h1', h2', hp⟩ := headG8_no he (by omega)
  rw [h1', h2', hp, he]
  clear he h1' h2' hp
  have v1 : ¬ ((wt s 4 : Nat) : Int) < 8 := by omega
  have v2 : (s.size : Int) < (wt s 4 : Nat) := by omega
  clear h h2
  have h40i : ¬ (s.size : Int) < 8 := by omega
  have hm : s.size ≤ maxLen := by unfold maxLen; omega
  have PS := pseudo4_any v hi lo v' hi' lo' 17 (wt s 4 : Nat) hA.a0 hA.a1 hA.b0 hA.b1 hA.c0 hA.c1 hA.d0 hA.d1
  have hPl : P.length ≤ 40 := by rw [← hPe]; exact (pseudoL_len _ _ _ _ _ _ _ _).1
  rw [hPe] at PS
  have PS := Lib.hid PS
  clear hPe
  have HX0 : Hid (Held3 w.heap.size (w.heap.size + 1 + 1) 33 #[.int .i64 (0), .int .i64 (0)] w.heap.size 26 #[.bool v, .int .u64 hi, .int .u64 lo] (w.heap.size + 1) 26 #[.bool v', .int .u64 hi', .int .u64 lo'] w (((w.alloc (.cells #[.bool v, .int .u64 hi, .int .u64 lo] 26)).alloc (.cells #[.bool v', .int .u64 hi', .int .u64 lo'] 26)).alloc (.cells #[.int .i64 (0), .int .i64 (0)] 33))) := by
    refine Lib.hid ⟨?_, ((HasB.new w _ _).alloc _).alloc _, ?_, (((Below.refl _ _).alloc (Nat.le_refl _) _).alloc (by simp) _).alloc (by simp; omega) _, by simp; omega⟩
    · have := HasB.new ((w.alloc (.cells #[.bool v, .int .u64 hi, .int .u64 lo] 26)).alloc (.cells #[.bool v', .int .u64 hi', .int .u64 lo'] 26)) 33 #[.int .i64 (0), .int .i64 (0)]
      simpa using this
    · have := (HasB.new (w.alloc (.cells #[.bool v, .int .u64 hi, .int .u64 lo] 26)) 26 #[.bool v', .int .u64 hi', .int .u64 lo']).alloc (.cells #[.int .i64 (0), .int .i64 (0)] 33)
      simpa using this
  go_enter Try.func9, Try.ntmps9
  go_wp2_with fail
  refine (new_any s _).mono ?_
  rintro e w1 ⟨rfl, rfl⟩
  go_wp2_with fail
  have HX : Hid (StU s 0 v hi lo v' hi' lo' w (((((w.alloc (.cells #[.bool v, .int .u64 hi, .int .u64 lo] 26)).alloc (.cells #[.bool v', .int .u64 hi', .int .u64 lo'] 26)).alloc (.cells #[.int .i64 (0), .int .i64 (0)] 33)).alloc (.cells #[.string s] 9)).alloc (.cells #[.pointer (some ⟨w.heap.size + 1 + 1 + 1, 0, none⟩)] 71))) := by
    refine Lib.hid ⟨(HX0.out.next ((Below.refl _ _).alloc (Nat.le_refl _) _)).next ((Below.refl _ _).alloc (Nat.le_refl _) _), ?_, ?_, by omega⟩
    · have := HasB.new ((((w.alloc (.cells #[.bool v, .int .u64 hi, .int .u64 lo] 26)).alloc (.cells #[.bool v', .int .u64 hi', .int .u64 lo'] 26)).alloc (.cells #[.int .i64 (0), .int .i64 (0)] 33)).alloc (.cells #[.string s] 9)) 71 #[.pointer (some ⟨w.heap.size + 1 + 1 + 1, 0, none⟩)]
      simpa using this
    · have := (HasB.new (((w.alloc (.cells #[.bool v, .int .u64 hi, .int .u64 lo] 26)).alloc (.cells #[.bool v', .int .u64 hi', .int .u64 lo'] 26)).alloc (.cells #[.int .i64 (0), .int .i64 (0)] 33)) 9 #[.string s]).alloc (.cells #[.pointer (some ⟨w.heap.size + 1 + 1 + 1, 0, none⟩)] 71)
      rw [show s.extract 0 s.size = s by apply ext_eq; rw [ext_str', List.drop_zero, Nat.sub_zero, size_list, List.take_length]]
      simpa using this
  clear HX0
  (with_reducible refine (num2_at (w.heap.size + 1 + 1 + 1 + 1) (w.heap.size + 1 + 1 + 1) s 0 _ HX.out.rd hm (by omega)).mono ?_)
  rintro e wa ⟨rfl, hr, hk⟩
  replace HX := Lib.hid (HX.out.next hr hk)
  clear hr hk
  go_wp2_with fail
  (with_reducible refine (num2_at (w.heap.size + 1 + 1 + 1 + 1) (w.heap.size + 1 + 1 + 1) s 2 _ HX.out.rd hm (by omega)).mono ?_)
  rintro e wa ⟨rfl, hr, hk⟩
  replace HX := Lib.hid (HX.out.next hr hk)
  clear hr hk
  have HF := HasB.new wa 33 #[.int .i64 ((wt s 0 : Nat)), .int .i64 ((wt s 2 : Nat))]
  have hwl := HX.out.2.1.lt
  obtain ⟨gF, hgF⟩ : ∃ g, g = wa.heap.size := ⟨_, rfl⟩
  replace HX := Lib.hid (HX.out.alloc (.cells #[.int .i64 ((wt s 0 : Nat)), .int .i64 ((wt s 2 : Nat))] 33))
  go_wp2_with fail
  rw [← hgF] at HF ⊢
  have HGF := Lib.hid hgF
  clear hgF
  (with_reducible refine (num2_at (w.heap.size + 1 + 1 + 1 + 1) (w.heap.size + 1 + 1 + 1) s 4 _ HX.out.rd hm (by omega)).mono ?_)
  rintro e wa ⟨rfl, hr, hk⟩
  replace HX := Lib.hid (HX.out.next hr hk)
  replace HF := HasB.kept HF hk (by have := HGF.out; omega)
  clear hr hk
  go_wp2_with fail
  (with_reducible refine (num2_at (w.heap.size + 1 + 1 + 1 + 1) (w.heap.size + 1 + 1 + 1) s 6 _ HX.out.rd hm (by omega)).mono ?_)
  rintro e wa ⟨rfl, hr, hk⟩
  replace HX := Lib.hid (HX.out.next hr hk)
  replace HF := HasB.kept HF hk (by have := HGF.out; omega)
  clear hr hk
  have k0 := HasB.cell HX.out.1.2.1 0 _ rfl
  have k1 := HasB.cell HX.out.1.2.1 1 _ rfl
  have k2 := HasB.cell HX.out.1.2.1 2 _ rfl
  have k3 := HasB.cell HX.out.1.2.2.1 0 _ rfl
  have k4 := HasB.cell HX.out.1.2.2.1 1 _ rfl
  have k5 := HasB.cell HX.out.1.2.2.1 2 _ rfl
  go_wp2_with fail
  (with_reducible refine (PS.out _).mono ?_)
  rintro e wb ⟨rfl, hb⟩
  replace HF := Lib.hid (HasB.below HF hb HF.lt)
  replace HX := Lib.hid (HX.out.1.next hb)
  clear hb k0 k1 k2 k3 k4 k5 hwl
  have k0 := HasB.cell HX.out.2.1 0 _ rfl
  have hro := HasB.rowOk HX.out.1 (n := 2) rfl
  go_wp2_with fail
  have HW := HasB.setRow HX.out.1 #[.int .i64 (0), .int .i64 (0)]; have HL := below_setRow HX.out.2.2.2.1 (show w.heap.size ≤ w.heap.size + 1 + 1 by omega) #[.int .i64 (0), .int .i64 (0)]; (try simp only [Exit.inBlock, Exit.then]); refine bodyPost_ret (v := .tuple #[.agg #[.int .i64 (0), .int .i64 (0)], .string ⟨#[]⟩, .int .i64 2]) (results_cell3 Try.results9 _ _ (w.heap.size + 1 + 1) _ _ rfl HW Try.underlying33 infoH8 rfl rfl) rfl ⟨rfl, HL⟩
set_option maxHeartbeats 1000000 in
theorem get8_addr (s : ByteArray) (v : Bool) (hi lo : Int) (v' : Bool) (hi' lo' : Int) (hA : BA hi lo hi' lo') (hs : s.size ≤ 1000000) (P : List UInt8) (hPe : pseudoL v hi lo v' hi' lo' 17 (wt s 4 : Nat) = P) (w : World) (h1 : 8 ≤ s.size) (h2 : 8 ≤ wt s 4) (h : wt s 4 ≤ s.size) (hP : P = []) : Calls Try.prog 9 #[.string s, .agg #[.bool v, .int .u64 hi, .int .u64 lo], .agg #[.bool v', .int .u64 hi', .int .u64 lo']] w fun e w' => e = .returned (.tuple #[.agg #[.int .i64 (spG s P v), .int .i64 (dpG s P v)], .string (payG8 s P v), .int .i64 (errG8 s P v)]) ∧ Below w.heap.size w w' := by
  have he : errG8 s P v = 1 := by unfold errG8; rw [if_neg (by omega), if_neg (by omega), if_neg (by omega), if_pos hP]
  obtain ⟨h1', h2', hp⟩ := headG8_no he (by omega)
  rw [h1', h2', hp, he]
  clear he h1' h2' hp
  have v1 : ¬ ((wt s 4 : Nat) : Int) < 8 := by omega
  have v2 : ¬ (s.size : Int) < (wt s 4 : Nat) := by omega
  clear h h2
  have h40i : ¬ (s.size : Int) < 8 := by omega
  have hm : s.size ≤ maxLen := by unfold maxLen; omega
  have PS := pseudo4_any v hi lo v' hi' lo' 17 (wt s 4 : Nat) hA.a0 hA.a1 hA.b0 hA.b1 hA.c0 hA.c1 hA.d0 hA.d1
  have hPl : P.length ≤ 40 := by rw [← hPe]; exact (pseudoL_len _ _ _ _ _ _ _ _).1
  rw [hPe] at PS
  have PS := Lib.hid PS
  clear hPe
  have HX0 : Hid (Held3 w.heap.size (w.heap.size + 1 + 1) 33 #[.int .i64 (0), .int .i64 (0)] w.heap.size 26 #[.bool v, .int .u64 hi, .int .u64 lo] (w.heap.size + 1) 26 #[.bool v', .int .u64 hi', .int .u64 lo'] w (((w.alloc (.cells #[.bool v, .int .u64 hi, .int .u64 lo] 26)).alloc (.cells #[.bool v', .int .u64 hi', .int .u64 lo'] 26)).alloc (.cells #[.int .i64 (0), .int .i64 (0)] 33))) := by
    refine Lib.hid ⟨?_, ((HasB.new w _ _).alloc _).alloc _, ?_, (((Below.refl _ _).alloc (Nat.le_refl _) _).alloc (by simp) _).alloc (by simp; omega) _, by simp; omega⟩
    · have := HasB.new ((w.alloc (.cells #[.bool v, .int .u64 hi, .int .u64 lo] 26)).alloc (.cells #[.bool v', .int .u64 hi', .int .u64 lo'] 26)) 33 #[.int .i64 (0), .int .i64 (0)]
      simpa using this
    · have := (HasB.new (w.alloc (.cells #[.bool v, .int .u64 hi, .int .u64 lo] 26)) 26 #[.bool v', .int .u64 hi', .int .u64 lo']).alloc (.cells #[.int .i64 (0), .int .i64 (0)] 33)
      simpa using this
  go_enter Try.func9, Try.ntmps9
  go_wp2_with fail
  refine (new_any s _).mono ?_
  rintro e w1 ⟨rfl, rfl⟩
  go_wp2_with fail
  have HX : Hid (StU s 0 v hi lo v' hi' lo' w (((((w.alloc (.cells #[.bool v, .int .u64 hi, .int .u64 lo] 26)).alloc (.cells #[.bool v', .int .u64 hi', .int .u64 lo'] 26)).alloc (.cells #[.int .i64 (0), .int .i64 (0)] 33)).alloc (.cells #[.string s] 9)).alloc (.cells #[.pointer (some ⟨w.heap.size + 1 + 1 + 1, 0, none⟩)] 71))) := by
    refine Lib.hid ⟨(HX0.out.next ((Below.refl _ _).alloc (Nat.le_refl _) _)).next ((Below.refl _ _).alloc (Nat.le_refl _) _), ?_, ?_, by omega⟩
    · have := HasB.new ((((w.alloc (.cells #[.bool v, .int .u64 hi, .int .u64 lo] 26)).alloc (.cells #[.bool v', .int .u64 hi', .int .u64 lo'] 26)).alloc (.cells #[.int .i64 (0), .int .i64 (0)] 33)).alloc (.cells #[.string s] 9)) 71 #[.pointer (some ⟨w.heap.size + 1 + 1 + 1, 0, none⟩)]
      simpa using this
    · have := (HasB.new (((w.alloc (.cells #[.bool v, .int .u64 hi, .int .u64 lo] 26)).alloc (.cells #[.bool v', .int .u64 hi', .int .u64 lo'] 26)).alloc (.cells #[.int .i64 (0), .int .i64 (0)] 33)) 9 #[.string s]).alloc (.cells #[.pointer (some ⟨w.heap.size + 1 + 1 + 1, 0, none⟩)] 71)
      rw [show s.extract 0 s.size = s by apply ext_eq; rw [ext_str', List.drop_zero, Nat.sub_zero, size_list, List.take_length]]
      simpa using this
  clear HX0
  (with_reducible refine (num2_at (w.heap.size + 1 + 1 + 1 + 1) (w.heap.size + 1 + 1 + 1) s 0 _ HX.out.rd hm (by omega)).mono ?_)
  rintro e wa ⟨rfl, hr, hk⟩
  replace HX := Lib.hid (HX.out.next hr hk)
  clear hr hk
  go_wp2_with fail
  (with_reducible refine (num2_at (w.heap.size + 1 + 1 + 1 + 1) (w.heap.size + 1 + 1 + 1) s 2 _ HX.out.rd hm (by omega)).mono ?_)
  rintro e wa ⟨rfl, hr, hk⟩
  replace HX := Lib.hid (HX.out.next hr hk)
  clear hr hk
  have HF := HasB.new wa 33 #[.int .i64 ((wt s 0 : Nat)), .int .i64 ((wt s 2 : Nat))]
  have hwl := HX.out.2.1.lt
  obtain ⟨gF, hgF⟩ : ∃ g, g = wa.heap.size := ⟨_, rfl⟩
  replace HX := Lib.hid (HX.out.alloc (.cells #[.int .i64 ((wt s 0 : Nat)), .int .i64 ((wt s 2 : Nat))] 33))
  go_wp2_with fail
  rw [← hgF] at HF ⊢
  have HGF := Lib.hid hgF
  clear hgF
  (with_reducible refine (num2_at (w.heap.size + 1 + 1 + 1 + 1) (w.heap.size + 1 + 1 + 1) s 4 _ HX.out.rd hm (by omega)).mono ?_)
  rintro e wa ⟨rfl, hr, hk⟩
  replace HX := Lib.hid (HX.out.next hr hk)
  replace HF := HasB.kept HF hk (by have := HGF.out; omega)
  clear hr hk
  go_wp2_with fail
  (with_reducible refine (num2_at (w.heap.size + 1 + 1 + 1 + 1) (w.heap.size + 1 + 1 + 1) s 6 _ HX.out.rd hm (by omega)).mono ?_)
  rintro e wa ⟨rfl, hr, hk⟩
  replace HX := Lib.hid (HX.out.next hr hk)
  replace HF := HasB.kept HF hk (by have := HGF.out; omega)
  clear hr hk
  have k0 := HasB.cell HX.out.1.2.1 0 _ rfl
  have k1 := HasB.cell HX.out.1.2.1 1 _ rfl
  have k2 := HasB.cell HX.out.1.2.1 2 _ rfl
  have k3 := HasB.cell HX.out.1.2.2.1 0 _ rfl
  have k4 := HasB.cell HX.out.1.2.2.1 1 _ rfl
  have k5 := HasB.cell HX.out.1.2.2.1 2 _ rfl
  go_wp2_with fail
  (with_reducible refine (PS.out _).mono ?_)
  rintro e wb ⟨rfl, hb⟩
  replace HF := Lib.hid (HasB.below HF hb HF.lt)
  replace HX := Lib.hid (HX.out.1.next hb)
  clear hb k0 k1 k2 k3 k4 k5 hwl
  have k0 := HasB.cell HX.out.2.1 0 _ rfl
  have hro := HasB.rowOk HX.out.1 (n := 2) rfl
  subst hP
  go_wp2_with fail
  have HW := HasB.setRow HX.out.1 #[.int .i64 (0), .int .i64 (0)]; have HL := below_setRow HX.out.2.2.2.1 (show w.heap.size ≤ w.heap.size + 1 + 1 by omega) #[.int .i64 (0), .int .i64 (0)]; (try simp only [Exit.inBlock, Exit.then]); refine bodyPost_ret (v := .tuple #[.agg #[.int .i64 (0), .int .i64 (0)], .string ⟨#[]⟩, .int .i64 1]) (results_cell3 Try.results9 _ _ (w.heap.size + 1 + 1) _ _ rfl HW Try.underlying33 infoH8 rfl rfl) rfl ⟨rfl, HL⟩
set_option maxHeartbeats 1000000 in
theorem get8_none (s : ByteArray) (v : Bool) (hi lo : Int) (v' : Bool) (hi' lo' : Int) (hA : BA hi lo hi' lo') (hs : s.size ≤ 1000000) (P : List UInt8) (hPe : pseudoL v hi lo v' hi' lo' 17 (wt s 4 : Nat) = P) (w : World) (h1 : 8 ≤ s.size) (h2 : 8 ≤ wt s 4) (h : wt s 4 ≤ s.size) (hP : P ≠ []) (h6 : wt s 6 = 0) (hv : v = true) : Calls Try.prog 9 #[.string s, .agg #[.bool v, .int .u64 hi, .int .u64 lo], .agg #[.bool v', .int .u64 hi', .int .u64 lo']] w fun e w' => e = .returned (.tuple #[.agg #[.int .i64 (spG s P v), .int .i64 (dpG s P v)], .string (payG8 s P v), .int .i64 (errG8 s P v)]) ∧ Below w.heap.size w w' := by
  have he : errG8 s P v = 4 := by unfold errG8; rw [if_neg (by omega), if_neg (by omega), if_neg (by omega), if_neg hP, if_pos h6, hv]; rfl
  obtain ⟨h1', h2', hp⟩ := headG8_no he (by omega)
  rw [h1', h2', hp, he]
  clear he h1' h2' hp
  have v1 : ¬ ((wt s 4 : Nat) : Int) < 8 := by omega
  have v2 : ¬ (s.size : Int) < (wt s 4 : Nat) := by omega
  have v3 : (((wt s 6 : Nat) : Int) == 0) = true := by simp; omega
  have hq := nil_eq hP
  have HV := Lib.hid hv
  clear h h2 h6 hP hv
  have h40i : ¬ (s.size : Int) < 8 := by omega
  have hm : s.size ≤ maxLen := by unfold maxLen; omega
  have PS := pseudo4_any v hi lo v' hi' lo' 17 (wt s 4 : Nat) hA.a0 hA.a1 hA.b0 hA.b1 hA.c0 hA.c1 hA.d0 hA.d1
  have hPl : P.length ≤ 40 := by rw [← hPe]; exact (pseudoL_len _ _ _ _ _ _ _ _).1
  rw [hPe] at PS
  have PS := Lib.hid PS
  clear hPe
  have HX0 : Hid (Held3 w.heap.size (w.heap.size + 1 + 1) 33 #[.int .i64 (0), .int .i64 (0)] w.heap.size 26 #[.bool v, .int .u64 hi, .int .u64 lo] (w.heap.size + 1) 26 #[.bool v', .int .u64 hi', .int .u64 lo'] w (((w.alloc (.cells #[.bool v, .int .u64 hi, .int .u64 lo] 26)).alloc (.cells #[.bool v', .int .u64 hi', .int .u64 lo'] 26)).alloc (.cells #[.int .i64 (0), .int .i64 (0)] 33))) := by
    refine Lib.hid ⟨?_, ((HasB.new w _ _).alloc _).alloc _, ?_, (((Below.refl _ _).alloc (Nat.le_refl _) _).alloc (by simp) _).alloc (by simp; omega) _, by simp; omega⟩
    · have := HasB.new ((w.alloc (.cells #[.bool v, .int .u64 hi, .int .u64 lo] 26)).alloc (.cells #[.bool v', .int .u64 hi', .int .u64 lo'] 26)) 33 #[.int .i64 (0), .int .i64 (0)]
      simpa using this
    · have := (HasB.new (w.alloc (.cells #[.bool v, .int .u64 hi, .int .u64 lo] 26)) 26 #[.bool v', .int .u64 hi', .int .u64 lo']).alloc (.cells #[.int .i64 (0), .int .i64 (0)] 33)
      simpa using this
  go_enter Try.func9, Try.ntmps9
  go_wp2_with fail
  refine (new_any s _).mono ?_
  rintro e w1 ⟨rfl, rfl⟩
  go_wp2_with fail
  have HX : Hid (StU s 0 v hi lo v' hi' lo' w (((((w.alloc (.cells #[.bool v, .int .u64 hi, .int .u64 lo] 26)).alloc (.cells #[.bool v', .int .u64 hi', .int .u64 lo'] 26)).alloc (.cells #[.int .i64 (0), .int .i64 (0)] 33)).alloc (.cells #[.string s] 9)).alloc (.cells #[.pointer (some ⟨w.heap.size + 1 + 1 + 1, 0, none⟩)] 71))) := by
    refine Lib.hid ⟨(HX0.out.next ((Below.refl _ _).alloc (Nat.le_refl _) _)).next ((Below.refl _ _).alloc (Nat.le_refl _) _), ?_, ?_, by omega⟩
    · have := HasB.new ((((w.alloc (.cells #[.bool v, .int .u64 hi, .int .u64 lo] 26)).alloc (.cells #[.bool v', .int .u64 hi', .int .u64 lo'] 26)).alloc (.cells #[.int .i64 (0), .int .i64 (0)] 33)).alloc (.cells #[.string s] 9)) 71 #[.pointer (some ⟨w.heap.size + 1 + 1 + 1, 0, none⟩)]
      simpa using this
    · have := (HasB.new (((w.alloc (.cells #[.bool v, .int .u64 hi, .int .u64 lo] 26)).alloc (.cells #[.bool v', .int .u64 hi', .int .u64 lo'] 26)).alloc (.cells #[.int .i64 (0), .int .i64 (0)] 33)) 9 #[.string s]).alloc (.cells #[.pointer (some ⟨w.heap.size + 1 + 1 + 1, 0, none⟩)] 71)
      rw [show s.extract 0 s.size = s by apply ext_eq; rw [ext_str', List.drop_zero, Nat.sub_zero, size_list, List.take_length]]
      simpa using this
  clear HX0
  (with_reducible refine (num2_at (w.heap.size + 1 + 1 + 1 + 1) (w.heap.size + 1 + 1 + 1) s 0 _ HX.out.rd hm (by omega)).mono ?_)
  rintro e wa ⟨rfl, hr, hk⟩
  replace HX := Lib.hid (HX.out.next hr hk)
  clear hr hk
  go_wp2_with fail
  (with_reducible refine (num2_at (w.heap.size + 1 + 1 + 1 + 1) (w.heap.size + 1 + 1 + 1) s 2 _ HX.out.rd hm (by omega)).mono ?_)
  rintro e wa ⟨rfl, hr, hk⟩
  replace HX := Lib.hid (HX.out.next hr hk)
  clear hr hk
  have HF := HasB.new wa 33 #[.int .i64 ((wt s 0 : Nat)), .int .i64 ((wt s 2 : Nat))]
  have hwl := HX.out.2.1.lt
  obtain ⟨gF, hgF⟩ : ∃ g, g = wa.heap.size := ⟨_, rfl⟩
  replace HX := Lib.hid (HX.out.alloc (.cells #[.int .i64 ((wt s 0 : Nat)), .int .i64 ((wt s 2 : Nat))] 33))
  go_wp2_with fail
  rw [← hgF] at HF ⊢
  have HGF := Lib.hid hgF
  clear hgF
  (with_reducible refine (num2_at (w.heap.size + 1 + 1 + 1 + 1) (w.heap.size + 1 + 1 + 1) s 4 _ HX.out.rd hm (by omega)).mono ?_)
  rintro e wa ⟨rfl, hr, hk⟩
  replace HX := Lib.hid (HX.out.next hr hk)
  replace HF := HasB.kept HF hk (by have := HGF.out; omega)
  clear hr hk
  go_wp2_with fail
  (with_reducible refine (num2_at (w.heap.size + 1 + 1 + 1 + 1) (w.heap.size + 1 + 1 + 1) s 6 _ HX.out.rd hm (by omega)).mono ?_)
  rintro e wa ⟨rfl, hr, hk⟩
  replace HX := Lib.hid (HX.out.next hr hk)
  replace HF := HasB.kept HF hk (by have := HGF.out; omega)
  clear hr hk
  have k0 := HasB.cell HX.out.1.2.1 0 _ rfl
  have k1 := HasB.cell HX.out.1.2.1 1 _ rfl
  have k2 := HasB.cell HX.out.1.2.1 2 _ rfl
  have k3 := HasB.cell HX.out.1.2.2.1 0 _ rfl
  have k4 := HasB.cell HX.out.1.2.2.1 1 _ rfl
  have k5 := HasB.cell HX.out.1.2.2.1 2 _ rfl
  go_wp2_with fail
  (with_reducible refine (PS.out _).mono ?_)
  rintro e wb ⟨rfl, hb⟩
  replace HF := Lib.hid (HasB.below HF hb HF.lt)
  replace HX := Lib.hid (HX.out.1.next hb)
  clear hb k0 k1 k2 k3 k4 k5 hwl
  have k0 := HasB.cell HX.out.2.1 0 _ rfl
  have hro := HasB.rowOk HX.out.1 (n := 2) rfl
  obtain rfl := HV.out
  go_wp2_with fail
  have HW := HasB.setRow HX.out.1 #[.int .i64 (0), .int .i64 (0)]; have HL := below_setRow HX.out.2.2.2.1 (show w.heap.size ≤ w.heap.size + 1 + 1 by omega) #[.int .i64 (0), .int .i64 (0)]; (try simp only [Exit.inBlock, Exit.then]); refine bodyPost_ret (v := .tuple #[.agg #[.int .i64 (0), .int .i64 (0)], .string ⟨#[]⟩, .int .i64 4]) (results_cell3 Try.results9 _ _ (w.heap.size + 1 + 1) _ _ rfl HW Try.underlying33 infoH8 rfl rfl) rfl ⟨rfl, HL⟩
set_option maxHeartbeats 1000000 in
theorem get8_sum (s : ByteArray) (v : Bool) (hi lo : Int) (v' : Bool) (hi' lo' : Int) (hA : BA hi lo hi' lo') (hs : s.size ≤ 1000000) (P : List UInt8) (hPe : pseudoL v hi lo v' hi' lo' 17 (wt s 4 : Nat) = P) (w : World) (h1 : 8 ≤ s.size) (h2 : 8 ≤ wt s 4) (h : wt s 4 ≤ s.size) (hP : P ≠ []) (h6 : wt s 6 ≠ 0) (h7 : sumL (P ++ s.data.toList.take (wt s 4)) ≠ 65535) : Calls Try.prog 9 #[.string s, .agg #[.bool v, .int .u64 hi, .int .u64 lo], .agg #[.bool v', .int .u64 hi', .int .u64 lo']] w fun e w' => e = .returned (.tuple #[.agg #[.int .i64 (spG s P v), .int .i64 (dpG s P v)], .string (payG8 s P v), .int .i64 (errG8 s P v)]) ∧ Below w.heap.size w w' := by
  have he : errG8 s P v = 4 := by unfold errG8; rw [if_neg (by omega), if_neg (by omega), if_neg (by omega), if_neg hP, if_neg h6, if_pos h7]
  obtain ⟨h1', h2', hp⟩ := headG8_no he (by omega)
  rw [h1', h2', hp, he]
  clear he h1' h2' hp
  have hex : (s.extract 0 (wt s 4)).data.toList = s.data.toList.take (wt s 4) := by rw [ext_str', List.drop_zero, Nat.sub_zero]
  have hez : (s.extract 0 (wt s 4)).size = wt s 4 := by rw [ByteArray.size_extract]; omega
  have hw4 := wt_le s 4
  have hPl : P.length ≤ 40 := by rw [← hPe]; exact (pseudoL_len _ _ _ _ _ _ _ _).1
  have SM := rightQ_any P (s.extract 0 (wt s 4)) (by omega)
  rw [hex] at SM
  have hq := nil_eq hP
  have f3 : (9223372036854775807 < P.length + wt s 4) = False := eq_false (by omega)
  have v1 : ¬ ((wt s 4 : Nat) : Int) < 8 := by omega
  have v2 : ¬ (s.size : Int) < (wt s 4 : Nat) := by omega
  have v3 : (((wt s 6 : Nat) : Int) == 0) = false := by simp; omega
  have v4 : (((wt s 6 : Nat) : Int) != 0) = true := by simp; omega
  have v5 : (((sumL (P ++ s.data.toList.take (wt s 4)) : Nat) : Int) == 65535) = false := by simp; omega
  rw [v5] at SM
  have SM := Lib.hid SM
  clear h2 h6 h7 hP v5 hex hez hPl
  have h40i : ¬ (s.size : Int) < 8 := by omega
  have hm : s.size ≤ maxLen := by unfold maxLen; omega
  have PS := pseudo4_any v hi lo v' hi' lo' 17 (wt s 4 : Nat) hA.a0 hA.a1 hA.b0 hA.b1 hA.c0 hA.c1 hA.d0 hA.d1
  have hPl : P.length ≤ 40 := by rw [← hPe]; exact (pseudoL_len _ _ _ _ _ _ _ _).1
  rw [hPe] at PS
  have PS := Lib.hid PS
  clear hPe
  have HX0 : Hid (Held3 w.heap.size (w.heap.size + 1 + 1) 33 #[.int .i64 (0), .int .i64 (0)] w.heap.size 26 #[.bool v, .int .u64 hi, .int .u64 lo] (w.heap.size + 1) 26 #[.bool v', .int .u64 hi', .int .u64 lo'] w (((w.alloc (.cells #[.bool v, .int .u64 hi, .int .u64 lo] 26)).alloc (.cells #[.bool v', .int .u64 hi', .int .u64 lo'] 26)).alloc (.cells #[.int .i64 (0), .int .i64 (0)] 33))) := by
    refine Lib.hid ⟨?_, ((HasB.new w _ _).alloc _).alloc _, ?_, (((Below.refl _ _).alloc (Nat.le_refl _) _).alloc (by simp) _).alloc (by simp; omega) _, by simp; omega⟩
    · have := HasB.new ((w.alloc (.cells #[.bool v, .int .u64 hi, .int .u64 lo] 26)).alloc (.cells #[.bool v', .int .u64 hi', .int .u64 lo'] 26)) 33 #[.int .i64 (0), .int .i64 (0)]
      simpa using this
    · have := (HasB.new (w.alloc (.cells #[.bool v, .int .u64 hi, .int .u64 lo] 26)) 26 #[.bool v', .int .u64 hi', .int .u64 lo']).alloc (.cells #[.int .i64 (0), .int .i64 (0)] 33)
      simpa using this
  go_enter Try.func9, Try.ntmps9
  go_wp2_with fail
  refine (new_any s _).mono ?_
  rintro e w1 ⟨rfl, rfl⟩
  go_wp2_with fail
  have HX : Hid (StU s 0 v hi lo v' hi' lo' w (((((w.alloc (.cells #[.bool v, .int .u64 hi, .int .u64 lo] 26)).alloc (.cells #[.bool v', .int .u64 hi', .int .u64 lo'] 26)).alloc (.cells #[.int .i64 (0), .int .i64 (0)] 33)).alloc (.cells #[.string s] 9)).alloc (.cells #[.pointer (some ⟨w.heap.size + 1 + 1 + 1, 0, none⟩)] 71))) := by
    refine Lib.hid ⟨(HX0.out.next ((Below.refl _ _).alloc (Nat.le_refl _) _)).next ((Below.refl _ _).alloc (Nat.le_refl _) _), ?_, ?_, by omega⟩
    · have := HasB.new ((((w.alloc (.cells #[.bool v, .int .u64 hi, .int .u64 lo] 26)).alloc (.cells #[.bool v', .int .u64 hi', .int .u64 lo'] 26)).alloc (.cells #[.int .i64 (0), .int .i64 (0)] 33)).alloc (.cells #[.string s] 9)) 71 #[.pointer (some ⟨w.heap.size + 1 + 1 + 1, 0, none⟩)]
      simpa using this
    · have := (HasB.new (((w.alloc (.cells #[.bool v, .int .u64 hi, .int .u64 lo] 26)).alloc (.cells #[.bool v', .int .u64 hi', .int .u64 lo'] 26)).alloc (.cells #[.int .i64 (0), .int .i64 (0)] 33)) 9 #[.string s]).alloc (.cells #[.pointer (some ⟨w.heap.size + 1 + 1 + 1, 0, none⟩)] 71)
      rw [show s.extract 0 s.size = s by apply ext_eq; rw [ext_str', List.drop_zero, Nat.sub_zero, size_list, List.take_length]]
      simpa using this
  clear HX0
  (with_reducible refine (num2_at (w.heap.size + 1 + 1 + 1 + 1) (w.heap.size + 1 + 1 + 1) s 0 _ HX.out.rd hm (by omega)).mono ?_)
  rintro e wa ⟨rfl, hr, hk⟩
  replace HX := Lib.hid (HX.out.next hr hk)
  clear hr hk
  go_wp2_with fail
  (with_reducible refine (num2_at (w.heap.size + 1 + 1 + 1 + 1) (w.heap.size + 1 + 1 + 1) s 2 _ HX.out.rd hm (by omega)).mono ?_)
  rintro e wa ⟨rfl, hr, hk⟩
  replace HX := Lib.hid (HX.out.next hr hk)
  clear hr hk
  have HF := HasB.new wa 33 #[.int .i64 ((wt s 0 : Nat)), .int .i64 ((wt s 2 : Nat))]
  have hwl := HX.out.2.1.lt
  obtain ⟨gF, hgF⟩ : ∃ g, g = wa.heap.size := ⟨_, rfl⟩
  replace HX := Lib.hid (HX.out.alloc (.cells #[.int .i64 ((wt s 0 : Nat)), .int .i64 ((wt s 2 : Nat))] 33))
  go_wp2_with fail
  rw [← hgF] at HF ⊢
  have HGF := Lib.hid hgF
  clear hgF
  (with_reducible refine (num2_at (w.heap.size + 1 + 1 + 1 + 1) (w.heap.size + 1 + 1 + 1) s 4 _ HX.out.rd hm (by omega)).mono ?_)
  rintro e wa ⟨rfl, hr, hk⟩
  replace HX := Lib.hid (HX.out.next hr hk)
  replace HF := HasB.kept HF hk (by have := HGF.out; omega)
  clear hr hk
  go_wp2_with fail
  (with_reducible refine (num2_at (w.heap.size + 1 + 1 + 1 + 1) (w.heap.size + 1 + 1 + 1) s 6 _ HX.out.rd hm (by omega)).mono ?_)
  rintro e wa ⟨rfl, hr, hk⟩
  replace HX := Lib.hid (HX.out.next hr hk)
  replace HF := HasB.kept HF hk (by have := HGF.out; omega)
  clear hr hk
  have k0 := HasB.cell HX.out.1.2.1 0 _ rfl
  have k1 := HasB.cell HX.out.1.2.1 1 _ rfl
  have k2 := HasB.cell HX.out.1.2.1 2 _ rfl
  have k3 := HasB.cell HX.out.1.2.2.1 0 _ rfl
  have k4 := HasB.cell HX.out.1.2.2.1 1 _ rfl
  have k5 := HasB.cell HX.out.1.2.2.1 2 _ rfl
  go_wp2_with fail
  (with_reducible refine (PS.out _).mono ?_)
  rintro e wb ⟨rfl, hb⟩
  replace HF := Lib.hid (HasB.below HF hb HF.lt)
  replace HX := Lib.hid (HX.out.1.next hb)
  clear hb k0 k1 k2 k3 k4 k5 hwl
  have k0 := HasB.cell HX.out.2.1 0 _ rfl
  have hro := HasB.rowOk HX.out.1 (n := 2) rfl
  go_wp2_with (first | (go_at_call 22; (with_reducible refine (SM.out _).mono ?_); rintro e wc ⟨rfl, hb⟩; replace HF := Lib.hid (HasB.below HF.out hb HF.out.lt); replace HX := Lib.hid (HX.out.next hb); clear hb k0 hro; have hro := HasB.rowOk HX.out.1 (n := 2) rfl) | fail)
  have HW := HasB.setRow HX.out.1 #[.int .i64 (0), .int .i64 (0)]; have HL := below_setRow HX.out.2.2.2.1 (show w.heap.size ≤ w.heap.size + 1 + 1 by omega) #[.int .i64 (0), .int .i64 (0)]; (try simp only [Exit.inBlock, Exit.then]); refine bodyPost_ret (v := .tuple #[.agg #[.int .i64 (0), .int .i64 (0)], .string ⟨#[]⟩, .int .i64 4]) (results_cell3 Try.results9 _ _ (w.heap.size + 1 + 1) _ _ rfl HW Try.underlying33 infoH8 rfl rfl) rfl ⟨rfl, HL⟩
end Go.Proofs.Ytkbfiikhflehaaa
