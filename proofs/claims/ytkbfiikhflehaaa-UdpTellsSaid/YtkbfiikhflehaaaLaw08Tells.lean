/- The law of udp against the reference: the walk. -/
import Derived.Test.YtkbfiikhflehaaaLaw08
namespace Go.Proofs.Ytkbfiikhflehaaa
open Go.RowKit Go.WideShapes
set_option linter.unusedVariables false
attribute [local go_sem ↓] Go.wp_at_zero Go.wp_at_succ

theorem bounds_u64' {n : Int} (h : (Lit.int .u64 n).wf = true) : 0 ≤ n ∧ n < 18446744073709551616 := by
  have := bounds_u64 h; omega
theorem fits8 {w : World} {a : Array Value} (h : Fits w (.two (.int .i64) (.two (.int .i64) .nil)) (Value.agg a).cells.toList) : ∃ x y : Int, a = #[.int .i64 (x), .int .i64 (y)] := by
  obtain ⟨c1, c2, e, _, ⟨x, rfl, _⟩, c3, c4, rfl, _, ⟨y, rfl, _⟩, rfl⟩ := h
  refine ⟨x, y, ?_⟩
  apply Array.toList_inj.1
  exact e
theorem fitsA {w : World} {a : Array Value} (h : Fits w (.two .bool (.two (.int .u64) (.two (.int .u64) .nil))) (Value.agg a).cells.toList) : ∃ (v : Bool) (hi lo : Int), a = #[.bool v, .int .u64 hi, .int .u64 lo] ∧ (0 ≤ hi ∧ hi < 18446744073709551616) ∧ 0 ≤ lo ∧ lo < 18446744073709551616 := by
  obtain ⟨d1, d2, e, _, ⟨v, rfl⟩, d3, d4, rfl, _, ⟨hi, rfl, hh⟩, d5, d6, rfl, _, ⟨lo, rfl, hl⟩, rfl⟩ := h
  refine ⟨v, hi, lo, ?_, bounds_u64' hh, bounds_u64' hl⟩
  apply Array.toList_inj.1
  exact e
theorem Held3.alloc {B g : Nat} {t : TypeId} {cs : Array Value} {g' : Nat} {t' : TypeId} {cs' : Array Value} {g2 : Nat} {t2 : TypeId} {cs2 : Array Value} {w0 w : World} (h : Held3 B g t cs g' t' cs' g2 t2 cs2 w0 w) (o : Obj) : Held3 B g t cs g' t' cs' g2 t2 cs2 w0 (w.alloc o) :=
  ⟨h.1.alloc o, h.2.1.alloc o, h.2.2.1.alloc o, h.2.2.2.1.alloc h.2.2.2.2 o, by rw [World.size_alloc]; have := h.2.2.2.2; omega⟩
theorem udp_big (K : UdpOK) (sp dp : Int) (v : Bool) (hi lo : Int) (v' : Bool) (hi' lo' : Int) (p s : ByteArray) (hn : small2 p s 200 = false) (w : World) :
    Calls Try.prog 3 #[.agg #[.int .i64 (sp), .int .i64 (dp)], .agg #[.bool v, .int .u64 hi, .int .u64 lo], .agg #[.bool v', .int .u64 hi', .int .u64 lo'], .string p, .string s] w fun e w' => e = .returned (.bool true) ∧ Below w.heap.size w w' := by
  have AW := Lib.hid (awake08 K)
  have HX : Hid (Held3 w.heap.size w.heap.size 23 #[.int .i64 (sp), .int .i64 (dp)] (w.heap.size + 1) 26 #[.bool v, .int .u64 hi, .int .u64 lo] (w.heap.size + 1 + 1) 26 #[.bool v', .int .u64 hi', .int .u64 lo'] w (((w.alloc (.cells #[.int .i64 (sp), .int .i64 (dp)] 23)).alloc (.cells #[.bool v, .int .u64 hi, .int .u64 lo] 26)).alloc (.cells #[.bool v', .int .u64 hi', .int .u64 lo'] 26))) := by
    refine Lib.hid ⟨((HasB.new w _ _).alloc _).alloc _, ?_, ?_, (((Below.refl _ _).alloc (Nat.le_refl _) _).alloc (by simp) _).alloc (by simp; omega) _, by simp; omega⟩
    · have := (HasB.new (w.alloc (.cells #[.int .i64 (sp), .int .i64 (dp)] 23)) 26 #[.bool v, .int .u64 hi, .int .u64 lo]).alloc (.cells #[.bool v', .int .u64 hi', .int .u64 lo'] 26)
      simpa using this
    · have := HasB.new ((w.alloc (.cells #[.int .i64 (sp), .int .i64 (dp)] 23)).alloc (.cells #[.bool v, .int .u64 hi, .int .u64 lo] 26)) 26 #[.bool v', .int .u64 hi', .int .u64 lo']
      simpa using this
  have hS := small2_any (w.heap.size + 1 + 1 + 1) 2 p s 200 (by omega)
  rw [hn, show ((200 : Nat) : Int) = 200 from rfl] at hS
  have HS := Lib.hid hS
  have HB : HasB (((((w.alloc (.cells #[.int .i64 (sp), .int .i64 (dp)] 23)).alloc (.cells #[.bool v, .int .u64 hi, .int .u64 lo] 26)).alloc (.cells #[.bool v', .int .u64 hi', .int .u64 lo'] 26))).alloc (.cells #[.string p, .string s] 9)) (w.heap.size + 1 + 1 + 1) 9 #[.string p, .string s] := by
    have := HasB.new (((w.alloc (.cells #[.int .i64 (sp), .int .i64 (dp)] 23)).alloc (.cells #[.bool v, .int .u64 hi, .int .u64 lo] 26)).alloc (.cells #[.bool v', .int .u64 hi', .int .u64 lo'] 26)) 9 #[.string p, .string s]
    simpa using this
  clear hS
  go_enter Try.func3, Try.ntmps3
  go_wp2_with fail
  (with_reducible refine (HS.out _ (HasB.cell HB 0 _ rfl) (HasB.cell HB 1 _ rfl)).mono ?_)
  rintro e wq ⟨rfl, hwq⟩
  replace HX := Lib.hid (HX.out.alloc (.cells #[.string p, .string s] 9))
  rw [hwq] at HX
  clear HB HS hwq
  go_wp2_with (first | (go_at_call 6; (with_reducible refine (AW.out _).mono ?_); rintro e wz ⟨rfl, hb⟩; replace HX := Lib.hid (HX.out.next hb); clear hb) | fail)
  go_ret
  exact ⟨rfl, HX.out.2.2.2.1⟩
set_option maxHeartbeats 4000000 in
theorem udp_small (K : UdpOK) (sp dp : Int) (v : Bool) (hi lo : Int) (v' : Bool) (hi' lo' : Int) (p s : ByteArray) (hA : BA hi lo hi' lo') (hn : small2 p s 200 = true) (w : World) :
    Calls Try.prog 3 #[.agg #[.int .i64 (sp), .int .i64 (dp)], .agg #[.bool v, .int .u64 hi, .int .u64 lo], .agg #[.bool v', .int .u64 hi', .int .u64 lo'], .string p, .string s] w fun e w' => e = .returned (.bool true) ∧ Below w.heap.size w w' := by
  have AW := Lib.hid (awake08 K)
  obtain ⟨n1, n2⟩ := of_decide_eq_true hn
  have P1 := Lib.hid (K.put sp dp v hi lo v' hi' lo' p hA (by omega) _ rfl)
  have P2 := Lib.hid (R08.put_any sp dp v hi lo v' hi' lo' p hA (by omega) _ rfl)
  have G1 := Lib.hid (K.get s v hi lo v' hi' lo' hA (by omega) _ rfl)
  have G2 := Lib.hid (R08.get_any s v hi lo v' hi' lo' hA (by omega) _ rfl)
  generalize pseudoL v hi lo v' hi' lo' 17 (8 + (p.size : Int)) = Pa at P1 P2
  generalize pseudoL v hi lo v' hi' lo' 17 (wt s 4 : Nat) = Pb at G1 G2
  generalize out8 sp dp Pa p = O at P1 P2
  generalize err8 sp dp Pa p = E at P1 P2
  generalize spG s Pb v = a at G1 G2
  generalize dpG s Pb v = b at G1 G2
  generalize payG8 s Pb v = y at G1 G2
  generalize errG8 s Pb v = E2 at G1 G2
  clear hA n1 n2 K
  have HX : Hid (Held3 w.heap.size w.heap.size 23 #[.int .i64 (sp), .int .i64 (dp)] (w.heap.size + 1) 26 #[.bool v, .int .u64 hi, .int .u64 lo] (w.heap.size + 1 + 1) 26 #[.bool v', .int .u64 hi', .int .u64 lo'] w (((w.alloc (.cells #[.int .i64 (sp), .int .i64 (dp)] 23)).alloc (.cells #[.bool v, .int .u64 hi, .int .u64 lo] 26)).alloc (.cells #[.bool v', .int .u64 hi', .int .u64 lo'] 26))) := by
    refine Lib.hid ⟨((HasB.new w _ _).alloc _).alloc _, ?_, ?_, (((Below.refl _ _).alloc (Nat.le_refl _) _).alloc (by simp) _).alloc (by simp; omega) _, by simp; omega⟩
    · have := (HasB.new (w.alloc (.cells #[.int .i64 (sp), .int .i64 (dp)] 23)) 26 #[.bool v, .int .u64 hi, .int .u64 lo]).alloc (.cells #[.bool v', .int .u64 hi', .int .u64 lo'] 26)
      simpa using this
    · have := HasB.new ((w.alloc (.cells #[.int .i64 (sp), .int .i64 (dp)] 23)).alloc (.cells #[.bool v, .int .u64 hi, .int .u64 lo] 26)) 26 #[.bool v', .int .u64 hi', .int .u64 lo']
      simpa using this
  have hS := small2_any (w.heap.size + 1 + 1 + 1) 2 p s 200 (by omega)
  rw [hn, show ((200 : Nat) : Int) = 200 from rfl] at hS
  have HS := Lib.hid hS
  have HB : HasB (((((w.alloc (.cells #[.int .i64 (sp), .int .i64 (dp)] 23)).alloc (.cells #[.bool v, .int .u64 hi, .int .u64 lo] 26)).alloc (.cells #[.bool v', .int .u64 hi', .int .u64 lo'] 26))).alloc (.cells #[.string p, .string s] 9)) (w.heap.size + 1 + 1 + 1) 9 #[.string p, .string s] := by
    have := HasB.new (((w.alloc (.cells #[.int .i64 (sp), .int .i64 (dp)] 23)).alloc (.cells #[.bool v, .int .u64 hi, .int .u64 lo] 26)).alloc (.cells #[.bool v', .int .u64 hi', .int .u64 lo'] 26)) 9 #[.string p, .string s]
    simpa using this
  clear hS
  go_enter Try.func3, Try.ntmps3
  go_wp2_with fail
  (with_reducible refine (HS.out _ (HasB.cell HB 0 _ rfl) (HasB.cell HB 1 _ rfl)).mono ?_)
  rintro e wq ⟨rfl, hwq⟩
  replace HX := Lib.hid (HX.out.alloc (.cells #[.string p, .string s] 9))
  rw [hwq] at HX
  clear HB HS hwq
  (obtain ⟨k0, k1, d0, d1, d2, e0, e1, e2⟩ := R08.cells8U HX.out)
  go_wp2_with (first | (go_at_call 7; (with_reducible refine (P1.out _).mono ?_); rintro e wa ⟨rfl, hb⟩; (clear k0 k1 d0 d1 d2 e0 e1 e2); replace HX := Lib.hid (HX.out.next hb); clear hb; (obtain ⟨k0, k1, d0, d1, d2, e0, e1, e2⟩ := R08.cells8U HX.out)) | (go_at_call 8; (with_reducible refine (P2.out _).mono ?_); rintro e wa ⟨rfl, hb⟩; (clear k0 k1 d0 d1 d2 e0 e1 e2); replace HX := Lib.hid (HX.out.next hb); clear hb; (obtain ⟨k0, k1, d0, d1, d2, e0, e1, e2⟩ := R08.cells8U HX.out)) | (go_at_call 9; (with_reducible refine (G1.out _).mono ?_); rintro e wx ⟨rfl, hb⟩; (clear k0 k1 d0 d1 d2 e0 e1 e2); replace HX := Lib.hid ((HX.out.next hb).alloc (.cells #[.int .i64 (a), .int .i64 (b)] 33)); have hX := HasB.new wx 33 #[.int .i64 (a), .int .i64 (b)]; clear hb; (obtain ⟨k0, k1, d0, d1, d2, e0, e1, e2⟩ := R08.cells8U HX.out)) | (go_at_call 10; (with_reducible refine (G2.out _).mono ?_); rintro e wy ⟨rfl, hb⟩; (clear k0 k1 d0 d1 d2 e0 e1 e2); replace HX := Lib.hid ((HX.out.next hb).alloc (.cells #[.int .i64 (a), .int .i64 (b)] 23)); replace hX := (HasB.below hX hb hX.lt).alloc (.cells #[.int .i64 (a), .int .i64 (b)] 23); have hY := HasB.new wy 23 #[.int .i64 (a), .int .i64 (b)]; have x0 := HasB.cell hX 0 _ rfl; have x1 := HasB.cell hX 1 _ rfl; have y0 := HasB.cell hY 0 _ rfl; have y1 := HasB.cell hY 1 _ rfl; clear hb) | (go_at_call 6; (with_reducible refine (AW.out _).mono ?_); rintro e wz ⟨rfl, hb⟩; replace HX := Lib.hid (HX.out.next hb); clear hb) | fail)
  go_ret
  exact ⟨rfl, HX.out.2.2.2.1⟩
/-- The law's walk. -/
theorem udpTells_any (K : UdpOK) (a b c : Array Value) (p s : ByteArray) (w : World) (fa : Fits w (.two (.int .i64) (.two (.int .i64) .nil)) (Value.agg a).cells.toList) (fb : Fits w (.two .bool (.two (.int .u64) (.two (.int .u64) .nil))) (Value.agg b).cells.toList) (fc : Fits w (.two .bool (.two (.int .u64) (.two (.int .u64) .nil))) (Value.agg c).cells.toList) :
    Calls Try.prog 3 #[.agg a, .agg b, .agg c, .string p, .string s] w fun e w' => e = .returned (.bool true) ∧ Below w.heap.size w w' := by
  obtain ⟨sp, dp, rfl⟩ := fits8 fa
  obtain ⟨v, hi, lo, rfl, ⟨a0, a1⟩, b0, b1⟩ := fitsA fb
  obtain ⟨v', hi', lo', rfl, ⟨c0, c1⟩, d0, d1⟩ := fitsA fc
  cases hn : small2 p s 200 with
  | false => exact udp_big K sp dp v hi lo v' hi' lo' p s hn w
  | true => exact udp_small K sp dp v hi lo v' hi' lo' p s ⟨a0, a1, b0, b1, c0, c1, d0, d1⟩ hn w
end Go.Proofs.Ytkbfiikhflehaaa
