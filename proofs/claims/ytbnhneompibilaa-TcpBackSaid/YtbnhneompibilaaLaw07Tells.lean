/- The law of tcp's bytes against the reference: the walk. -/
import Derived.Test.YtbnhneompibilaaLaw07Awake
namespace Go.Proofs.Ytbnhneompibilaa
open Go.RowKit Go.WideShapes
set_option linter.unusedVariables false
attribute [local go_sem ↓] ldH7 stH7 ldR7 stR7
attribute [local go_sem] rowAt_p rowOkAt_p setAt_p aggOf_a rowOk_new rowOf_new setRow_new agg7 aggT7
attribute [local go_sem ↓] Go.wp_at_zero Go.wp_at_succ

theorem bounds_u64' {n : Int} (h : (Lit.int .u64 n).wf = true) : 0 ≤ n ∧ n < 18446744073709551616 := by
  have := bounds_u64 h; omega
theorem bounds_u32' {n : Int} (h : (Lit.int .u32 n).wf = true) : 0 ≤ n ∧ n < 4294967296 := by
  have := bounds_u32 h; omega
theorem fits7 {w : World} {a : Array Value} (h : Fits w (.two (.int .i64) (.two (.int .i64) (.two (.int .u32) (.two (.int .u32) (.two (.int .i64) (.two (.int .i64) (.two (.int .i64) (.two .str .nil)))))))) (Value.agg a).cells.toList) : ∃ h : T7, a = #[.int .i64 h.sp, .int .i64 h.dp, .int .u32 h.sq, .int .u32 h.ak, .int .i64 h.fl, .int .i64 h.wn, .int .i64 h.ur, .string h.op] ∧ B7 h ∧ h.op.size ≤ maxLen := by
  obtain ⟨c1, c2, e, _, ⟨sp, rfl, _⟩, c3, c4, rfl, _, ⟨dp, rfl, _⟩, c5, c6, rfl, _, ⟨sq, rfl, hsq⟩, c7, c8, rfl, _, ⟨ak, rfl, hak⟩, c9, c10, rfl, _, ⟨fl, rfl, _⟩, c11, c12, rfl, _, ⟨wn, rfl, _⟩, c13, c14, rfl, _, ⟨ur, rfl, _⟩, c15, c16, rfl, _, ⟨op, rfl, ho⟩, rfl⟩ := h
  have b1 := bounds_u32' hsq
  have b2 := bounds_u32' hak
  refine ⟨⟨sp, dp, sq, ak, fl, wn, ur, op⟩, ?_, ⟨b1.1, b1.2, b2.1, b2.2⟩, ho⟩
  apply Array.toList_inj.1
  exact e
theorem fitsA {w : World} {a : Array Value} (h : Fits w (.two .bool (.two (.int .u64) (.two (.int .u64) .nil))) (Value.agg a).cells.toList) : ∃ (v : Bool) (hi lo : Int), a = #[.bool v, .int .u64 hi, .int .u64 lo] ∧ (0 ≤ hi ∧ hi < 18446744073709551616) ∧ 0 ≤ lo ∧ lo < 18446744073709551616 := by
  obtain ⟨d1, d2, e, _, ⟨v, rfl⟩, d3, d4, rfl, _, ⟨hi, rfl, hh⟩, d5, d6, rfl, _, ⟨lo, rfl, hl⟩, rfl⟩ := h
  refine ⟨v, hi, lo, ?_, bounds_u64' hh, bounds_u64' hl⟩
  apply Array.toList_inj.1
  exact e
theorem Held2.cells16 {B g g' : Nat} {t t' : TypeId} {x y : T7} {w0 w : World} (H : Held2 B g t #[.int .i64 x.sp, .int .i64 x.dp, .int .u32 x.sq, .int .u32 x.ak, .int .i64 x.fl, .int .i64 x.wn, .int .i64 x.ur, .string x.op] g' t' #[.int .i64 y.sp, .int .i64 y.dp, .int .u32 y.sq, .int .u32 y.ak, .int .i64 y.fl, .int .i64 y.wn, .int .i64 y.ur, .string y.op] w0 w) : w.cell? ⟨g, 0, none⟩ = some (.int .i64 x.sp) ∧ w.cell? ⟨g, 1, none⟩ = some (.int .i64 x.dp) ∧ w.cell? ⟨g, 2, none⟩ = some (.int .u32 x.sq) ∧ w.cell? ⟨g, 3, none⟩ = some (.int .u32 x.ak) ∧ w.cell? ⟨g, 4, none⟩ = some (.int .i64 x.fl) ∧ w.cell? ⟨g, 5, none⟩ = some (.int .i64 x.wn) ∧ w.cell? ⟨g, 6, none⟩ = some (.int .i64 x.ur) ∧ w.cell? ⟨g, 7, none⟩ = some (.string x.op) ∧ w.cell? ⟨g', 0, none⟩ = some (.int .i64 y.sp) ∧ w.cell? ⟨g', 1, none⟩ = some (.int .i64 y.dp) ∧ w.cell? ⟨g', 2, none⟩ = some (.int .u32 y.sq) ∧ w.cell? ⟨g', 3, none⟩ = some (.int .u32 y.ak) ∧ w.cell? ⟨g', 4, none⟩ = some (.int .i64 y.fl) ∧ w.cell? ⟨g', 5, none⟩ = some (.int .i64 y.wn) ∧ w.cell? ⟨g', 6, none⟩ = some (.int .i64 y.ur) ∧ w.cell? ⟨g', 7, none⟩ = some (.string y.op) :=
  ⟨HasB.cell H.1 0 _ rfl, HasB.cell H.1 1 _ rfl, HasB.cell H.1 2 _ rfl, HasB.cell H.1 3 _ rfl, HasB.cell H.1 4 _ rfl, HasB.cell H.1 5 _ rfl, HasB.cell H.1 6 _ rfl, HasB.cell H.1 7 _ rfl,
    HasB.cell H.2.1 0 _ rfl, HasB.cell H.2.1 1 _ rfl, HasB.cell H.2.1 2 _ rfl, HasB.cell H.2.1 3 _ rfl, HasB.cell H.2.1 4 _ rfl, HasB.cell H.2.1 5 _ rfl, HasB.cell H.2.1 6 _ rfl, HasB.cell H.2.1 7 _ rfl⟩
theorem Held3.alloc {B g : Nat} {t : TypeId} {cs : Array Value} {g' : Nat} {t' : TypeId} {cs' : Array Value} {g2 : Nat} {t2 : TypeId} {cs2 : Array Value} {w0 w : World} (h : Held3 B g t cs g' t' cs' g2 t2 cs2 w0 w) (o : Obj) : Held3 B g t cs g' t' cs' g2 t2 cs2 w0 (w.alloc o) :=
  ⟨h.1.alloc o, h.2.1.alloc o, h.2.2.1.alloc o, h.2.2.2.1.alloc h.2.2.2.2 o, by rw [World.size_alloc]; have := h.2.2.2.2; omega⟩
set_option maxHeartbeats 4000000 in
theorem tells_big (K : TcpOK) (h : T7) (v : Bool) (hi lo : Int) (v' : Bool) (hi' lo' : Int) (p s : ByteArray) (hn : small3 h.op p s 200 = false) (w : World) :
    Calls Try.prog 3 #[.agg #[.int .i64 h.sp, .int .i64 h.dp, .int .u32 h.sq, .int .u32 h.ak, .int .i64 h.fl, .int .i64 h.wn, .int .i64 h.ur, .string h.op], .agg #[.bool v, .int .u64 hi, .int .u64 lo], .agg #[.bool v', .int .u64 hi', .int .u64 lo'], .string p, .string s] w fun e w' => e = .returned (.bool true) ∧ Below w.heap.size w w' := by
  have AW := Lib.hid (awake07 K)
  have HX : Hid (Held3 w.heap.size w.heap.size 24 #[.int .i64 h.sp, .int .i64 h.dp, .int .u32 h.sq, .int .u32 h.ak, .int .i64 h.fl, .int .i64 h.wn, .int .i64 h.ur, .string h.op] (w.heap.size + 1) 27 #[.bool v, .int .u64 hi, .int .u64 lo] (w.heap.size + 1 + 1) 27 #[.bool v', .int .u64 hi', .int .u64 lo'] w (((w.alloc (.cells #[.int .i64 h.sp, .int .i64 h.dp, .int .u32 h.sq, .int .u32 h.ak, .int .i64 h.fl, .int .i64 h.wn, .int .i64 h.ur, .string h.op] 24)).alloc (.cells #[.bool v, .int .u64 hi, .int .u64 lo] 27)).alloc (.cells #[.bool v', .int .u64 hi', .int .u64 lo'] 27))) := by
    refine Lib.hid ⟨((HasB.new w _ _).alloc _).alloc _, ?_, ?_, (((Below.refl _ _).alloc (Nat.le_refl _) _).alloc (by simp) _).alloc (by simp; omega) _, by simp; omega⟩
    · have := (HasB.new (w.alloc (.cells #[.int .i64 h.sp, .int .i64 h.dp, .int .u32 h.sq, .int .u32 h.ak, .int .i64 h.fl, .int .i64 h.wn, .int .i64 h.ur, .string h.op] 24)) 27 #[.bool v, .int .u64 hi, .int .u64 lo]).alloc (.cells #[.bool v', .int .u64 hi', .int .u64 lo'] 27)
      simpa using this
    · have := HasB.new ((w.alloc (.cells #[.int .i64 h.sp, .int .i64 h.dp, .int .u32 h.sq, .int .u32 h.ak, .int .i64 h.fl, .int .i64 h.wn, .int .i64 h.ur, .string h.op] 24)).alloc (.cells #[.bool v, .int .u64 hi, .int .u64 lo] 27)) 27 #[.bool v', .int .u64 hi', .int .u64 lo']
      simpa using this
  obtain ⟨k0, k1, k2, k3, k4, k5, k6, c7, d0, d1, d2, e0, e1, e2⟩ := R07.cells14 HX.out
  have hS := small_any (w.heap.size + 1 + 1 + 1) 3 h.op p s 200 (by omega)
  rw [hn, show ((200 : Nat) : Int) = 200 from rfl] at hS
  have HS := Lib.hid hS
  have HB : HasB (((((w.alloc (.cells #[.int .i64 h.sp, .int .i64 h.dp, .int .u32 h.sq, .int .u32 h.ak, .int .i64 h.fl, .int .i64 h.wn, .int .i64 h.ur, .string h.op] 24)).alloc (.cells #[.bool v, .int .u64 hi, .int .u64 lo] 27)).alloc (.cells #[.bool v', .int .u64 hi', .int .u64 lo'] 27))).alloc (.cells #[.string h.op, .string p, .string s] 9)) (w.heap.size + 1 + 1 + 1) 9 #[.string h.op, .string p, .string s] := by
    have := HasB.new (((w.alloc (.cells #[.int .i64 h.sp, .int .i64 h.dp, .int .u32 h.sq, .int .u32 h.ak, .int .i64 h.fl, .int .i64 h.wn, .int .i64 h.ur, .string h.op] 24)).alloc (.cells #[.bool v, .int .u64 hi, .int .u64 lo] 27)).alloc (.cells #[.bool v', .int .u64 hi', .int .u64 lo'] 27)) 9 #[.string h.op, .string p, .string s]
    simpa using this
  clear hS k0 k1 k2 k3 k4 k5 k6 d0 d1 d2 e0 e1 e2
  go_enter Try.func3, Try.ntmps3
  go_wp2_with fail
  (with_reducible refine (HS.out _ (HasB.cell HB 0 _ rfl) (HasB.cell HB 1 _ rfl) (HasB.cell HB 2 _ rfl)).mono ?_)
  rintro e wq ⟨rfl, hwq⟩
  replace HX := Lib.hid (HX.out.alloc (.cells #[.string h.op, .string p, .string s] 9))
  rw [hwq] at HX
  clear HB HS c7 hwq
  go_wp2_with (first | (go_at_call 7; (with_reducible refine (AW.out _).mono ?_); rintro e w1 ⟨rfl, hb1⟩; replace HX := Lib.hid (HX.out.next hb1)) | fail)
  go_ret
  exact ⟨rfl, HX.out.2.2.2.1⟩
set_option maxHeartbeats 4000000 in
theorem tells_small (K : TcpOK) (h : T7) (v : Bool) (hi lo : Int) (v' : Bool) (hi' lo' : Int) (p s : ByteArray) (hb7 : B7 h) (hA : BA hi lo hi' lo') (hn : small3 h.op p s 200 = true) (w : World) :
    Calls Try.prog 3 #[.agg #[.int .i64 h.sp, .int .i64 h.dp, .int .u32 h.sq, .int .u32 h.ak, .int .i64 h.fl, .int .i64 h.wn, .int .i64 h.ur, .string h.op], .agg #[.bool v, .int .u64 hi, .int .u64 lo], .agg #[.bool v', .int .u64 hi', .int .u64 lo'], .string p, .string s] w fun e w' => e = .returned (.bool true) ∧ Below w.heap.size w w' := by
  have AW := Lib.hid (awake07 K)
  obtain ⟨n1, n2, n3⟩ := of_decide_eq_true hn
  have P1 := Lib.hid (K.put h v hi lo v' hi' lo' p hb7 hA (by omega) (by omega) _ rfl)
  have P2 := Lib.hid (R07.put_any h v hi lo v' hi' lo' p hb7 hA (by omega) (by omega) _ rfl)
  have G1 := Lib.hid (K.get s v hi lo v' hi' lo' hA (by omega) _ rfl)
  have G2 := Lib.hid (R07.get_any s v hi lo v' hi' lo' hA (by omega) _ rfl)
  generalize pseudoL v hi lo v' hi' lo' 6 (20 + (h.op.size : Int) + (p.size : Int)) = Pa at P1 P2
  generalize pseudoL v hi lo v' hi' lo' 6 (s.size : Int) = Pb at G1 G2
  generalize out7 h Pa p = O at P1 P2
  generalize err7 h Pa p = E at P1 P2
  generalize headG7 s Pb = g at G1 G2
  generalize payG7 s Pb = y at G1 G2
  generalize errG7 s Pb = E2 at G1 G2
  clear hb7 hA n1 n2 n3 K
  have HX : Hid (Held3 w.heap.size w.heap.size 24 #[.int .i64 h.sp, .int .i64 h.dp, .int .u32 h.sq, .int .u32 h.ak, .int .i64 h.fl, .int .i64 h.wn, .int .i64 h.ur, .string h.op] (w.heap.size + 1) 27 #[.bool v, .int .u64 hi, .int .u64 lo] (w.heap.size + 1 + 1) 27 #[.bool v', .int .u64 hi', .int .u64 lo'] w (((w.alloc (.cells #[.int .i64 h.sp, .int .i64 h.dp, .int .u32 h.sq, .int .u32 h.ak, .int .i64 h.fl, .int .i64 h.wn, .int .i64 h.ur, .string h.op] 24)).alloc (.cells #[.bool v, .int .u64 hi, .int .u64 lo] 27)).alloc (.cells #[.bool v', .int .u64 hi', .int .u64 lo'] 27))) := by
    refine Lib.hid ⟨((HasB.new w _ _).alloc _).alloc _, ?_, ?_, (((Below.refl _ _).alloc (Nat.le_refl _) _).alloc (by simp) _).alloc (by simp; omega) _, by simp; omega⟩
    · have := (HasB.new (w.alloc (.cells #[.int .i64 h.sp, .int .i64 h.dp, .int .u32 h.sq, .int .u32 h.ak, .int .i64 h.fl, .int .i64 h.wn, .int .i64 h.ur, .string h.op] 24)) 27 #[.bool v, .int .u64 hi, .int .u64 lo]).alloc (.cells #[.bool v', .int .u64 hi', .int .u64 lo'] 27)
      simpa using this
    · have := HasB.new ((w.alloc (.cells #[.int .i64 h.sp, .int .i64 h.dp, .int .u32 h.sq, .int .u32 h.ak, .int .i64 h.fl, .int .i64 h.wn, .int .i64 h.ur, .string h.op] 24)).alloc (.cells #[.bool v, .int .u64 hi, .int .u64 lo] 27)) 27 #[.bool v', .int .u64 hi', .int .u64 lo']
      simpa using this
  obtain ⟨k0, k1, k2, k3, k4, k5, k6, c7, d0, d1, d2, e0, e1, e2⟩ := R07.cells14 HX.out
  have hS := small_any (w.heap.size + 1 + 1 + 1) 3 h.op p s 200 (by omega)
  rw [hn, show ((200 : Nat) : Int) = 200 from rfl] at hS
  have HS := Lib.hid hS
  have HB : HasB (((((w.alloc (.cells #[.int .i64 h.sp, .int .i64 h.dp, .int .u32 h.sq, .int .u32 h.ak, .int .i64 h.fl, .int .i64 h.wn, .int .i64 h.ur, .string h.op] 24)).alloc (.cells #[.bool v, .int .u64 hi, .int .u64 lo] 27)).alloc (.cells #[.bool v', .int .u64 hi', .int .u64 lo'] 27))).alloc (.cells #[.string h.op, .string p, .string s] 9)) (w.heap.size + 1 + 1 + 1) 9 #[.string h.op, .string p, .string s] := by
    have := HasB.new (((w.alloc (.cells #[.int .i64 h.sp, .int .i64 h.dp, .int .u32 h.sq, .int .u32 h.ak, .int .i64 h.fl, .int .i64 h.wn, .int .i64 h.ur, .string h.op] 24)).alloc (.cells #[.bool v, .int .u64 hi, .int .u64 lo] 27)).alloc (.cells #[.bool v', .int .u64 hi', .int .u64 lo'] 27)) 9 #[.string h.op, .string p, .string s]
    simpa using this
  clear hS k0 k1 k2 k3 k4 k5 k6 d0 d1 d2 e0 e1 e2
  go_enter Try.func3, Try.ntmps3
  go_wp2_with fail
  (with_reducible refine (HS.out _ (HasB.cell HB 0 _ rfl) (HasB.cell HB 1 _ rfl) (HasB.cell HB 2 _ rfl)).mono ?_)
  rintro e wq ⟨rfl, hwq⟩
  replace HX := Lib.hid (HX.out.alloc (.cells #[.string h.op, .string p, .string s] 9))
  rw [hwq] at HX
  clear HB HS c7 hwq
  go_wp2_with fail
  replace HX := Lib.hid HX.out.drew
  go_region_held3 (fun w' => w'.cell? ⟨w.heap.size, 0, none⟩ = some (.int .i64 h.sp) ∧ w'.cell? ⟨w.heap.size, 1, none⟩ = some (.int .i64 h.dp) ∧ w'.cell? ⟨w.heap.size, 2, none⟩ = some (.int .u32 h.sq) ∧ w'.cell? ⟨w.heap.size, 3, none⟩ = some (.int .u32 h.ak) ∧ w'.cell? ⟨w.heap.size, 4, none⟩ = some (.int .i64 h.fl) ∧ w'.cell? ⟨w.heap.size, 5, none⟩ = some (.int .i64 h.wn) ∧ w'.cell? ⟨w.heap.size, 6, none⟩ = some (.int .i64 h.ur) ∧ w'.cell? ⟨w.heap.size, 7, none⟩ = some (.string h.op) ∧ w'.cell? ⟨w.heap.size + 1, 0, none⟩ = some (.bool v) ∧ w'.cell? ⟨w.heap.size + 1, 1, none⟩ = some (.int .u64 hi) ∧ w'.cell? ⟨w.heap.size + 1, 2, none⟩ = some (.int .u64 lo) ∧ w'.cell? ⟨w.heap.size + 1 + 1, 0, none⟩ = some (.bool v') ∧ w'.cell? ⟨w.heap.size + 1 + 1, 1, none⟩ = some (.int .u64 hi') ∧ w'.cell? ⟨w.heap.size + 1 + 1, 2, none⟩ = some (.int .u64 lo')) (exact R07.cells14 HX.out) (first | (go_at_call 9; (with_reducible refine (of7_any h _).mono ?_); rintro e wa ⟨rfl, hb⟩; replace HX := Lib.hid (HX.out.next hb); clear hb) | (go_at_call 8; (with_reducible refine (P1.out _).mono ?_); rintro e wa ⟨rfl, hb⟩; replace HX := Lib.hid (HX.out.next hb); clear hb))
  all_goals
    (obtain ⟨k0, k1, k2, k3, k4, k5, k6, k7, d0, d1, d2, e0, e1, e2⟩ := R07.cells14 HX.out; have hro := HasB.rowOk HX.out.1 (n := 8) rfl; have hrw := HasB.rowOf HX.out.1)
    go_wp2_with (first | (go_at_call 10; (with_reducible refine (P2.out _).mono ?_); rintro e wa ⟨rfl, hb⟩; (clear k0 k1 k2 k3 k4 k5 k6 k7 d0 d1 d2 e0 e1 e2 hro hrw); replace HX := Lib.hid (HX.out.next hb); clear hb; (obtain ⟨k0, k1, k2, k3, k4, k5, k6, k7, d0, d1, d2, e0, e1, e2⟩ := R07.cells14 HX.out; have hro := HasB.rowOk HX.out.1 (n := 8) rfl; have hrw := HasB.rowOf HX.out.1)) | (go_at_call 11; (with_reducible refine (G1.out _).mono ?_); rintro e wx ⟨rfl, hb⟩; (clear k0 k1 k2 k3 k4 k5 k6 k7 d0 d1 d2 e0 e1 e2 hro hrw); replace HX := Lib.hid ((HX.out.next hb).alloc (.cells #[.int .i64 g.sp, .int .i64 g.dp, .int .u32 g.sq, .int .u32 g.ak, .int .i64 g.fl, .int .i64 g.wn, .int .i64 g.ur, .string g.op] 34)); have hX := HasB.new wx 34 #[.int .i64 g.sp, .int .i64 g.dp, .int .u32 g.sq, .int .u32 g.ak, .int .i64 g.fl, .int .i64 g.wn, .int .i64 g.ur, .string g.op]; clear hb; (obtain ⟨k0, k1, k2, k3, k4, k5, k6, k7, d0, d1, d2, e0, e1, e2⟩ := R07.cells14 HX.out; have hro := HasB.rowOk HX.out.1 (n := 8) rfl; have hrw := HasB.rowOf HX.out.1)) | (go_at_call 12; (with_reducible refine (G2.out _).mono ?_); rintro e wy ⟨rfl, hb⟩; (clear k0 k1 k2 k3 k4 k5 k6 k7 d0 d1 d2 e0 e1 e2 hro hrw); replace HX := Lib.hid ((HX.out.next hb).alloc (.cells #[.int .i64 g.sp, .int .i64 g.dp, .int .u32 g.sq, .int .u32 g.ak, .int .i64 g.fl, .int .i64 g.wn, .int .i64 g.ur, .string g.op] 24)); replace hX := (HasB.below hX hb hX.lt).alloc (.cells #[.int .i64 g.sp, .int .i64 g.dp, .int .u32 g.sq, .int .u32 g.ak, .int .i64 g.fl, .int .i64 g.wn, .int .i64 g.ur, .string g.op] 24); have hY := HasB.new wy 24 #[.int .i64 g.sp, .int .i64 g.dp, .int .u32 g.sq, .int .u32 g.ak, .int .i64 g.fl, .int .i64 g.wn, .int .i64 g.ur, .string g.op]; clear hb) | fail)
    have HZ : Hid (Held2 w.heap.size wx.heap.size 34 #[.int .i64 g.sp, .int .i64 g.dp, .int .u32 g.sq, .int .u32 g.ak, .int .i64 g.fl, .int .i64 g.wn, .int .i64 g.ur, .string g.op] wy.heap.size 24 #[.int .i64 g.sp, .int .i64 g.dp, .int .u32 g.sq, .int .u32 g.ak, .int .i64 g.fl, .int .i64 g.wn, .int .i64 g.ur, .string g.op] w _) := Lib.hid (Held2.drew ⟨hX, hY, HX.out.2.2.2.1, HX.out.2.2.2.1.size⟩)
    clear HX hX hY
    go_region_held3 (fun w' => w'.cell? ⟨wx.heap.size, 0, none⟩ = some (.int .i64 g.sp) ∧ w'.cell? ⟨wx.heap.size, 1, none⟩ = some (.int .i64 g.dp) ∧ w'.cell? ⟨wx.heap.size, 2, none⟩ = some (.int .u32 g.sq) ∧ w'.cell? ⟨wx.heap.size, 3, none⟩ = some (.int .u32 g.ak) ∧ w'.cell? ⟨wx.heap.size, 4, none⟩ = some (.int .i64 g.fl) ∧ w'.cell? ⟨wx.heap.size, 5, none⟩ = some (.int .i64 g.wn) ∧ w'.cell? ⟨wx.heap.size, 6, none⟩ = some (.int .i64 g.ur) ∧ w'.cell? ⟨wx.heap.size, 7, none⟩ = some (.string g.op) ∧ w'.cell? ⟨wy.heap.size, 0, none⟩ = some (.int .i64 g.sp) ∧ w'.cell? ⟨wy.heap.size, 1, none⟩ = some (.int .i64 g.dp) ∧ w'.cell? ⟨wy.heap.size, 2, none⟩ = some (.int .u32 g.sq) ∧ w'.cell? ⟨wy.heap.size, 3, none⟩ = some (.int .u32 g.ak) ∧ w'.cell? ⟨wy.heap.size, 4, none⟩ = some (.int .i64 g.fl) ∧ w'.cell? ⟨wy.heap.size, 5, none⟩ = some (.int .i64 g.wn) ∧ w'.cell? ⟨wy.heap.size, 6, none⟩ = some (.int .i64 g.ur) ∧ w'.cell? ⟨wy.heap.size, 7, none⟩ = some (.string g.op)) (exact HZ.out.cells16) (first | (go_at_call 13; (with_reducible refine (back7_any g _).mono ?_); rintro e wa ⟨rfl, hb⟩; replace HZ := Lib.hid (HZ.out.next hb); clear hb) | (go_at_call 7; (with_reducible refine (AW.out _).mono ?_); rintro e wa ⟨rfl, hb⟩; replace HZ := Lib.hid (HZ.out.next hb); clear hb))
    all_goals
      have HD := Lib.hid HZ.out.2.2.1
      clear HZ
      go_wp2
      go_ret
      exact ⟨rfl, HD.out⟩
/-- The law's walk. -/
theorem tcpTells_any (K : TcpOK) (a b c : Array Value) (p s : ByteArray) (w : World) (fa : Fits w (.two (.int .i64) (.two (.int .i64) (.two (.int .u32) (.two (.int .u32) (.two (.int .i64) (.two (.int .i64) (.two (.int .i64) (.two .str .nil)))))))) (Value.agg a).cells.toList) (fb : Fits w (.two .bool (.two (.int .u64) (.two (.int .u64) .nil))) (Value.agg b).cells.toList) (fc : Fits w (.two .bool (.two (.int .u64) (.two (.int .u64) .nil))) (Value.agg c).cells.toList) :
    Calls Try.prog 3 #[.agg a, .agg b, .agg c, .string p, .string s] w fun e w' => e = .returned (.bool true) ∧ Below w.heap.size w w' := by
  obtain ⟨h, rfl, hb7, _⟩ := fits7 fa
  obtain ⟨v, hi, lo, rfl, ⟨a0, a1⟩, b0, b1⟩ := fitsA fb
  obtain ⟨v', hi', lo', rfl, ⟨c0, c1⟩, d0, d1⟩ := fitsA fc
  cases hn : small3 h.op p s 200 with
  | false => exact tells_big K h v hi lo v' hi' lo' p s hn w
  | true => exact tells_small K h v hi lo v' hi' lo' p s hb7 ⟨a0, a1, b0, b1, c0, c1, d0, d1⟩ hn w
end Go.Proofs.Ytbnhneompibilaa
