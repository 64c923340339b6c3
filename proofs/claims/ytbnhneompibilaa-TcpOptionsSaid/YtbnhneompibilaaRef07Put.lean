/- The contract of cloakroomref07: Put. -/
import Derived.Test.YtbnhneompibilaaRef07Walks
import Derived.Test.YtbnhneompibilaaSevenBack
namespace Go.Proofs.Ytbnhneompibilaa.R07
open Go.RowKit
set_option linter.unusedVariables false
attribute [local go_sem ↓] ldH7 stH7 ldR7 stR7
attribute [local go_sem] rowAt_p rowOkAt_p setAt_p aggOf_a rowOk_new rowOf_new setRow_new agg7 aggT7
attribute [local go_sem ↓] Go.wp_at_zero Go.wp_at_succ

theorem cat11 (a b c d e f g i j : List UInt8) (o p : ByteArray) :
    (⟨a.toArray⟩ : ByteArray) ++ ⟨b.toArray⟩ ++ ⟨c.toArray⟩ ++ ⟨d.toArray⟩ ++ ⟨e.toArray⟩ ++ ⟨f.toArray⟩ ++ ⟨g.toArray⟩ ++ ⟨i.toArray⟩ ++ ⟨j.toArray⟩ ++ o ++ p = ⟨(a ++ b ++ c ++ d ++ e ++ f ++ g ++ i ++ j ++ o.data.toList ++ p.data.toList).toArray⟩ := by
  apply ext_eq
  simp
theorem body7_parts (h : T7) (p : ByteArray) {p1 p2 p3 p4 p5 p6 p7 p8 p9 : List UInt8} (e1 : numL h.sp 2 = p1) (e2 : numL h.dp 2 = p2) (e3 : numL h.sq 4 = p3) (e4 : numL h.ak 4 = p4) (e5 : numL (4 * (20 + (h.op.size : Int))) 1 = p5) (e6 : numL h.fl 1 = p6) (e7 : numL h.wn 2 = p7) (e8 : numL 0 2 = p8) (e9 : numL h.ur 2 = p9) :
    body7 h p = p1 ++ p2 ++ p3 ++ p4 ++ p5 ++ p6 ++ p7 ++ p8 ++ p9 ++ h.op.data.toList ++ p.data.toList := by
  subst e1 e2 e3 e4 e5 e6 e7 e8 e9; rfl
/-- What holds while the head and both addresses stay. -/
theorem cells14 {B g g' g2 : Nat} {t t' t2 : TypeId} {h : T7} {v v' : Bool} {hi lo hi' lo' : Int} {w0 w : World} (H : Held3 B g t #[.int .i64 h.sp, .int .i64 h.dp, .int .u32 h.sq, .int .u32 h.ak, .int .i64 h.fl, .int .i64 h.wn, .int .i64 h.ur, .string h.op] g' t' #[.bool v, .int .u64 hi, .int .u64 lo] g2 t2 #[.bool v', .int .u64 hi', .int .u64 lo'] w0 w) : w.cell? ⟨g, 0, none⟩ = some (.int .i64 h.sp) ∧ w.cell? ⟨g, 1, none⟩ = some (.int .i64 h.dp) ∧ w.cell? ⟨g, 2, none⟩ = some (.int .u32 h.sq) ∧ w.cell? ⟨g, 3, none⟩ = some (.int .u32 h.ak) ∧ w.cell? ⟨g, 4, none⟩ = some (.int .i64 h.fl) ∧ w.cell? ⟨g, 5, none⟩ = some (.int .i64 h.wn) ∧ w.cell? ⟨g, 6, none⟩ = some (.int .i64 h.ur) ∧ w.cell? ⟨g, 7, none⟩ = some (.string h.op) ∧ w.cell? ⟨g', 0, none⟩ = some (.bool v) ∧ w.cell? ⟨g', 1, none⟩ = some (.int .u64 hi) ∧ w.cell? ⟨g', 2, none⟩ = some (.int .u64 lo) ∧ w.cell? ⟨g2, 0, none⟩ = some (.bool v') ∧ w.cell? ⟨g2, 1, none⟩ = some (.int .u64 hi') ∧ w.cell? ⟨g2, 2, none⟩ = some (.int .u64 lo') :=
  ⟨HasB.cell H.1 0 _ rfl, HasB.cell H.1 1 _ rfl, HasB.cell H.1 2 _ rfl, HasB.cell H.1 3 _ rfl, HasB.cell H.1 4 _ rfl, HasB.cell H.1 5 _ rfl, HasB.cell H.1 6 _ rfl, HasB.cell H.1 7 _ rfl, HasB.cell H.2.1 0 _ rfl, HasB.cell H.2.1 1 _ rfl, HasB.cell H.2.1 2 _ rfl, HasB.cell H.2.2.1 0 _ rfl, HasB.cell H.2.2.1 1 _ rfl, HasB.cell H.2.2.1 2 _ rfl⟩
theorem cells8H {B g g' g2 : Nat} {t t' t2 : TypeId} {h : T7} {cs cs2 : Array Value} {w0 w : World} (H : Held3 B g t #[.int .i64 h.sp, .int .i64 h.dp, .int .u32 h.sq, .int .u32 h.ak, .int .i64 h.fl, .int .i64 h.wn, .int .i64 h.ur, .string h.op] g' t' cs g2 t2 cs2 w0 w) : w.cell? ⟨g, 0, none⟩ = some (.int .i64 h.sp) ∧ w.cell? ⟨g, 1, none⟩ = some (.int .i64 h.dp) ∧ w.cell? ⟨g, 2, none⟩ = some (.int .u32 h.sq) ∧ w.cell? ⟨g, 3, none⟩ = some (.int .u32 h.ak) ∧ w.cell? ⟨g, 4, none⟩ = some (.int .i64 h.fl) ∧ w.cell? ⟨g, 5, none⟩ = some (.int .i64 h.wn) ∧ w.cell? ⟨g, 6, none⟩ = some (.int .i64 h.ur) ∧ w.cell? ⟨g, 7, none⟩ = some (.string h.op) := cells8T H.1
set_option maxHeartbeats 2000000 in
theorem put_no (h : T7) (v : Bool) (hi lo : Int) (v' : Bool) (hi' lo' : Int) (p : ByteArray) (hA : BA hi lo hi' lo') (ho : h.op.size ≤ 1099511627776) (hp : p.size ≤ 1099511627776) (P : List UInt8) (hPe : pseudoL v hi lo v' hi' lo' 6 (20 + (h.op.size : Int) + (p.size : Int)) = P) (hn : valid7 h = false ∨ P = []) (he : err7 h P p = 1) (w : World) :
    Calls Try.prog 10 #[.agg #[.int .i64 h.sp, .int .i64 h.dp, .int .u32 h.sq, .int .u32 h.ak, .int .i64 h.fl, .int .i64 h.wn, .int .i64 h.ur, .string h.op], .agg #[.bool v, .int .u64 hi, .int .u64 lo], .agg #[.bool v', .int .u64 hi', .int .u64 lo'], .string p] w fun e w' => e = .returned (.tuple #[.string (out7 h P p), .int .i64 (err7 h P p)]) ∧ Below w.heap.size w w' := by
  have HO : Hid (out7 h P p = ⟨#[]⟩) := Lib.hid (by unfold out7; rw [if_neg (by omega)])
  have HE := Lib.hid he
  have PS := Lib.hid (R05.pseudo_any v hi lo v' hi' lo' 6 (20 + (h.op.size : Int) + (p.size : Int)) hA.a0 hA.a1 hA.b0 hA.b1 hA.c0 hA.c1 hA.d0 hA.d1)
  have CR := right_any h
  have x1 : IntKind.i64.wrap (20 + (h.op.size : Int)) = 20 + (h.op.size : Int) := IntWalk.i64_in _ (by omega)
  have x2 : IntKind.i64.wrap (20 + (h.op.size : Int) + (p.size : Int)) = 20 + (h.op.size : Int) + (p.size : Int) := IntWalk.i64_in _ (by omega)
  have x3 : IntKind.i64.wrap (65535 - (20 + (h.op.size : Int))) = 65535 - (20 + (h.op.size : Int)) := IntWalk.i64_in _ (by omega)
  have HX : Hid (Held3 w.heap.size w.heap.size 24 #[.int .i64 h.sp, .int .i64 h.dp, .int .u32 h.sq, .int .u32 h.ak, .int .i64 h.fl, .int .i64 h.wn, .int .i64 h.ur, .string h.op] (w.heap.size + 1) 27 #[.bool v, .int .u64 hi, .int .u64 lo] (w.heap.size + 1 + 1) 27 #[.bool v', .int .u64 hi', .int .u64 lo'] w (((w.alloc (.cells #[.int .i64 h.sp, .int .i64 h.dp, .int .u32 h.sq, .int .u32 h.ak, .int .i64 h.fl, .int .i64 h.wn, .int .i64 h.ur, .string h.op] 24)).alloc (.cells #[.bool v, .int .u64 hi, .int .u64 lo] 27)).alloc (.cells #[.bool v', .int .u64 hi', .int .u64 lo'] 27))) := by
    refine Lib.hid ⟨((HasB.new w _ _).alloc _).alloc _, ?_, ?_, (((Below.refl _ _).alloc (Nat.le_refl _) _).alloc (by simp) _).alloc (by simp; omega) _, by simp; omega⟩
    · have := (HasB.new (w.alloc (.cells #[.int .i64 h.sp, .int .i64 h.dp, .int .u32 h.sq, .int .u32 h.ak, .int .i64 h.fl, .int .i64 h.wn, .int .i64 h.ur, .string h.op] 24)) 27 #[.bool v, .int .u64 hi, .int .u64 lo]).alloc (.cells #[.bool v', .int .u64 hi', .int .u64 lo'] 27)
      simpa using this
    · have := HasB.new ((w.alloc (.cells #[.int .i64 h.sp, .int .i64 h.dp, .int .u32 h.sq, .int .u32 h.ak, .int .i64 h.fl, .int .i64 h.wn, .int .i64 h.ur, .string h.op] 24)).alloc (.cells #[.bool v, .int .u64 hi, .int .u64 lo] 27)) 27 #[.bool v', .int .u64 hi', .int .u64 lo']
      simpa using this
  obtain ⟨k0, k1, k2, k3, k4, k5, k6, c7, d0, d1, d2, e0, e1, e2⟩ := cells14 HX.out
  clear k0 k1 k2 k3 k4 k5 k6
  rw [hPe] at PS
  cases hv : valid7 h with
  | false =>
    rw [hv] at CR
    have CR := Lib.hid CR
    clear he hn hPe ho hp
    go_enter Try.func10, Try.ntmps10
    go_wp2_with (first | (go_at_call 25; (with_reducible refine (PS.out _).mono ?_); rintro e wa ⟨rfl, hb⟩; replace HX := Lib.hid (HX.out.next hb); clear hb; have hro := HasB.rowOk HX.out.1 (n := 8) rfl; have hrw := HasB.rowOf HX.out.1) | (go_at_call 26; (with_reducible refine (CR.out _).mono ?_); rintro e wa ⟨rfl, hb⟩; replace HX := Lib.hid (HX.out.next hb); clear hb hro hrw) | fail)
    go_ret2
    exact ⟨ret_si HO.out.symm HE.out.symm, HX.out.2.2.2.1⟩
  | true =>
    rw [hv] at CR
    have CR := Lib.hid CR
    obtain rfl : P = [] := hn.resolve_left (by simp [hv])
    clear he hn hPe ho hp
    go_enter Try.func10, Try.ntmps10
    go_wp2_with (first | (go_at_call 25; (with_reducible refine (PS.out _).mono ?_); rintro e wa ⟨rfl, hb⟩; replace HX := Lib.hid (HX.out.next hb); clear hb; have hro := HasB.rowOk HX.out.1 (n := 8) rfl; have hrw := HasB.rowOf HX.out.1) | (go_at_call 26; (with_reducible refine (CR.out _).mono ?_); rintro e wa ⟨rfl, hb⟩; replace HX := Lib.hid (HX.out.next hb); clear hb hro hrw) | fail)
    go_ret2
    exact ⟨ret_si HO.out.symm HE.out.symm, HX.out.2.2.2.1⟩
set_option maxHeartbeats 2000000 in
theorem put_long (h : T7) (v : Bool) (hi lo : Int) (v' : Bool) (hi' lo' : Int) (p : ByteArray) (hA : BA hi lo hi' lo') (ho : h.op.size ≤ 1099511627776) (hp : p.size ≤ 1099511627776) (P : List UInt8) (hPe : pseudoL v hi lo v' hi' lo' 6 (20 + (h.op.size : Int) + (p.size : Int)) = P) (hv : valid7 h = true) (hP : P ≠ []) (hl : 65535 < 20 + h.op.size + p.size) (he : err7 h P p = 5) (w : World) :
    Calls Try.prog 10 #[.agg #[.int .i64 h.sp, .int .i64 h.dp, .int .u32 h.sq, .int .u32 h.ak, .int .i64 h.fl, .int .i64 h.wn, .int .i64 h.ur, .string h.op], .agg #[.bool v, .int .u64 hi, .int .u64 lo], .agg #[.bool v', .int .u64 hi', .int .u64 lo'], .string p] w fun e w' => e = .returned (.tuple #[.string (out7 h P p), .int .i64 (err7 h P p)]) ∧ Below w.heap.size w w' := by
  have HO : Hid (out7 h P p = ⟨#[]⟩) := Lib.hid (by unfold out7; rw [if_neg (by omega)])
  have HE := Lib.hid he
  have PS := Lib.hid (R05.pseudo_any v hi lo v' hi' lo' 6 (20 + (h.op.size : Int) + (p.size : Int)) hA.a0 hA.a1 hA.b0 hA.b1 hA.c0 hA.c1 hA.d0 hA.d1)
  have CR := right_any h
  have x1 : IntKind.i64.wrap (20 + (h.op.size : Int)) = 20 + (h.op.size : Int) := IntWalk.i64_in _ (by omega)
  have x2 : IntKind.i64.wrap (20 + (h.op.size : Int) + (p.size : Int)) = 20 + (h.op.size : Int) + (p.size : Int) := IntWalk.i64_in _ (by omega)
  have x3 : IntKind.i64.wrap (65535 - (20 + (h.op.size : Int))) = 65535 - (20 + (h.op.size : Int)) := IntWalk.i64_in _ (by omega)
  have HX : Hid (Held3 w.heap.size w.heap.size 24 #[.int .i64 h.sp, .int .i64 h.dp, .int .u32 h.sq, .int .u32 h.ak, .int .i64 h.fl, .int .i64 h.wn, .int .i64 h.ur, .string h.op] (w.heap.size + 1) 27 #[.bool v, .int .u64 hi, .int .u64 lo] (w.heap.size + 1 + 1) 27 #[.bool v', .int .u64 hi', .int .u64 lo'] w (((w.alloc (.cells #[.int .i64 h.sp, .int .i64 h.dp, .int .u32 h.sq, .int .u32 h.ak, .int .i64 h.fl, .int .i64 h.wn, .int .i64 h.ur, .string h.op] 24)).alloc (.cells #[.bool v, .int .u64 hi, .int .u64 lo] 27)).alloc (.cells #[.bool v', .int .u64 hi', .int .u64 lo'] 27))) := by
    refine Lib.hid ⟨((HasB.new w _ _).alloc _).alloc _, ?_, ?_, (((Below.refl _ _).alloc (Nat.le_refl _) _).alloc (by simp) _).alloc (by simp; omega) _, by simp; omega⟩
    · have := (HasB.new (w.alloc (.cells #[.int .i64 h.sp, .int .i64 h.dp, .int .u32 h.sq, .int .u32 h.ak, .int .i64 h.fl, .int .i64 h.wn, .int .i64 h.ur, .string h.op] 24)) 27 #[.bool v, .int .u64 hi, .int .u64 lo]).alloc (.cells #[.bool v', .int .u64 hi', .int .u64 lo'] 27)
      simpa using this
    · have := HasB.new ((w.alloc (.cells #[.int .i64 h.sp, .int .i64 h.dp, .int .u32 h.sq, .int .u32 h.ak, .int .i64 h.fl, .int .i64 h.wn, .int .i64 h.ur, .string h.op] 24)).alloc (.cells #[.bool v, .int .u64 hi, .int .u64 lo] 27)) 27 #[.bool v', .int .u64 hi', .int .u64 lo']
      simpa using this
  obtain ⟨k0, k1, k2, k3, k4, k5, k6, c7, d0, d1, d2, e0, e1, e2⟩ := cells14 HX.out
  clear k0 k1 k2 k3 k4 k5 k6
  rw [hPe] at PS
  rw [hv] at CR
  have CR := Lib.hid CR
  have hq := nil_eq hP
  have hli : (65535 : Int) - (20 + (h.op.size : Int)) < p.size := by omega
  clear he hPe ho hp hP hv hl
  go_enter Try.func10, Try.ntmps10
  go_wp2_with (first | (go_at_call 25; (with_reducible refine (PS.out _).mono ?_); rintro e wa ⟨rfl, hb⟩; replace HX := Lib.hid (HX.out.next hb); clear hb; have hro := HasB.rowOk HX.out.1 (n := 8) rfl; have hrw := HasB.rowOf HX.out.1) | (go_at_call 26; (with_reducible refine (CR.out _).mono ?_); rintro e wa ⟨rfl, hb⟩; replace HX := Lib.hid (HX.out.next hb); clear hb hro hrw) | fail)
  go_ret2
  exact ⟨ret_si HO.out.symm HE.out.symm, HX.out.2.2.2.1⟩
set_option maxHeartbeats 4000000 in
theorem put_ok (h : T7) (v : Bool) (hi lo : Int) (v' : Bool) (hi' lo' : Int) (p : ByteArray) (hb : B7 h) (hA : BA hi lo hi' lo') (P : List UInt8) (hPe : pseudoL v hi lo v' hi' lo' 6 (20 + (h.op.size : Int) + (p.size : Int)) = P) (hv : valid7 h = true) (hP : P ≠ []) (hl : 20 + h.op.size + p.size ≤ 65535) (he : err7 h P p = 0) (w : World) :
    Calls Try.prog 10 #[.agg #[.int .i64 h.sp, .int .i64 h.dp, .int .u32 h.sq, .int .u32 h.ak, .int .i64 h.fl, .int .i64 h.wn, .int .i64 h.ur, .string h.op], .agg #[.bool v, .int .u64 hi, .int .u64 lo], .agg #[.bool v', .int .u64 hi', .int .u64 lo'], .string p] w fun e w' => e = .returned (.tuple #[.string (out7 h P p), .int .i64 (err7 h P p)]) ∧ Below w.heap.size w w' := by
  have HO : Hid (out7 h P p = ⟨(setL ⟨(body7 h p).toArray⟩ 16 2 (ck7 h P p)).toArray⟩) := Lib.hid (if_pos he)
  have hPl : P.length ≤ 40 := by rw [← hPe]; exact (pseudoL_len _ _ _ _ _ _ _ _).1
  have HE := Lib.hid he
  have PS := Lib.hid (R05.pseudo_any v hi lo v' hi' lo' 6 (20 + (h.op.size : Int) + (p.size : Int)) hA.a0 hA.a1 hA.b0 hA.b1 hA.c0 hA.c1 hA.d0 hA.d1)
  have CR := right_any h
  have x1 : IntKind.i64.wrap (20 + (h.op.size : Int)) = 20 + (h.op.size : Int) := IntWalk.i64_in _ (by omega)
  have x2 : IntKind.i64.wrap (20 + (h.op.size : Int) + (p.size : Int)) = 20 + (h.op.size : Int) + (p.size : Int) := IntWalk.i64_in _ (by omega)
  have x3 : IntKind.i64.wrap (65535 - (20 + (h.op.size : Int))) = 65535 - (20 + (h.op.size : Int)) := IntWalk.i64_in _ (by omega)
  have HX : Hid (Held3 w.heap.size w.heap.size 24 #[.int .i64 h.sp, .int .i64 h.dp, .int .u32 h.sq, .int .u32 h.ak, .int .i64 h.fl, .int .i64 h.wn, .int .i64 h.ur, .string h.op] (w.heap.size + 1) 27 #[.bool v, .int .u64 hi, .int .u64 lo] (w.heap.size + 1 + 1) 27 #[.bool v', .int .u64 hi', .int .u64 lo'] w (((w.alloc (.cells #[.int .i64 h.sp, .int .i64 h.dp, .int .u32 h.sq, .int .u32 h.ak, .int .i64 h.fl, .int .i64 h.wn, .int .i64 h.ur, .string h.op] 24)).alloc (.cells #[.bool v, .int .u64 hi, .int .u64 lo] 27)).alloc (.cells #[.bool v', .int .u64 hi', .int .u64 lo'] 27))) := by
    refine Lib.hid ⟨((HasB.new w _ _).alloc _).alloc _, ?_, ?_, (((Below.refl _ _).alloc (Nat.le_refl _) _).alloc (by simp) _).alloc (by simp; omega) _, by simp; omega⟩
    · have := (HasB.new (w.alloc (.cells #[.int .i64 h.sp, .int .i64 h.dp, .int .u32 h.sq, .int .u32 h.ak, .int .i64 h.fl, .int .i64 h.wn, .int .i64 h.ur, .string h.op] 24)) 27 #[.bool v, .int .u64 hi, .int .u64 lo]).alloc (.cells #[.bool v', .int .u64 hi', .int .u64 lo'] 27)
      simpa using this
    · have := HasB.new ((w.alloc (.cells #[.int .i64 h.sp, .int .i64 h.dp, .int .u32 h.sq, .int .u32 h.ak, .int .i64 h.fl, .int .i64 h.wn, .int .i64 h.ur, .string h.op] 24)).alloc (.cells #[.bool v, .int .u64 hi, .int .u64 lo] 27)) 27 #[.bool v', .int .u64 hi', .int .u64 lo']
      simpa using this
  obtain ⟨k0, k1, k2, k3, k4, k5, k6, c7, d0, d1, d2, e0, e1, e2⟩ := cells14 HX.out
  clear k0 k1 k2 k3 k4 k5 k6
  rw [hPe] at PS
  rw [hv] at CR
  have CR := Lib.hid CR
  have hq := nil_eq hP
  have hli : ¬ (65535 : Int) - (20 + (h.op.size : Int)) < p.size := by omega
  obtain ⟨q0, q1, a0, a1⟩ := hb
  have x4 : IntKind.i64.wrap h.sq = h.sq := IntWalk.i64_in _ (by omega)
  have x5 : IntKind.i64.wrap h.ak = h.ak := IntWalk.i64_in _ (by omega)
  have x6 : IntKind.i64.wrap (4 * (20 + (h.op.size : Int))) = 4 * (20 + (h.op.size : Int)) := IntWalk.i64_in _ (by omega)
  obtain ⟨p1, g1, l1⟩ : ∃ p, numL h.sp 2 = p ∧ p.length = 2 := ⟨_, rfl, numL_len _ _ (by omega) (by omega)⟩
  obtain ⟨p2, g2, l2⟩ : ∃ p, numL h.dp 2 = p ∧ p.length = 2 := ⟨_, rfl, numL_len _ _ (by omega) (by omega)⟩
  obtain ⟨p3, e3, l3⟩ : ∃ p, numL h.sq 4 = p ∧ p.length = 4 := ⟨_, rfl, numL_len _ _ (by omega) (by omega)⟩
  obtain ⟨p4, e4, l4⟩ : ∃ p, numL h.ak 4 = p ∧ p.length = 4 := ⟨_, rfl, numL_len _ _ (by omega) (by omega)⟩
  obtain ⟨p5, e5, l5⟩ : ∃ p, numL (4 * (20 + (h.op.size : Int))) 1 = p ∧ p.length = 1 := ⟨_, rfl, numL_len _ _ (by omega) (by omega)⟩
  obtain ⟨p6, e6, l6⟩ : ∃ p, numL h.fl 1 = p ∧ p.length = 1 := ⟨_, rfl, numL_len _ _ (by omega) (by omega)⟩
  obtain ⟨p7, e7, l7⟩ : ∃ p, numL h.wn 2 = p ∧ p.length = 2 := ⟨_, rfl, numL_len _ _ (by omega) (by omega)⟩
  obtain ⟨p8, e8, l8⟩ : ∃ p, numL 0 2 = p ∧ p.length = 2 := ⟨_, rfl, numL_len _ _ (by omega) (by omega)⟩
  obtain ⟨p9, e9, l9⟩ : ∃ p, numL h.ur 2 = p ∧ p.length = 2 := ⟨_, rfl, numL_len _ _ (by omega) (by omega)⟩
  have HPP := Lib.hid (body7_parts h p g1 g2 e3 e4 e5 e6 e7 e8 e9)
  have HC := Lib.hid (cat11 p1 p2 p3 p4 p5 p6 p7 p8 p9 h.op p)
  have C1 := Lib.hid (num_is g1)
  have C2 := Lib.hid (num_is g2)
  have C3 := Lib.hid (num_is e3)
  have C4 := Lib.hid (num_is e4)
  have C5 := Lib.hid (num_is e5)
  have C6 := Lib.hid (num_is e6)
  have C7 := Lib.hid (num_is e7)
  have C8 := Lib.hid (num_is e8)
  have C9 := Lib.hid (num_is e9)
  obtain ⟨L, hL, hLl⟩ : ∃ L, L = body7 h p ∧ L.length = 20 + h.op.size + p.size := ⟨_, rfl, body7_len h p⟩
  rw [← HPP.out, ← hL] at HC
  have HS : Hid (setL ⟨(body7 h p).toArray⟩ 16 2 (ck7 h P p) = setL ⟨L.toArray⟩ 16 2 (65535 - sumL (P ++ L) : Nat)) := Lib.hid (by rw [hL]; rfl)
  have HO1 := R03.of_any (⟨P.toArray⟩ ++ ⟨L.toArray⟩) (by rw [ByteArray.size_append]; show P.length + L.length ≤ _; omega)
  rw [app_str, show (⟨P.toArray⟩ : ByteArray).data.toList = P by simp, show (⟨L.toArray⟩ : ByteArray).data.toList = L by simp] at HO1
  have hb0 := sumL_le (P ++ L)
  obtain ⟨c, hc, hc1⟩ : ∃ c : Nat, (c : Int) = 65535 - (sumL (P ++ L) : Nat) ∧ c = 65535 - sumL (P ++ L) := ⟨65535 - sumL (P ++ L), by omega, rfl⟩
  rw [← hc] at HO1
  rw [← hc1] at HS
  have HO1 := Lib.hid HO1
  have HS1 := Lib.hid (R03.set_any ⟨L.toArray⟩ 16 2 c (by show L.length ≤ maxLen; unfold maxLen; omega) (by omega) (by omega) (by omega) (by omega))
  have cw : IntKind.u64.wrap (c : Int) = c := wrapU _ (by omega) (by omega)
  have sl : (setL ⟨L.toArray⟩ 16 2 c).length = L.length := by rw [setL_len']; rfl
  generalize setL ⟨L.toArray⟩ 16 2 c = Z at *
  have f1 : (9223372036854775807 < 20 + h.op.size) = False := eq_false (by omega)
  have f2 : (9223372036854775807 < 20 + h.op.size + p.size) = False := eq_false (by omega)
  have f3 : (9223372036854775807 < P.length + L.length) = False := eq_false (by omega)
  clear g1 g2 e3 e4 e5 e6 e7 e8 e9 he hPe hP hv hL hc hc1 hb0 hLl HPP q0 q1 a0 a1 hl
  go_enter Try.func10, Try.ntmps10
  go_wp2_with (first | (go_at_call 25; (with_reducible refine (PS.out _).mono ?_); rintro e wa ⟨rfl, hb⟩; replace HX := Lib.hid (HX.out.next hb); clear hb; have hro := HasB.rowOk HX.out.1 (n := 8) rfl; have hrw := HasB.rowOf HX.out.1) | (go_at_call 26; (with_reducible refine (CR.out _).mono ?_); rintro e wa ⟨rfl, hb⟩; replace HX := Lib.hid (HX.out.next hb); clear hb hro hrw) | fail)
  clear c7 d0 d1 d2 e0 e1 e2
  replace HX := Lib.hid HX.out.drew
  go_region_held3 (fun w' => w'.cell? ⟨w.heap.size, 0, none⟩ = some (.int .i64 h.sp) ∧ w'.cell? ⟨w.heap.size, 1, none⟩ = some (.int .i64 h.dp) ∧ w'.cell? ⟨w.heap.size, 2, none⟩ = some (.int .u32 h.sq) ∧ w'.cell? ⟨w.heap.size, 3, none⟩ = some (.int .u32 h.ak) ∧ w'.cell? ⟨w.heap.size, 4, none⟩ = some (.int .i64 h.fl) ∧ w'.cell? ⟨w.heap.size, 5, none⟩ = some (.int .i64 h.wn) ∧ w'.cell? ⟨w.heap.size, 6, none⟩ = some (.int .i64 h.ur) ∧ w'.cell? ⟨w.heap.size, 7, none⟩ = some (.string h.op)) (exact cells8H HX.out) (first | (go_at_call 27; (with_reducible refine (C1.out _).mono ?_); rintro e wa ⟨rfl, hb⟩; replace HX := Lib.hid (HX.out.next hb); clear hb) | (go_at_call 27; (with_reducible refine (C2.out _).mono ?_); rintro e wa ⟨rfl, hb⟩; replace HX := Lib.hid (HX.out.next hb); clear hb) | (go_at_call 27; (with_reducible refine (C3.out _).mono ?_); rintro e wa ⟨rfl, hb⟩; replace HX := Lib.hid (HX.out.next hb); clear hb) | (go_at_call 27; (with_reducible refine (C4.out _).mono ?_); rintro e wa ⟨rfl, hb⟩; replace HX := Lib.hid (HX.out.next hb); clear hb) | (go_at_call 27; (with_reducible refine (C5.out _).mono ?_); rintro e wa ⟨rfl, hb⟩; replace HX := Lib.hid (HX.out.next hb); clear hb) | (go_at_call 27; (with_reducible refine (C6.out _).mono ?_); rintro e wa ⟨rfl, hb⟩; replace HX := Lib.hid (HX.out.next hb); clear hb) | (go_at_call 27; (with_reducible refine (C7.out _).mono ?_); rintro e wa ⟨rfl, hb⟩; replace HX := Lib.hid (HX.out.next hb); clear hb) | (go_at_call 27; (with_reducible refine (C8.out _).mono ?_); rintro e wa ⟨rfl, hb⟩; replace HX := Lib.hid (HX.out.next hb); clear hb) | (go_at_call 27; (with_reducible refine (C9.out _).mono ?_); rintro e wa ⟨rfl, hb⟩; replace HX := Lib.hid (HX.out.next hb); clear hb))
  all_goals
    rw [HC.out]
    clear HC
    go_wp2_with (first | (go_at_call 29; (with_reducible refine (HO1.out _).mono ?_); rintro e wa ⟨rfl, hb⟩; replace HX := Lib.hid (HX.out.next hb); clear hb) | (go_at_call 28; (with_reducible refine (HS1.out _).mono ?_); rintro e wa ⟨rfl, hb⟩; replace HX := Lib.hid (HX.out.next hb); clear hb) | fail)
    go_ret2
    exact ⟨ret_si (by rw [HO.out, HS.out]) HE.out.symm, HX.out.2.2.2.1⟩
theorem put_any (h : T7) (v : Bool) (hi lo : Int) (v' : Bool) (hi' lo' : Int) (p : ByteArray) (hb : B7 h) (hA : BA hi lo hi' lo') (ho : h.op.size ≤ 1099511627776) (hp : p.size ≤ 1099511627776) (P : List UInt8) (hPe : pseudoL v hi lo v' hi' lo' 6 (20 + (h.op.size : Int) + (p.size : Int)) = P) (w : World) :
    Calls Try.prog 10 #[.agg #[.int .i64 h.sp, .int .i64 h.dp, .int .u32 h.sq, .int .u32 h.ak, .int .i64 h.fl, .int .i64 h.wn, .int .i64 h.ur, .string h.op], .agg #[.bool v, .int .u64 hi, .int .u64 lo], .agg #[.bool v', .int .u64 hi', .int .u64 lo'], .string p] w fun e w' => e = .returned (.tuple #[.string (out7 h P p), .int .i64 (err7 h P p)]) ∧ Below w.heap.size w w' := by
  rcases err7_cases h P p with ⟨hn, he⟩ | ⟨hv, hP, hl, he⟩ | ⟨hv, hP, hl, he⟩
  · exact put_no h v hi lo v' hi' lo' p hA ho hp P hPe hn he w
  · exact put_long h v hi lo v' hi' lo' p hA ho hp P hPe hv hP hl he w
  · exact put_ok h v hi lo v' hi' lo' p hb hA P hPe hv hP hl he w
end Go.Proofs.Ytbnhneompibilaa.R07
