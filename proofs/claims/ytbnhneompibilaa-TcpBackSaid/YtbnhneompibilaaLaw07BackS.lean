/- The law of tcp without the reference: the walks where something is read ahead and something is written. -/
import Derived.Test.YtbnhneompibilaaLaw07BackR
namespace Go.Proofs.Ytbnhneompibilaa
open Go.RowKit Go.WideShapes
set_option linter.unusedVariables false
attribute [local go_sem ↓] ldH7 stH7 ldR7 stR7
attribute [local go_sem] rowAt_p rowOkAt_p setAt_p aggOf_a rowOk_new rowOf_new setRow_new agg7 aggT7
attribute [local go_sem ↓] Go.wp_at_zero Go.wp_at_succ

set_option maxRecDepth 100000 in
set_option maxHeartbeats 6000000 in
theorem back_read_badA (K : TcpOK) (h : T7) (v : Bool) (hi lo : Int) (v' : Bool) (hi' lo' : Int) (p s : ByteArray) (k : Int) (hk : 0 ≤ k ∧ k < 65536) (hb7 : B7 h) (hA : BA hi lo hi' lo') (hn : small3 h.op p s 200 = true) (w : World) (hg : errG7 s (pseudoL v hi lo v' hi' lo' 6 (s.size : Int)) = 0) (he : err7 h (pseudoL v hi lo v' hi' lo' 6 (20 + (h.op.size : Int) + (p.size : Int))) p = 0) (ho : optsL h.op 0 = none) (hc : (out7 (headG7 s (pseudoL v hi lo v' hi' lo' 6 (s.size : Int))) (pseudoL v hi lo v' hi' lo' 6 (s.size : Int)) (payG7 s (pseudoL v hi lo v' hi' lo' 6 (s.size : Int)))).extract 16 18 = s.extract 16 18) : Calls Try.prog 5 #[.agg #[.int .i64 h.sp, .int .i64 h.dp, .int .u32 h.sq, .int .u32 h.ak, .int .i64 h.fl, .int .i64 h.wn, .int .i64 h.ur, .string h.op], .agg #[.bool v, .int .u64 hi, .int .u64 lo], .agg #[.bool v', .int .u64 hi', .int .u64 lo'], .string p, .string s, .int .u16 k] w fun e w' => e = .returned (.bool true) ∧ Below w.heap.size w w' := by
  have AW := Lib.hid (awake07 K)
  obtain ⟨n1, n2, n3⟩ := of_decide_eq_true hn
  obtain ⟨f1, f2, f3, f4, f5, f6, f7⟩ := fwd7_same hg (pseudoL_len _ _ _ _ _ _ _ _).2 (by omega)
  obtain ⟨h20, _⟩ := errG7_ok hg
  have G1 := Lib.hid (K.get s v hi lo v' hi' lo' hA (by omega) _ rfl)
  rw [hg] at G1
  have PX := Lib.hid (K.put (headG7 s (pseudoL v hi lo v' hi' lo' 6 (s.size : Int))) v hi lo v' hi' lo' (payG7 s (pseudoL v hi lo v' hi' lo' 6 (s.size : Int))) f2 hA (by omega) (by omega) (pseudoL v hi lo v' hi' lo' 6 (s.size : Int)) (by rw [show 20 + ((headG7 s (pseudoL v hi lo v' hi' lo' 6 (s.size : Int))).op.size : Int) + ((payG7 s (pseudoL v hi lo v' hi' lo' 6 (s.size : Int))).size : Int) = (s.size : Int) by omega]))
  rw [f1] at PX
  clear f1 f2 f3 hg
  generalize out7 (headG7 s (pseudoL v hi lo v' hi' lo' 6 (s.size : Int))) (pseudoL v hi lo v' hi' lo' 6 (s.size : Int)) (payG7 s (pseudoL v hi lo v' hi' lo' 6 (s.size : Int))) = T1 at *
  generalize headG7 s (pseudoL v hi lo v' hi' lo' 6 (s.size : Int)) = g at *
  generalize payG7 s (pseudoL v hi lo v' hi' lo' 6 (s.size : Int)) = y at *
  have i16 : (16 : Int) ≤ s.size := by omega
  have i18 : (18 : Int) ≤ s.size := by omega
  clear f7 h20
  have P1 := Lib.hid (K.put h v hi lo v' hi' lo' p hb7 hA (by omega) (by omega) _ rfl)
  rw [he] at P1
  generalize out7 h (pseudoL v hi lo v' hi' lo' 6 (20 + (h.op.size : Int) + (p.size : Int))) p = T at P1
  have LS := K.list h.op (by omega)
  rw [(opts_none ho).2] at LS
  have LS := Lib.hid LS
  skip
  clear he hA hb7 K hk ho
  have HX : Hid (Held3 w.heap.size w.heap.size 24 #[.int .i64 h.sp, .int .i64 h.dp, .int .u32 h.sq, .int .u32 h.ak, .int .i64 h.fl, .int .i64 h.wn, .int .i64 h.ur, .string h.op] (w.heap.size + 1) 27 #[.bool v, .int .u64 hi, .int .u64 lo] (w.heap.size + 1 + 1) 27 #[.bool v', .int .u64 hi', .int .u64 lo'] w (((w.alloc (.cells #[.int .i64 h.sp, .int .i64 h.dp, .int .u32 h.sq, .int .u32 h.ak, .int .i64 h.fl, .int .i64 h.wn, .int .i64 h.ur, .string h.op] 24)).alloc (.cells #[.bool v, .int .u64 hi, .int .u64 lo] 27)).alloc (.cells #[.bool v', .int .u64 hi', .int .u64 lo'] 27))) := by
    refine Lib.hid ⟨((HasB.new w _ _).alloc _).alloc _, ?_, ?_, (((Below.refl _ _).alloc (Nat.le_refl _) _).alloc (by simp) _).alloc (by simp; omega) _, by simp; omega⟩
    · have := (HasB.new (w.alloc (.cells #[.int .i64 h.sp, .int .i64 h.dp, .int .u32 h.sq, .int .u32 h.ak, .int .i64 h.fl, .int .i64 h.wn, .int .i64 h.ur, .string h.op] 24)) 27 #[.bool v, .int .u64 hi, .int .u64 lo]).alloc (.cells #[.bool v', .int .u64 hi', .int .u64 lo'] 27)
      simpa using this
    · have := HasB.new ((w.alloc (.cells #[.int .i64 h.sp, .int .i64 h.dp, .int .u32 h.sq, .int .u32 h.ak, .int .i64 h.fl, .int .i64 h.wn, .int .i64 h.ur, .string h.op] 24)).alloc (.cells #[.bool v, .int .u64 hi, .int .u64 lo] 27)) 27 #[.bool v', .int .u64 hi', .int .u64 lo']
      simpa using this
  obtain ⟨k0, k1, k2, k3, k4, k5, k6, c7, d0, d1, d2, e0, e1, e2⟩ := R07.cells14 HX.out
  have hS := small_any (w.heap.size + 1 + 1 + 1) 3 h.op p s 200 (by omega)
  rw [hn, show ((200 : Nat) : Int) = 200 from rfl] at hS
  have HS := Lib.hid hS
  have HB : HasB (((((w.alloc (.cells #[.int .i64 h.sp, .int .i64 h.dp, .int .u32 h.sq, .int .u32 h.ak, .int .i64 h.fl, .int .i64 h.wn, .int .i64 h.ur, .string h.op] 24)).alloc (.cells #[.bool v, .int .u64 hi, .int .u64 lo] 27)).alloc (.cells #[.bool v', .int .u64 hi', .int .u64 lo'] 27))).alloc (.cells #[.string h.op, .string p, .string s] 9)) (w.heap.size + 1 + 1 + 1) 9 #[.string h.op, .string p, .string s] := by
    have := HasB.new (((w.alloc (.cells #[.int .i64 h.sp, .int .i64 h.dp, .int .u32 h.sq, .int .u32 h.ak, .int .i64 h.fl, .int .i64 h.wn, .int .i64 h.ur, .string h.op] 24)).alloc (.cells #[.bool v, .int .u64 hi, .int .u64 lo] 27)).alloc (.cells #[.bool v', .int .u64 hi', .int .u64 lo'] 27)) 9 #[.string h.op, .string p, .string s]
    simpa using this
  clear hS k0 k1 k2 k3 k4 k5 k6 d0 d1 d2 e0 e1 e2
  go_enter Try.func5, Try.ntmps5
  go_wp2_with fail
  (with_reducible refine (HS.out _ (HasB.cell HB 0 _ rfl) (HasB.cell HB 1 _ rfl) (HasB.cell HB 2 _ rfl)).mono ?_)
  rintro e wq ⟨rfl, hwq⟩
  replace HX := Lib.hid (HX.out.alloc (.cells #[.string h.op, .string p, .string s] 9))
  rw [hwq] at HX
  clear HB HS c7 hwq
  (obtain ⟨k0, k1, k2, k3, k4, k5, k6, k7, d0, d1, d2, e0, e1, e2⟩ := R07.cells14 HX.out; have hro := HasB.rowOk HX.out.1 (n := 8) rfl; have hrw := HasB.rowOf HX.out.1)
  go_wp2_with (first | (go_at_call 11; (with_reducible refine (G1.out _).mono ?_); rintro e wx ⟨rfl, hb⟩; (clear k0 k1 k2 k3 k4 k5 k6 k7 d0 d1 d2 e0 e1 e2 hro hrw); replace HX := Lib.hid ((HX.out.next hb).alloc (.cells #[.int .i64 g.sp, .int .i64 g.dp, .int .u32 g.sq, .int .u32 g.ak, .int .i64 g.fl, .int .i64 g.wn, .int .i64 g.ur, .string g.op] 34)); clear hb; (obtain ⟨k0, k1, k2, k3, k4, k5, k6, k7, d0, d1, d2, e0, e1, e2⟩ := R07.cells14 HX.out; have hro := HasB.rowOk HX.out.1 (n := 8) rfl; have hrw := HasB.rowOf HX.out.1)) | (go_at_call 8; (with_reducible refine (PX.out _).mono ?_); rintro e wa ⟨rfl, hb⟩; (clear k0 k1 k2 k3 k4 k5 k6 k7 d0 d1 d2 e0 e1 e2 hro hrw); replace HX := Lib.hid (HX.out.next hb); clear hb; (obtain ⟨k0, k1, k2, k3, k4, k5, k6, k7, d0, d1, d2, e0, e1, e2⟩ := R07.cells14 HX.out; have hro := HasB.rowOk HX.out.1 (n := 8) rfl; have hrw := HasB.rowOf HX.out.1)) | fail)
  go_quiet (fail)
  (clear k0 k1 k2 k3 k4 k5 k6 k7 d0 d1 d2 e0 e1 e2 hro hrw)
  replace HX := Lib.hid (HX.out.drewN nq)
  (obtain ⟨k0, k1, k2, k3, k4, k5, k6, k7, d0, d1, d2, e0, e1, e2⟩ := R07.cells14 HX.out; have hro := HasB.rowOk HX.out.1 (n := 8) rfl; have hrw := HasB.rowOf HX.out.1)
  go_wp2_with fail
  all_goals
    (clear k0 k1 k2 k3 k4 k5 k6 k7 d0 d1 d2 e0 e1 e2 hro hrw)
    replace HX := Lib.hid HX.out.drew
    go_region_held3 (fun w' => w'.cell? ⟨w.heap.size, 0, none⟩ = some (.int .i64 h.sp) ∧ w'.cell? ⟨w.heap.size, 1, none⟩ = some (.int .i64 h.dp) ∧ w'.cell? ⟨w.heap.size, 2, none⟩ = some (.int .u32 h.sq) ∧ w'.cell? ⟨w.heap.size, 3, none⟩ = some (.int .u32 h.ak) ∧ w'.cell? ⟨w.heap.size, 4, none⟩ = some (.int .i64 h.fl) ∧ w'.cell? ⟨w.heap.size, 5, none⟩ = some (.int .i64 h.wn) ∧ w'.cell? ⟨w.heap.size, 6, none⟩ = some (.int .i64 h.ur) ∧ w'.cell? ⟨w.heap.size, 7, none⟩ = some (.string h.op) ∧ w'.cell? ⟨w.heap.size + 1, 0, none⟩ = some (.bool v) ∧ w'.cell? ⟨w.heap.size + 1, 1, none⟩ = some (.int .u64 hi) ∧ w'.cell? ⟨w.heap.size + 1, 2, none⟩ = some (.int .u64 lo) ∧ w'.cell? ⟨w.heap.size + 1 + 1, 0, none⟩ = some (.bool v') ∧ w'.cell? ⟨w.heap.size + 1 + 1, 1, none⟩ = some (.int .u64 hi') ∧ w'.cell? ⟨w.heap.size + 1 + 1, 2, none⟩ = some (.int .u64 lo')) (exact R07.cells14 HX.out) (first | (go_at_call 9; (with_reducible refine (of7_any h _).mono ?_); rintro e wa ⟨rfl, hb⟩; replace HX := Lib.hid (HX.out.next hb); clear hb) | (go_at_call 8; (with_reducible refine (P1.out _).mono ?_); rintro e wa ⟨rfl, hb⟩; replace HX := Lib.hid (HX.out.next hb); clear hb))
    all_goals
      (obtain ⟨k0, k1, k2, k3, k4, k5, k6, k7, d0, d1, d2, e0, e1, e2⟩ := R07.cells14 HX.out; have hro := HasB.rowOk HX.out.1 (n := 8) rfl; have hrw := HasB.rowOf HX.out.1)
      go_wp2_with (first | (go_at_call 14; (with_reducible refine (LS.out _).mono ?_); rintro e wl ⟨ll, rfl, _, hb⟩; (clear k0 k1 k2 k3 k4 k5 k6 k7 d0 d1 d2 e0 e1 e2 hro hrw); replace HX := Lib.hid (HX.out.next hb); clear hb; (obtain ⟨k0, k1, k2, k3, k4, k5, k6, k7, d0, d1, d2, e0, e1, e2⟩ := R07.cells14 HX.out; have hro := HasB.rowOk HX.out.1 (n := 8) rfl; have hrw := HasB.rowOf HX.out.1)) | (go_at_call 7; (with_reducible refine (AW.out _).mono ?_); rintro e wz ⟨rfl, hb⟩; replace HX := Lib.hid (HX.out.next hb); clear hb) | fail)
      go_ret
      exact ⟨rfl, HX.out.2.2.2.1⟩
set_option maxRecDepth 100000 in
set_option maxHeartbeats 6000000 in
theorem back_read_badB (K : TcpOK) (h : T7) (v : Bool) (hi lo : Int) (v' : Bool) (hi' lo' : Int) (p s : ByteArray) (k : Int) (hk : 0 ≤ k ∧ k < 65536) (hb7 : B7 h) (hA : BA hi lo hi' lo') (hn : small3 h.op p s 200 = true) (w : World) (hg : errG7 s (pseudoL v hi lo v' hi' lo' 6 (s.size : Int)) = 0) (he : err7 h (pseudoL v hi lo v' hi' lo' 6 (20 + (h.op.size : Int) + (p.size : Int))) p = 0) (ho : optsL h.op 0 = none) (hc : s.extract 16 18 = ⟨#[255, 255]⟩) (hd : (out7 (headG7 s (pseudoL v hi lo v' hi' lo' 6 (s.size : Int))) (pseudoL v hi lo v' hi' lo' 6 (s.size : Int)) (payG7 s (pseudoL v hi lo v' hi' lo' 6 (s.size : Int)))).extract 16 18 ≠ ⟨#[255, 255]⟩) : Calls Try.prog 5 #[.agg #[.int .i64 h.sp, .int .i64 h.dp, .int .u32 h.sq, .int .u32 h.ak, .int .i64 h.fl, .int .i64 h.wn, .int .i64 h.ur, .string h.op], .agg #[.bool v, .int .u64 hi, .int .u64 lo], .agg #[.bool v', .int .u64 hi', .int .u64 lo'], .string p, .string s, .int .u16 k] w fun e w' => e = .returned (.bool true) ∧ Below w.heap.size w w' := by
  have AW := Lib.hid (awake07 K)
  obtain ⟨n1, n2, n3⟩ := of_decide_eq_true hn
  obtain ⟨f1, f2, f3, f4, f5, f6, f7⟩ := fwd7_same hg (pseudoL_len _ _ _ _ _ _ _ _).2 (by omega)
  obtain ⟨h20, _⟩ := errG7_ok hg
  have G1 := Lib.hid (K.get s v hi lo v' hi' lo' hA (by omega) _ rfl)
  rw [hg] at G1
  have PX := Lib.hid (K.put (headG7 s (pseudoL v hi lo v' hi' lo' 6 (s.size : Int))) v hi lo v' hi' lo' (payG7 s (pseudoL v hi lo v' hi' lo' 6 (s.size : Int))) f2 hA (by omega) (by omega) (pseudoL v hi lo v' hi' lo' 6 (s.size : Int)) (by rw [show 20 + ((headG7 s (pseudoL v hi lo v' hi' lo' 6 (s.size : Int))).op.size : Int) + ((payG7 s (pseudoL v hi lo v' hi' lo' 6 (s.size : Int))).size : Int) = (s.size : Int) by omega]))
  rw [f1] at PX
  clear f1 f2 f3 hg
  generalize out7 (headG7 s (pseudoL v hi lo v' hi' lo' 6 (s.size : Int))) (pseudoL v hi lo v' hi' lo' 6 (s.size : Int)) (payG7 s (pseudoL v hi lo v' hi' lo' 6 (s.size : Int))) = T1 at *
  generalize headG7 s (pseudoL v hi lo v' hi' lo' 6 (s.size : Int)) = g at *
  generalize payG7 s (pseudoL v hi lo v' hi' lo' 6 (s.size : Int)) = y at *
  have i16 : (16 : Int) ≤ s.size := by omega
  have i18 : (18 : Int) ≤ s.size := by omega
  clear f7 h20
  have P1 := Lib.hid (K.put h v hi lo v' hi' lo' p hb7 hA (by omega) (by omega) _ rfl)
  rw [he] at P1
  generalize out7 h (pseudoL v hi lo v' hi' lo' 6 (20 + (h.op.size : Int) + (p.size : Int))) p = T at P1
  have LS := K.list h.op (by omega)
  rw [(opts_none ho).2] at LS
  have LS := Lib.hid LS
  (have hd2 := bytes_ne (l := [255, 255]) hd); clear hd
  clear he hA hb7 K hk ho
  have HX : Hid (Held3 w.heap.size w.heap.size 24 #[.int .i64 h.sp, .int .i64 h.dp, .int .u32 h.sq, .int .u32 h.ak, .int .i64 h.fl, .int .i64 h.wn, .int .i64 h.ur, .string h.op] (w.heap.size + 1) 27 #[.bool v, .int .u64 hi, .int .u64 lo] (w.heap.size + 1 + 1) 27 #[.bool v', .int .u64 hi', .int .u64 lo'] w (((w.alloc (.cells #[.int .i64 h.sp, .int .i64 h.dp, .int .u32 h.sq, .int .u32 h.ak, .int .i64 h.fl, .int .i64 h.wn, .int .i64 h.ur, .string h.op] 24)).alloc (.cells #[.bool v, .int .u64 hi, .int .u64 lo] 27)).alloc (.cells #[.bool v', .int .u64 hi', .int .u64 lo'] 27))) := by
    refine Lib.hid ⟨((HasB.new w _ _).alloc _).alloc _, ?_, ?_, (((Below.refl _ _).alloc (Nat.le_refl _) _).alloc (by simp) _).alloc (by simp; omega) _, by simp; omega⟩
    · have := (HasB.new (w.alloc (.cells #[.int .i64 h.sp, .int .i64 h.dp, .int .u32 h.sq, .int .u32 h.ak, .int .i64 h.fl, .int .i64 h.wn, .int .i64 h.ur, .string h.op] 24)) 27 #[.bool v, .int .u64 hi, .int .u64 lo]).alloc (.cells #[.bool v', .int .u64 hi', .int .u64 lo'] 27)
      simpa using this
    · have := HasB.new ((w.alloc (.cells #[.int .i64 h.sp, .int .i64 h.dp, .int .u32 h.sq, .int .u32 h.ak, .int .i64 h.fl, .int .i64 h.wn, .int .i64 h.ur, .string h.op] 24)).alloc (.cells #[.bool v, .int .u64 hi, .int .u64 lo] 27)) 27 #[.bool v', .int .u64 hi', .int .u64 lo']
      simpa using this
  obtain ⟨k0, k1, k2, k3, k4, k5, k6, c7, d0, d1, d2, e0, e1, e2⟩ := R07.cells14 HX.out
  have hS := small_any (w.heap.size + 1 + 1 + 1) 3 h.op p s 200 (by omega)
  rw [hn, show ((200 : Nat) : Int) = 200 from rfl] at hS
  have HS := Lib.hid hS
  have HB : HasB (((((w.alloc (.cells #[.int .i64 h.sp, .int .i64 h.dp, .int .u32 h.sq, .int .u32 h.ak, .int .i64 h.fl, .int .i64 h.wn, .int .i64 h.ur, .string h.op] 24)).alloc (.cells #[.bool v, .int .u64 hi, .int .u64 lo] 27)).alloc (.cells #[.bool v', .int .u64 hi', .int .u64 lo'] 27))).alloc (.cells #[.string h.op, .string p, .string s] 9)) (w.heap.size + 1 + 1 + 1) 9 #[.string h.op, .string p, .string s] := by
    have := HasB.new (((w.alloc (.cells #[.int .i64 h.sp, .int .i64 h.dp, .int .u32 h.sq, .int .u32 h.ak, .int .i64 h.fl, .int .i64 h.wn, .int .i64 h.ur, .string h.op] 24)).alloc (.cells #[.bool v, .int .u64 hi, .int .u64 lo] 27)).alloc (.cells #[.bool v', .int .u64 hi', .int .u64 lo'] 27)) 9 #[.string h.op, .string p, .string s]
    simpa using this
  clear hS k0 k1 k2 k3 k4 k5 k6 d0 d1 d2 e0 e1 e2
  go_enter Try.func5, Try.ntmps5
  go_wp2_with fail
  (with_reducible refine (HS.out _ (HasB.cell HB 0 _ rfl) (HasB.cell HB 1 _ rfl) (HasB.cell HB 2 _ rfl)).mono ?_)
  rintro e wq ⟨rfl, hwq⟩
  replace HX := Lib.hid (HX.out.alloc (.cells #[.string h.op, .string p, .string s] 9))
  rw [hwq] at HX
  clear HB HS c7 hwq
  (obtain ⟨k0, k1, k2, k3, k4, k5, k6, k7, d0, d1, d2, e0, e1, e2⟩ := R07.cells14 HX.out; have hro := HasB.rowOk HX.out.1 (n := 8) rfl; have hrw := HasB.rowOf HX.out.1)
  go_wp2_with (first | (go_at_call 11; (with_reducible refine (G1.out _).mono ?_); rintro e wx ⟨rfl, hb⟩; (clear k0 k1 k2 k3 k4 k5 k6 k7 d0 d1 d2 e0 e1 e2 hro hrw); replace HX := Lib.hid ((HX.out.next hb).alloc (.cells #[.int .i64 g.sp, .int .i64 g.dp, .int .u32 g.sq, .int .u32 g.ak, .int .i64 g.fl, .int .i64 g.wn, .int .i64 g.ur, .string g.op] 34)); clear hb; (obtain ⟨k0, k1, k2, k3, k4, k5, k6, k7, d0, d1, d2, e0, e1, e2⟩ := R07.cells14 HX.out; have hro := HasB.rowOk HX.out.1 (n := 8) rfl; have hrw := HasB.rowOf HX.out.1)) | (go_at_call 8; (with_reducible refine (PX.out _).mono ?_); rintro e wa ⟨rfl, hb⟩; (clear k0 k1 k2 k3 k4 k5 k6 k7 d0 d1 d2 e0 e1 e2 hro hrw); replace HX := Lib.hid (HX.out.next hb); clear hb; (obtain ⟨k0, k1, k2, k3, k4, k5, k6, k7, d0, d1, d2, e0, e1, e2⟩ := R07.cells14 HX.out; have hro := HasB.rowOk HX.out.1 (n := 8) rfl; have hrw := HasB.rowOf HX.out.1)) | fail)
  go_quiet (fail)
  (clear k0 k1 k2 k3 k4 k5 k6 k7 d0 d1 d2 e0 e1 e2 hro hrw)
  replace HX := Lib.hid (HX.out.drewN nq)
  (obtain ⟨k0, k1, k2, k3, k4, k5, k6, k7, d0, d1, d2, e0, e1, e2⟩ := R07.cells14 HX.out; have hro := HasB.rowOk HX.out.1 (n := 8) rfl; have hrw := HasB.rowOf HX.out.1)
  go_wp2_with fail
  all_goals
    (clear k0 k1 k2 k3 k4 k5 k6 k7 d0 d1 d2 e0 e1 e2 hro hrw)
    replace HX := Lib.hid HX.out.drew
    go_region_held3 (fun w' => w'.cell? ⟨w.heap.size, 0, none⟩ = some (.int .i64 h.sp) ∧ w'.cell? ⟨w.heap.size, 1, none⟩ = some (.int .i64 h.dp) ∧ w'.cell? ⟨w.heap.size, 2, none⟩ = some (.int .u32 h.sq) ∧ w'.cell? ⟨w.heap.size, 3, none⟩ = some (.int .u32 h.ak) ∧ w'.cell? ⟨w.heap.size, 4, none⟩ = some (.int .i64 h.fl) ∧ w'.cell? ⟨w.heap.size, 5, none⟩ = some (.int .i64 h.wn) ∧ w'.cell? ⟨w.heap.size, 6, none⟩ = some (.int .i64 h.ur) ∧ w'.cell? ⟨w.heap.size, 7, none⟩ = some (.string h.op) ∧ w'.cell? ⟨w.heap.size + 1, 0, none⟩ = some (.bool v) ∧ w'.cell? ⟨w.heap.size + 1, 1, none⟩ = some (.int .u64 hi) ∧ w'.cell? ⟨w.heap.size + 1, 2, none⟩ = some (.int .u64 lo) ∧ w'.cell? ⟨w.heap.size + 1 + 1, 0, none⟩ = some (.bool v') ∧ w'.cell? ⟨w.heap.size + 1 + 1, 1, none⟩ = some (.int .u64 hi') ∧ w'.cell? ⟨w.heap.size + 1 + 1, 2, none⟩ = some (.int .u64 lo')) (exact R07.cells14 HX.out) (first | (go_at_call 9; (with_reducible refine (of7_any h _).mono ?_); rintro e wa ⟨rfl, hb⟩; replace HX := Lib.hid (HX.out.next hb); clear hb) | (go_at_call 8; (with_reducible refine (P1.out _).mono ?_); rintro e wa ⟨rfl, hb⟩; replace HX := Lib.hid (HX.out.next hb); clear hb))
    all_goals
      (obtain ⟨k0, k1, k2, k3, k4, k5, k6, k7, d0, d1, d2, e0, e1, e2⟩ := R07.cells14 HX.out; have hro := HasB.rowOk HX.out.1 (n := 8) rfl; have hrw := HasB.rowOf HX.out.1)
      go_wp2_with (first | (go_at_call 14; (with_reducible refine (LS.out _).mono ?_); rintro e wl ⟨ll, rfl, _, hb⟩; (clear k0 k1 k2 k3 k4 k5 k6 k7 d0 d1 d2 e0 e1 e2 hro hrw); replace HX := Lib.hid (HX.out.next hb); clear hb; (obtain ⟨k0, k1, k2, k3, k4, k5, k6, k7, d0, d1, d2, e0, e1, e2⟩ := R07.cells14 HX.out; have hro := HasB.rowOk HX.out.1 (n := 8) rfl; have hrw := HasB.rowOf HX.out.1)) | (go_at_call 7; (with_reducible refine (AW.out _).mono ?_); rintro e wz ⟨rfl, hb⟩; replace HX := Lib.hid (HX.out.next hb); clear hb) | fail)
      go_ret
      exact ⟨rfl, HX.out.2.2.2.1⟩
set_option maxRecDepth 100000 in
set_option maxHeartbeats 6000000 in
theorem back_read_okA (K : TcpOK) (h : T7) (v : Bool) (hi lo : Int) (v' : Bool) (hi' lo' : Int) (p s : ByteArray) (k : Int) (hk : 0 ≤ k ∧ k < 65536) (hb7 : B7 h) (hA : BA hi lo hi' lo') (hn : small3 h.op p s 200 = true) (w : World) (hg : errG7 s (pseudoL v hi lo v' hi' lo' 6 (s.size : Int)) = 0) (he : err7 h (pseudoL v hi lo v' hi' lo' 6 (20 + (h.op.size : Int) + (p.size : Int))) p = 0) (ho : optsL h.op 0 ≠ none) (hc : (out7 (headG7 s (pseudoL v hi lo v' hi' lo' 6 (s.size : Int))) (pseudoL v hi lo v' hi' lo' 6 (s.size : Int)) (payG7 s (pseudoL v hi lo v' hi' lo' 6 (s.size : Int)))).extract 16 18 = s.extract 16 18) : Calls Try.prog 5 #[.agg #[.int .i64 h.sp, .int .i64 h.dp, .int .u32 h.sq, .int .u32 h.ak, .int .i64 h.fl, .int .i64 h.wn, .int .i64 h.ur, .string h.op], .agg #[.bool v, .int .u64 hi, .int .u64 lo], .agg #[.bool v', .int .u64 hi', .int .u64 lo'], .string p, .string s, .int .u16 k] w fun e w' => e = .returned (.bool true) ∧ Below w.heap.size w w' := by
  have AW := Lib.hid (awake07 K)
  obtain ⟨n1, n2, n3⟩ := of_decide_eq_true hn
  obtain ⟨f1, f2, f3, f4, f5, f6, f7⟩ := fwd7_same hg (pseudoL_len _ _ _ _ _ _ _ _).2 (by omega)
  obtain ⟨h20, _⟩ := errG7_ok hg
  have G1 := Lib.hid (K.get s v hi lo v' hi' lo' hA (by omega) _ rfl)
  rw [hg] at G1
  have PX := Lib.hid (K.put (headG7 s (pseudoL v hi lo v' hi' lo' 6 (s.size : Int))) v hi lo v' hi' lo' (payG7 s (pseudoL v hi lo v' hi' lo' 6 (s.size : Int))) f2 hA (by omega) (by omega) (pseudoL v hi lo v' hi' lo' 6 (s.size : Int)) (by rw [show 20 + ((headG7 s (pseudoL v hi lo v' hi' lo' 6 (s.size : Int))).op.size : Int) + ((payG7 s (pseudoL v hi lo v' hi' lo' 6 (s.size : Int))).size : Int) = (s.size : Int) by omega]))
  rw [f1] at PX
  clear f1 f2 f3 hg
  generalize out7 (headG7 s (pseudoL v hi lo v' hi' lo' 6 (s.size : Int))) (pseudoL v hi lo v' hi' lo' 6 (s.size : Int)) (payG7 s (pseudoL v hi lo v' hi' lo' 6 (s.size : Int))) = T1 at *
  generalize headG7 s (pseudoL v hi lo v' hi' lo' 6 (s.size : Int)) = g at *
  generalize payG7 s (pseudoL v hi lo v' hi' lo' 6 (s.size : Int)) = y at *
  have i16 : (16 : Int) ≤ s.size := by omega
  have i18 : (18 : Int) ≤ s.size := by omega
  clear f7 h20
  have hPe : ((pseudoL v hi lo v' hi' lo' 6 (20 + (h.op.size : Int) + (p.size : Int)))).length % 2 = 0 := (pseudoL_len _ _ _ _ _ _ _ _).2
  obtain ⟨b1, b2, b3, b4⟩ := back7_ok he hb7 hPe
  obtain ⟨b5, b6, b7⟩ := b4 ho
  have HF := Lib.hid (fun j mm b hj hj2 hmm hb sS hS => flip7_told he hb7 hPe j mm b hj hj2 hmm hb sS hS)
  have P1 := Lib.hid (K.put h v hi lo v' hi' lo' p hb7 hA (by omega) (by omega) _ rfl)
  rw [he] at P1
  have GX := fun (S : ByteArray) (hS : S.size = 20 + h.op.size + p.size) => K.get S v hi lo v' hi' lo' hA (by omega) (pseudoL v hi lo v' hi' lo' 6 (20 + (h.op.size : Int) + (p.size : Int))) (by rw [hS]; congr 1)
  have G2 := GX _ b1
  rw [b5, b6, b7] at G2
  have G2 := Lib.hid G2
  have GX := Lib.hid GX
  have hLS := K.list h.op (by omega)
  rw [show optsE h.op = 0 by unfold optsE; cases hoo : optsL h.op 0 with | none => exact absurd hoo ho | some l => rfl] at hLS
  have LS := Lib.hid hLS
  clear hLS b2 b3 b4 b5 b6 b7 hPe
  generalize out7 h (pseudoL v hi lo v' hi' lo' 6 (20 + (h.op.size : Int) + (p.size : Int))) p = T at *
  generalize (pseudoL v hi lo v' hi' lo' 6 (20 + (h.op.size : Int) + (p.size : Int))) = Pa at *
  obtain ⟨KK, k1, k2, k3⟩ := place14 k (T.size : Int) (by omega) (by omega)
  have hK := Lib.hid k3
  have t1 : ¬ ((T.size : Int) < 20) := by omega
  have B1 := Lib.hid b1
  have B2 : T.size ≤ 500 := by omega
  have B3 : 20 ≤ T.size := by omega
  have k4 : KK < 8 * T.size := by omega
  clear k3 k2 b1
  skip
  clear he hA hb7 K ho
  have HX : Hid (Held3 w.heap.size w.heap.size 24 #[.int .i64 h.sp, .int .i64 h.dp, .int .u32 h.sq, .int .u32 h.ak, .int .i64 h.fl, .int .i64 h.wn, .int .i64 h.ur, .string h.op] (w.heap.size + 1) 27 #[.bool v, .int .u64 hi, .int .u64 lo] (w.heap.size + 1 + 1) 27 #[.bool v', .int .u64 hi', .int .u64 lo'] w (((w.alloc (.cells #[.int .i64 h.sp, .int .i64 h.dp, .int .u32 h.sq, .int .u32 h.ak, .int .i64 h.fl, .int .i64 h.wn, .int .i64 h.ur, .string h.op] 24)).alloc (.cells #[.bool v, .int .u64 hi, .int .u64 lo] 27)).alloc (.cells #[.bool v', .int .u64 hi', .int .u64 lo'] 27))) := by
    refine Lib.hid ⟨((HasB.new w _ _).alloc _).alloc _, ?_, ?_, (((Below.refl _ _).alloc (Nat.le_refl _) _).alloc (by simp) _).alloc (by simp; omega) _, by simp; omega⟩
    · have := (HasB.new (w.alloc (.cells #[.int .i64 h.sp, .int .i64 h.dp, .int .u32 h.sq, .int .u32 h.ak, .int .i64 h.fl, .int .i64 h.wn, .int .i64 h.ur, .string h.op] 24)) 27 #[.bool v, .int .u64 hi, .int .u64 lo]).alloc (.cells #[.bool v', .int .u64 hi', .int .u64 lo'] 27)
      simpa using this
    · have := HasB.new ((w.alloc (.cells #[.int .i64 h.sp, .int .i64 h.dp, .int .u32 h.sq, .int .u32 h.ak, .int .i64 h.fl, .int .i64 h.wn, .int .i64 h.ur, .string h.op] 24)).alloc (.cells #[.bool v, .int .u64 hi, .int .u64 lo] 27)) 27 #[.bool v', .int .u64 hi', .int .u64 lo']
      simpa using this
  obtain ⟨k0, k1, k2, k3, k4, k5, k6, c7, d0, d1, d2, e0, e1, e2⟩ := R07.cells14 HX.out
  have hS := small_any (w.heap.size + 1 + 1 + 1) 3 h.op p s 200 (by omega)
  rw [hn, show ((200 : Nat) : Int) = 200 from rfl] at hS
  have HS := Lib.hid hS
  have HB : HasB (((((w.alloc (.cells #[.int .i64 h.sp, .int .i64 h.dp, .int .u32 h.sq, .int .u32 h.ak, .int .i64 h.fl, .int .i64 h.wn, .int .i64 h.ur, .string h.op] 24)).alloc (.cells #[.bool v, .int .u64 hi, .int .u64 lo] 27)).alloc (.cells #[.bool v', .int .u64 hi', .int .u64 lo'] 27))).alloc (.cells #[.string h.op, .string p, .string s] 9)) (w.heap.size + 1 + 1 + 1) 9 #[.string h.op, .string p, .string s] := by
    have := HasB.new (((w.alloc (.cells #[.int .i64 h.sp, .int .i64 h.dp, .int .u32 h.sq, .int .u32 h.ak, .int .i64 h.fl, .int .i64 h.wn, .int .i64 h.ur, .string h.op] 24)).alloc (.cells #[.bool v, .int .u64 hi, .int .u64 lo] 27)).alloc (.cells #[.bool v', .int .u64 hi', .int .u64 lo'] 27)) 9 #[.string h.op, .string p, .string s]
    simpa using this
  clear hS k0 k1 k2 k3 k4 k5 k6 d0 d1 d2 e0 e1 e2
  go_enter Try.func5, Try.ntmps5
  go_wp2_with fail
  (with_reducible refine (HS.out _ (HasB.cell HB 0 _ rfl) (HasB.cell HB 1 _ rfl) (HasB.cell HB 2 _ rfl)).mono ?_)
  rintro e wq ⟨rfl, hwq⟩
  replace HX := Lib.hid (HX.out.alloc (.cells #[.string h.op, .string p, .string s] 9))
  rw [hwq] at HX
  clear HB HS c7 hwq
  (obtain ⟨k0, k1, k2, k3, k4, k5, k6, k7, d0, d1, d2, e0, e1, e2⟩ := R07.cells14 HX.out; have hro := HasB.rowOk HX.out.1 (n := 8) rfl; have hrw := HasB.rowOf HX.out.1)
  go_wp2_with (first | (go_at_call 11; (with_reducible refine (G1.out _).mono ?_); rintro e wx ⟨rfl, hb⟩; (clear k0 k1 k2 k3 k4 k5 k6 k7 d0 d1 d2 e0 e1 e2 hro hrw); replace HX := Lib.hid ((HX.out.next hb).alloc (.cells #[.int .i64 g.sp, .int .i64 g.dp, .int .u32 g.sq, .int .u32 g.ak, .int .i64 g.fl, .int .i64 g.wn, .int .i64 g.ur, .string g.op] 34)); clear hb; (obtain ⟨k0, k1, k2, k3, k4, k5, k6, k7, d0, d1, d2, e0, e1, e2⟩ := R07.cells14 HX.out; have hro := HasB.rowOk HX.out.1 (n := 8) rfl; have hrw := HasB.rowOf HX.out.1)) | (go_at_call 8; (with_reducible refine (PX.out _).mono ?_); rintro e wa ⟨rfl, hb⟩; (clear k0 k1 k2 k3 k4 k5 k6 k7 d0 d1 d2 e0 e1 e2 hro hrw); replace HX := Lib.hid (HX.out.next hb); clear hb; (obtain ⟨k0, k1, k2, k3, k4, k5, k6, k7, d0, d1, d2, e0, e1, e2⟩ := R07.cells14 HX.out; have hro := HasB.rowOk HX.out.1 (n := 8) rfl; have hrw := HasB.rowOf HX.out.1)) | fail)
  go_quiet (fail)
  (clear k0 k1 k2 k3 k4 k5 k6 k7 d0 d1 d2 e0 e1 e2 hro hrw)
  replace HX := Lib.hid (HX.out.drewN nq)
  (obtain ⟨k0, k1, k2, k3, k4, k5, k6, k7, d0, d1, d2, e0, e1, e2⟩ := R07.cells14 HX.out; have hro := HasB.rowOk HX.out.1 (n := 8) rfl; have hrw := HasB.rowOf HX.out.1)
  go_wp2_with fail
  all_goals
    (clear k0 k1 k2 k3 k4 k5 k6 k7 d0 d1 d2 e0 e1 e2 hro hrw)
    replace HX := Lib.hid HX.out.drew
    go_region_held3 (fun w' => w'.cell? ⟨w.heap.size, 0, none⟩ = some (.int .i64 h.sp) ∧ w'.cell? ⟨w.heap.size, 1, none⟩ = some (.int .i64 h.dp) ∧ w'.cell? ⟨w.heap.size, 2, none⟩ = some (.int .u32 h.sq) ∧ w'.cell? ⟨w.heap.size, 3, none⟩ = some (.int .u32 h.ak) ∧ w'.cell? ⟨w.heap.size, 4, none⟩ = some (.int .i64 h.fl) ∧ w'.cell? ⟨w.heap.size, 5, none⟩ = some (.int .i64 h.wn) ∧ w'.cell? ⟨w.heap.size, 6, none⟩ = some (.int .i64 h.ur) ∧ w'.cell? ⟨w.heap.size, 7, none⟩ = some (.string h.op) ∧ w'.cell? ⟨w.heap.size + 1, 0, none⟩ = some (.bool v) ∧ w'.cell? ⟨w.heap.size + 1, 1, none⟩ = some (.int .u64 hi) ∧ w'.cell? ⟨w.heap.size + 1, 2, none⟩ = some (.int .u64 lo) ∧ w'.cell? ⟨w.heap.size + 1 + 1, 0, none⟩ = some (.bool v') ∧ w'.cell? ⟨w.heap.size + 1 + 1, 1, none⟩ = some (.int .u64 hi') ∧ w'.cell? ⟨w.heap.size + 1 + 1, 2, none⟩ = some (.int .u64 lo')) (exact R07.cells14 HX.out) (first | (go_at_call 9; (with_reducible refine (of7_any h _).mono ?_); rintro e wa ⟨rfl, hb⟩; replace HX := Lib.hid (HX.out.next hb); clear hb) | (go_at_call 8; (with_reducible refine (P1.out _).mono ?_); rintro e wa ⟨rfl, hb⟩; replace HX := Lib.hid (HX.out.next hb); clear hb))
    all_goals
      (obtain ⟨k0, k1, k2, k3, k4, k5, k6, k7, d0, d1, d2, e0, e1, e2⟩ := R07.cells14 HX.out; have hro := HasB.rowOk HX.out.1 (n := 8) rfl; have hrw := HasB.rowOf HX.out.1)
      go_wp2_with (first | (go_at_call 14; (with_reducible refine (LS.out _).mono ?_); rintro e wl ⟨ll, rfl, _, hb⟩; (clear k0 k1 k2 k3 k4 k5 k6 k7 d0 d1 d2 e0 e1 e2 hro hrw); replace HX := Lib.hid (HX.out.next hb); clear hb; (obtain ⟨k0, k1, k2, k3, k4, k5, k6, k7, d0, d1, d2, e0, e1, e2⟩ := R07.cells14 HX.out; have hro := HasB.rowOk HX.out.1 (n := 8) rfl; have hrw := HasB.rowOf HX.out.1)) | (go_at_call 11; (with_reducible refine (G2.out _).mono ?_); rintro e wc ⟨rfl, hb⟩; (clear k0 k1 k2 k3 k4 k5 k6 k7 d0 d1 d2 e0 e1 e2 hro hrw); replace HX := Lib.hid ((HX.out.next hb).alloc (.cells #[.int .i64 h.sp, .int .i64 h.dp, .int .u32 h.sq, .int .u32 h.ak, .int .i64 h.fl, .int .i64 h.wn, .int .i64 h.ur, .string h.op] 34)); have HY := Lib.hid (HasB.new wc 34 #[.int .i64 h.sp, .int .i64 h.dp, .int .u32 h.sq, .int .u32 h.ak, .int .i64 h.fl, .int .i64 h.wn, .int .i64 h.ur, .string h.op]); clear hb) | fail)
      replace HX := Lib.hid HX.out.drew
      replace HY := Lib.hid (HasB.drew HY.out)
      go_region_held3 (fun w' => w'.cell? ⟨w.heap.size, 0, none⟩ = some (.int .i64 h.sp) ∧ w'.cell? ⟨w.heap.size, 1, none⟩ = some (.int .i64 h.dp) ∧ w'.cell? ⟨w.heap.size, 2, none⟩ = some (.int .u32 h.sq) ∧ w'.cell? ⟨w.heap.size, 3, none⟩ = some (.int .u32 h.ak) ∧ w'.cell? ⟨w.heap.size, 4, none⟩ = some (.int .i64 h.fl) ∧ w'.cell? ⟨w.heap.size, 5, none⟩ = some (.int .i64 h.wn) ∧ w'.cell? ⟨w.heap.size, 6, none⟩ = some (.int .i64 h.ur) ∧ w'.cell? ⟨w.heap.size, 7, none⟩ = some (.string h.op) ∧ w'.cell? ⟨wc.heap.size, 0, none⟩ = some (.int .i64 h.sp) ∧ w'.cell? ⟨wc.heap.size, 1, none⟩ = some (.int .i64 h.dp) ∧ w'.cell? ⟨wc.heap.size, 2, none⟩ = some (.int .u32 h.sq) ∧ w'.cell? ⟨wc.heap.size, 3, none⟩ = some (.int .u32 h.ak) ∧ w'.cell? ⟨wc.heap.size, 4, none⟩ = some (.int .i64 h.fl) ∧ w'.cell? ⟨wc.heap.size, 5, none⟩ = some (.int .i64 h.wn) ∧ w'.cell? ⟨wc.heap.size, 6, none⟩ = some (.int .i64 h.ur) ∧ w'.cell? ⟨wc.heap.size, 7, none⟩ = some (.string h.op)) (exact cells16H HX.out HY.out) (first | (go_at_call 13; (with_reducible refine (back7_any h _).mono ?_); rintro e wd ⟨rfl, hb⟩; replace HY := Lib.hid (HasB.below HY.out hb HY.out.lt); replace HX := Lib.hid (HX.out.next hb); clear hb))
      all_goals
        clear HY
        have hcv := fun W => run_bytes_of_string (P := Try.prog) W 9 58 5 T (by kernel_rfl) (by kernel_rfl) (by kernel_rfl)
        go_wp2_with fail
        rw [hK.out]
        have HB : Hid ((wd.alloc (.cells (bytesRow T (grownCap wd T.size 0 5)) 5 ((bytesRow T (grownCap wd T.size 0 5)).size, (bytesRow T (grownCap wd T.size 0 5)).size + 1))).drew.heap[wd.heap.size]? = some (.cells (bytesRow T (grownCap wd T.size 0 5)) 5 ((bytesRow T (grownCap wd T.size 0 5)).size, (bytesRow T (grownCap wd T.size 0 5)).size + 1))) := Lib.hid (heap_alloc_new wd _)
        have l1 := HX.out.1.lt
        have l2 := HX.out.2.1.lt
        have l3 := HX.out.2.2.1.lt
        have l4 := HX.out.2.2.2.2
        replace HX := Lib.hid (HX.out.alloc (.cells (bytesRow T (grownCap wd T.size 0 5)) 5 ((bytesRow T (grownCap wd T.size 0 5)).size, (bytesRow T (grownCap wd T.size 0 5)).size + 1))).drew
        revert HB HX
        generalize grownCap wd T.size 0 5 = cap
        generalize (World.alloc wd _).drew = X
        intro HB HX
        have c := bytes_cell HB.out (KK / 8) (by omega)
        have f := bytes_free HB.out (KK / 8) (by omega)
        have i1 : ((KK : Int) / 8) < T.size := by omega
        have hne : errG7 (flipS T KK) Pa = 4 := HF.out (KK / 8) (KK % 8) _ (by omega) (by have := B1.out; omega) (by omega) (flip_byte T KK) (flipS T KK) (by simp [flipS])
        have G3 := GX.out (flipS T KK) (by rw [flipS_size]; exact B1.out)
        rw [hne] at G3
        have G3 := Lib.hid G3
        clear hne HF GX
        generalize headG7 (flipS T KK) Pa = g3 at G3
        generalize payG7 (flipS T KK) Pa = y3 at G3
        go_region
        all_goals
          rw [xor_turn (bt T (KK / 8)) (KK % 8) (bt_lt _ _) (by omega)]
          have hcv3 := turned_conv X wd.heap.size cap KK T _ HB.out (by omega)
          replace HX := Lib.hid (HX.out.setCell wd.heap.size (KK / 8) (.int .u8 ((bt T (KK / 8) ^^^ 2 ^ (KK % 8) : Nat) : Int)) l4 (by omega) (by omega) (by omega)).drew
          clear hcv c f HB
          revert hcv3 HX
          generalize (World.setCell X _ _).drew = Z
          intro hcv3 HX
          (obtain ⟨k0, k1, k2, k3, k4, k5, k6, k7, d0, d1, d2, e0, e1, e2⟩ := R07.cells14 HX.out; have hro := HasB.rowOk HX.out.1 (n := 8) rfl; have hrw := HasB.rowOf HX.out.1)
          go_wp2_with (first | (go_at_call 11; (with_reducible refine (G3.out _).mono ?_); rintro e we ⟨rfl, hb⟩; (clear k0 k1 k2 k3 k4 k5 k6 k7 d0 d1 d2 e0 e1 e2 hro hrw); replace HX := Lib.hid ((HX.out.next hb).alloc (.cells #[.int .i64 g3.sp, .int .i64 g3.dp, .int .u32 g3.sq, .int .u32 g3.ak, .int .i64 g3.fl, .int .i64 g3.wn, .int .i64 g3.ur, .string g3.op] 34)); clear hb) | (go_at_call 7; (with_reducible refine (AW.out _).mono ?_); rintro e wz ⟨rfl, hb⟩; replace HX := Lib.hid (HX.out.next hb); clear hb) | fail)
          go_ret
          exact ⟨rfl, HX.out.2.2.2.1⟩
set_option maxRecDepth 100000 in
set_option maxHeartbeats 6000000 in
theorem back_read_okB (K : TcpOK) (h : T7) (v : Bool) (hi lo : Int) (v' : Bool) (hi' lo' : Int) (p s : ByteArray) (k : Int) (hk : 0 ≤ k ∧ k < 65536) (hb7 : B7 h) (hA : BA hi lo hi' lo') (hn : small3 h.op p s 200 = true) (w : World) (hg : errG7 s (pseudoL v hi lo v' hi' lo' 6 (s.size : Int)) = 0) (he : err7 h (pseudoL v hi lo v' hi' lo' 6 (20 + (h.op.size : Int) + (p.size : Int))) p = 0) (ho : optsL h.op 0 ≠ none) (hc : s.extract 16 18 = ⟨#[255, 255]⟩) (hd : (out7 (headG7 s (pseudoL v hi lo v' hi' lo' 6 (s.size : Int))) (pseudoL v hi lo v' hi' lo' 6 (s.size : Int)) (payG7 s (pseudoL v hi lo v' hi' lo' 6 (s.size : Int)))).extract 16 18 ≠ ⟨#[255, 255]⟩) : Calls Try.prog 5 #[.agg #[.int .i64 h.sp, .int .i64 h.dp, .int .u32 h.sq, .int .u32 h.ak, .int .i64 h.fl, .int .i64 h.wn, .int .i64 h.ur, .string h.op], .agg #[.bool v, .int .u64 hi, .int .u64 lo], .agg #[.bool v', .int .u64 hi', .int .u64 lo'], .string p, .string s, .int .u16 k] w fun e w' => e = .returned (.bool true) ∧ Below w.heap.size w w' := by
  have AW := Lib.hid (awake07 K)
  obtain ⟨n1, n2, n3⟩ := of_decide_eq_true hn
  obtain ⟨f1, f2, f3, f4, f5, f6, f7⟩ := fwd7_same hg (pseudoL_len _ _ _ _ _ _ _ _).2 (by omega)
  obtain ⟨h20, _⟩ := errG7_ok hg
  have G1 := Lib.hid (K.get s v hi lo v' hi' lo' hA (by omega) _ rfl)
  rw [hg] at G1
  have PX := Lib.hid (K.put (headG7 s (pseudoL v hi lo v' hi' lo' 6 (s.size : Int))) v hi lo v' hi' lo' (payG7 s (pseudoL v hi lo v' hi' lo' 6 (s.size : Int))) f2 hA (by omega) (by omega) (pseudoL v hi lo v' hi' lo' 6 (s.size : Int)) (by rw [show 20 + ((headG7 s (pseudoL v hi lo v' hi' lo' 6 (s.size : Int))).op.size : Int) + ((payG7 s (pseudoL v hi lo v' hi' lo' 6 (s.size : Int))).size : Int) = (s.size : Int) by omega]))
  rw [f1] at PX
  clear f1 f2 f3 hg
  generalize out7 (headG7 s (pseudoL v hi lo v' hi' lo' 6 (s.size : Int))) (pseudoL v hi lo v' hi' lo' 6 (s.size : Int)) (payG7 s (pseudoL v hi lo v' hi' lo' 6 (s.size : Int))) = T1 at *
  generalize headG7 s (pseudoL v hi lo v' hi' lo' 6 (s.size : Int)) = g at *
  generalize payG7 s (pseudoL v hi lo v' hi' lo' 6 (s.size : Int)) = y at *
  have i16 : (16 : Int) ≤ s.size := by omega
  have i18 : (18 : Int) ≤ s.size := by omega
  clear f7 h20
  have hPe : ((pseudoL v hi lo v' hi' lo' 6 (20 + (h.op.size : Int) + (p.size : Int)))).length % 2 = 0 := (pseudoL_len _ _ _ _ _ _ _ _).2
  obtain ⟨b1, b2, b3, b4⟩ := back7_ok he hb7 hPe
  obtain ⟨b5, b6, b7⟩ := b4 ho
  have HF := Lib.hid (fun j mm b hj hj2 hmm hb sS hS => flip7_told he hb7 hPe j mm b hj hj2 hmm hb sS hS)
  have P1 := Lib.hid (K.put h v hi lo v' hi' lo' p hb7 hA (by omega) (by omega) _ rfl)
  rw [he] at P1
  have GX := fun (S : ByteArray) (hS : S.size = 20 + h.op.size + p.size) => K.get S v hi lo v' hi' lo' hA (by omega) (pseudoL v hi lo v' hi' lo' 6 (20 + (h.op.size : Int) + (p.size : Int))) (by rw [hS]; congr 1)
  have G2 := GX _ b1
  rw [b5, b6, b7] at G2
  have G2 := Lib.hid G2
  have GX := Lib.hid GX
  have hLS := K.list h.op (by omega)
  rw [show optsE h.op = 0 by unfold optsE; cases hoo : optsL h.op 0 with | none => exact absurd hoo ho | some l => rfl] at hLS
  have LS := Lib.hid hLS
  clear hLS b2 b3 b4 b5 b6 b7 hPe
  generalize out7 h (pseudoL v hi lo v' hi' lo' 6 (20 + (h.op.size : Int) + (p.size : Int))) p = T at *
  generalize (pseudoL v hi lo v' hi' lo' 6 (20 + (h.op.size : Int) + (p.size : Int))) = Pa at *
  obtain ⟨KK, k1, k2, k3⟩ := place14 k (T.size : Int) (by omega) (by omega)
  have hK := Lib.hid k3
  have t1 : ¬ ((T.size : Int) < 20) := by omega
  have B1 := Lib.hid b1
  have B2 : T.size ≤ 500 := by omega
  have B3 : 20 ≤ T.size := by omega
  have k4 : KK < 8 * T.size := by omega
  clear k3 k2 b1
  (have hd2 := bytes_ne (l := [255, 255]) hd); clear hd
  clear he hA hb7 K ho
  have HX : Hid (Held3 w.heap.size w.heap.size 24 #[.int .i64 h.sp, .int .i64 h.dp, .int .u32 h.sq, .int .u32 h.ak, .int .i64 h.fl, .int .i64 h.wn, .int .i64 h.ur, .string h.op] (w.heap.size + 1) 27 #[.bool v, .int .u64 hi, .int .u64 lo] (w.heap.size + 1 + 1) 27 #[.bool v', .int .u64 hi', .int .u64 lo'] w (((w.alloc (.cells #[.int .i64 h.sp, .int .i64 h.dp, .int .u32 h.sq, .int .u32 h.ak, .int .i64 h.fl, .int .i64 h.wn, .int .i64 h.ur, .string h.op] 24)).alloc (.cells #[.bool v, .int .u64 hi, .int .u64 lo] 27)).alloc (.cells #[.bool v', .int .u64 hi', .int .u64 lo'] 27))) := by
    refine Lib.hid ⟨((HasB.new w _ _).alloc _).alloc _, ?_, ?_, (((Below.refl _ _).alloc (Nat.le_refl _) _).alloc (by simp) _).alloc (by simp; omega) _, by simp; omega⟩
    · have := (HasB.new (w.alloc (.cells #[.int .i64 h.sp, .int .i64 h.dp, .int .u32 h.sq, .int .u32 h.ak, .int .i64 h.fl, .int .i64 h.wn, .int .i64 h.ur, .string h.op] 24)) 27 #[.bool v, .int .u64 hi, .int .u64 lo]).alloc (.cells #[.bool v', .int .u64 hi', .int .u64 lo'] 27)
      simpa using this
    · have := HasB.new ((w.alloc (.cells #[.int .i64 h.sp, .int .i64 h.dp, .int .u32 h.sq, .int .u32 h.ak, .int .i64 h.fl, .int .i64 h.wn, .int .i64 h.ur, .string h.op] 24)).alloc (.cells #[.bool v, .int .u64 hi, .int .u64 lo] 27)) 27 #[.bool v', .int .u64 hi', .int .u64 lo']
      simpa using this
  obtain ⟨k0, k1, k2, k3, k4, k5, k6, c7, d0, d1, d2, e0, e1, e2⟩ := R07.cells14 HX.out
  have hS := small_any (w.heap.size + 1 + 1 + 1) 3 h.op p s 200 (by omega)
  rw [hn, show ((200 : Nat) : Int) = 200 from rfl] at hS
  have HS := Lib.hid hS
  have HB : HasB (((((w.alloc (.cells #[.int .i64 h.sp, .int .i64 h.dp, .int .u32 h.sq, .int .u32 h.ak, .int .i64 h.fl, .int .i64 h.wn, .int .i64 h.ur, .string h.op] 24)).alloc (.cells #[.bool v, .int .u64 hi, .int .u64 lo] 27)).alloc (.cells #[.bool v', .int .u64 hi', .int .u64 lo'] 27))).alloc (.cells #[.string h.op, .string p, .string s] 9)) (w.heap.size + 1 + 1 + 1) 9 #[.string h.op, .string p, .string s] := by
    have := HasB.new (((w.alloc (.cells #[.int .i64 h.sp, .int .i64 h.dp, .int .u32 h.sq, .int .u32 h.ak, .int .i64 h.fl, .int .i64 h.wn, .int .i64 h.ur, .string h.op] 24)).alloc (.cells #[.bool v, .int .u64 hi, .int .u64 lo] 27)).alloc (.cells #[.bool v', .int .u64 hi', .int .u64 lo'] 27)) 9 #[.string h.op, .string p, .string s]
    simpa using this
  clear hS k0 k1 k2 k3 k4 k5 k6 d0 d1 d2 e0 e1 e2
  go_enter Try.func5, Try.ntmps5
  go_wp2_with fail
  (with_reducible refine (HS.out _ (HasB.cell HB 0 _ rfl) (HasB.cell HB 1 _ rfl) (HasB.cell HB 2 _ rfl)).mono ?_)
  rintro e wq ⟨rfl, hwq⟩
  replace HX := Lib.hid (HX.out.alloc (.cells #[.string h.op, .string p, .string s] 9))
  rw [hwq] at HX
  clear HB HS c7 hwq
  (obtain ⟨k0, k1, k2, k3, k4, k5, k6, k7, d0, d1, d2, e0, e1, e2⟩ := R07.cells14 HX.out; have hro := HasB.rowOk HX.out.1 (n := 8) rfl; have hrw := HasB.rowOf HX.out.1)
  go_wp2_with (first | (go_at_call 11; (with_reducible refine (G1.out _).mono ?_); rintro e wx ⟨rfl, hb⟩; (clear k0 k1 k2 k3 k4 k5 k6 k7 d0 d1 d2 e0 e1 e2 hro hrw); replace HX := Lib.hid ((HX.out.next hb).alloc (.cells #[.int .i64 g.sp, .int .i64 g.dp, .int .u32 g.sq, .int .u32 g.ak, .int .i64 g.fl, .int .i64 g.wn, .int .i64 g.ur, .string g.op] 34)); clear hb; (obtain ⟨k0, k1, k2, k3, k4, k5, k6, k7, d0, d1, d2, e0, e1, e2⟩ := R07.cells14 HX.out; have hro := HasB.rowOk HX.out.1 (n := 8) rfl; have hrw := HasB.rowOf HX.out.1)) | (go_at_call 8; (with_reducible refine (PX.out _).mono ?_); rintro e wa ⟨rfl, hb⟩; (clear k0 k1 k2 k3 k4 k5 k6 k7 d0 d1 d2 e0 e1 e2 hro hrw); replace HX := Lib.hid (HX.out.next hb); clear hb; (obtain ⟨k0, k1, k2, k3, k4, k5, k6, k7, d0, d1, d2, e0, e1, e2⟩ := R07.cells14 HX.out; have hro := HasB.rowOk HX.out.1 (n := 8) rfl; have hrw := HasB.rowOf HX.out.1)) | fail)
  go_quiet (fail)
  (clear k0 k1 k2 k3 k4 k5 k6 k7 d0 d1 d2 e0 e1 e2 hro hrw)
  replace HX := Lib.hid (HX.out.drewN nq)
  (obtain ⟨k0, k1, k2, k3, k4, k5, k6, k7, d0, d1, d2, e0, e1, e2⟩ := R07.cells14 HX.out; have hro := HasB.rowOk HX.out.1 (n := 8) rfl; have hrw := HasB.rowOf HX.out.1)
  go_wp2_with fail
  all_goals
    (clear k0 k1 k2 k3 k4 k5 k6 k7 d0 d1 d2 e0 e1 e2 hro hrw)
    replace HX := Lib.hid HX.out.drew
    go_region_held3 (fun w' => w'.cell? ⟨w.heap.size, 0, none⟩ = some (.int .i64 h.sp) ∧ w'.cell? ⟨w.heap.size, 1, none⟩ = some (.int .i64 h.dp) ∧ w'.cell? ⟨w.heap.size, 2, none⟩ = some (.int .u32 h.sq) ∧ w'.cell? ⟨w.heap.size, 3, none⟩ = some (.int .u32 h.ak) ∧ w'.cell? ⟨w.heap.size, 4, none⟩ = some (.int .i64 h.fl) ∧ w'.cell? ⟨w.heap.size, 5, none⟩ = some (.int .i64 h.wn) ∧ w'.cell? ⟨w.heap.size, 6, none⟩ = some (.int .i64 h.ur) ∧ w'.cell? ⟨w.heap.size, 7, none⟩ = some (.string h.op) ∧ w'.cell? ⟨w.heap.size + 1, 0, none⟩ = some (.bool v) ∧ w'.cell? ⟨w.heap.size + 1, 1, none⟩ = some (.int .u64 hi) ∧ w'.cell? ⟨w.heap.size + 1, 2, none⟩ = some (.int .u64 lo) ∧ w'.cell? ⟨w.heap.size + 1 + 1, 0, none⟩ = some (.bool v') ∧ w'.cell? ⟨w.heap.size + 1 + 1, 1, none⟩ = some (.int .u64 hi') ∧ w'.cell? ⟨w.heap.size + 1 + 1, 2, none⟩ = some (.int .u64 lo')) (exact R07.cells14 HX.out) (first | (go_at_call 9; (with_reducible refine (of7_any h _).mono ?_); rintro e wa ⟨rfl, hb⟩; replace HX := Lib.hid (HX.out.next hb); clear hb) | (go_at_call 8; (with_reducible refine (P1.out _).mono ?_); rintro e wa ⟨rfl, hb⟩; replace HX := Lib.hid (HX.out.next hb); clear hb))
    all_goals
      (obtain ⟨k0, k1, k2, k3, k4, k5, k6, k7, d0, d1, d2, e0, e1, e2⟩ := R07.cells14 HX.out; have hro := HasB.rowOk HX.out.1 (n := 8) rfl; have hrw := HasB.rowOf HX.out.1)
      go_wp2_with (first | (go_at_call 14; (with_reducible refine (LS.out _).mono ?_); rintro e wl ⟨ll, rfl, _, hb⟩; (clear k0 k1 k2 k3 k4 k5 k6 k7 d0 d1 d2 e0 e1 e2 hro hrw); replace HX := Lib.hid (HX.out.next hb); clear hb; (obtain ⟨k0, k1, k2, k3, k4, k5, k6, k7, d0, d1, d2, e0, e1, e2⟩ := R07.cells14 HX.out; have hro := HasB.rowOk HX.out.1 (n := 8) rfl; have hrw := HasB.rowOf HX.out.1)) | (go_at_call 11; (with_reducible refine (G2.out _).mono ?_); rintro e wc ⟨rfl, hb⟩; (clear k0 k1 k2 k3 k4 k5 k6 k7 d0 d1 d2 e0 e1 e2 hro hrw); replace HX := Lib.hid ((HX.out.next hb).alloc (.cells #[.int .i64 h.sp, .int .i64 h.dp, .int .u32 h.sq, .int .u32 h.ak, .int .i64 h.fl, .int .i64 h.wn, .int .i64 h.ur, .string h.op] 34)); have HY := Lib.hid (HasB.new wc 34 #[.int .i64 h.sp, .int .i64 h.dp, .int .u32 h.sq, .int .u32 h.ak, .int .i64 h.fl, .int .i64 h.wn, .int .i64 h.ur, .string h.op]); clear hb) | fail)
      replace HX := Lib.hid HX.out.drew
      replace HY := Lib.hid (HasB.drew HY.out)
      go_region_held3 (fun w' => w'.cell? ⟨w.heap.size, 0, none⟩ = some (.int .i64 h.sp) ∧ w'.cell? ⟨w.heap.size, 1, none⟩ = some (.int .i64 h.dp) ∧ w'.cell? ⟨w.heap.size, 2, none⟩ = some (.int .u32 h.sq) ∧ w'.cell? ⟨w.heap.size, 3, none⟩ = some (.int .u32 h.ak) ∧ w'.cell? ⟨w.heap.size, 4, none⟩ = some (.int .i64 h.fl) ∧ w'.cell? ⟨w.heap.size, 5, none⟩ = some (.int .i64 h.wn) ∧ w'.cell? ⟨w.heap.size, 6, none⟩ = some (.int .i64 h.ur) ∧ w'.cell? ⟨w.heap.size, 7, none⟩ = some (.string h.op) ∧ w'.cell? ⟨wc.heap.size, 0, none⟩ = some (.int .i64 h.sp) ∧ w'.cell? ⟨wc.heap.size, 1, none⟩ = some (.int .i64 h.dp) ∧ w'.cell? ⟨wc.heap.size, 2, none⟩ = some (.int .u32 h.sq) ∧ w'.cell? ⟨wc.heap.size, 3, none⟩ = some (.int .u32 h.ak) ∧ w'.cell? ⟨wc.heap.size, 4, none⟩ = some (.int .i64 h.fl) ∧ w'.cell? ⟨wc.heap.size, 5, none⟩ = some (.int .i64 h.wn) ∧ w'.cell? ⟨wc.heap.size, 6, none⟩ = some (.int .i64 h.ur) ∧ w'.cell? ⟨wc.heap.size, 7, none⟩ = some (.string h.op)) (exact cells16H HX.out HY.out) (first | (go_at_call 13; (with_reducible refine (back7_any h _).mono ?_); rintro e wd ⟨rfl, hb⟩; replace HY := Lib.hid (HasB.below HY.out hb HY.out.lt); replace HX := Lib.hid (HX.out.next hb); clear hb))
      all_goals
        clear HY
        have hcv := fun W => run_bytes_of_string (P := Try.prog) W 9 58 5 T (by kernel_rfl) (by kernel_rfl) (by kernel_rfl)
        go_wp2_with fail
        rw [hK.out]
        have HB : Hid ((wd.alloc (.cells (bytesRow T (grownCap wd T.size 0 5)) 5 ((bytesRow T (grownCap wd T.size 0 5)).size, (bytesRow T (grownCap wd T.size 0 5)).size + 1))).drew.heap[wd.heap.size]? = some (.cells (bytesRow T (grownCap wd T.size 0 5)) 5 ((bytesRow T (grownCap wd T.size 0 5)).size, (bytesRow T (grownCap wd T.size 0 5)).size + 1))) := Lib.hid (heap_alloc_new wd _)
        have l1 := HX.out.1.lt
        have l2 := HX.out.2.1.lt
        have l3 := HX.out.2.2.1.lt
        have l4 := HX.out.2.2.2.2
        replace HX := Lib.hid (HX.out.alloc (.cells (bytesRow T (grownCap wd T.size 0 5)) 5 ((bytesRow T (grownCap wd T.size 0 5)).size, (bytesRow T (grownCap wd T.size 0 5)).size + 1))).drew
        revert HB HX
        generalize grownCap wd T.size 0 5 = cap
        generalize (World.alloc wd _).drew = X
        intro HB HX
        have c := bytes_cell HB.out (KK / 8) (by omega)
        have f := bytes_free HB.out (KK / 8) (by omega)
        have i1 : ((KK : Int) / 8) < T.size := by omega
        have hne : errG7 (flipS T KK) Pa = 4 := HF.out (KK / 8) (KK % 8) _ (by omega) (by have := B1.out; omega) (by omega) (flip_byte T KK) (flipS T KK) (by simp [flipS])
        have G3 := GX.out (flipS T KK) (by rw [flipS_size]; exact B1.out)
        rw [hne] at G3
        have G3 := Lib.hid G3
        clear hne HF GX
        generalize headG7 (flipS T KK) Pa = g3 at G3
        generalize payG7 (flipS T KK) Pa = y3 at G3
        go_region
        all_goals
          rw [xor_turn (bt T (KK / 8)) (KK % 8) (bt_lt _ _) (by omega)]
          have hcv3 := turned_conv X wd.heap.size cap KK T _ HB.out (by omega)
          replace HX := Lib.hid (HX.out.setCell wd.heap.size (KK / 8) (.int .u8 ((bt T (KK / 8) ^^^ 2 ^ (KK % 8) : Nat) : Int)) l4 (by omega) (by omega) (by omega)).drew
          clear hcv c f HB
          revert hcv3 HX
          generalize (World.setCell X _ _).drew = Z
          intro hcv3 HX
          (obtain ⟨k0, k1, k2, k3, k4, k5, k6, k7, d0, d1, d2, e0, e1, e2⟩ := R07.cells14 HX.out; have hro := HasB.rowOk HX.out.1 (n := 8) rfl; have hrw := HasB.rowOf HX.out.1)
          go_wp2_with (first | (go_at_call 11; (with_reducible refine (G3.out _).mono ?_); rintro e we ⟨rfl, hb⟩; (clear k0 k1 k2 k3 k4 k5 k6 k7 d0 d1 d2 e0 e1 e2 hro hrw); replace HX := Lib.hid ((HX.out.next hb).alloc (.cells #[.int .i64 g3.sp, .int .i64 g3.dp, .int .u32 g3.sq, .int .u32 g3.ak, .int .i64 g3.fl, .int .i64 g3.wn, .int .i64 g3.ur, .string g3.op] 34)); clear hb) | (go_at_call 7; (with_reducible refine (AW.out _).mono ?_); rintro e wz ⟨rfl, hb⟩; replace HX := Lib.hid (HX.out.next hb); clear hb) | fail)
          go_ret
          exact ⟨rfl, HX.out.2.2.2.1⟩
/-- The law's walk. -/
theorem tcpBack_any (K : TcpOK) (a b c : Array Value) (p s : ByteArray) (k : Int) (wk : (Lit.int .u16 k).wf = true) (w : World) (fa : Fits w (.two (.int .i64) (.two (.int .i64) (.two (.int .u32) (.two (.int .u32) (.two (.int .i64) (.two (.int .i64) (.two (.int .i64) (.two .str .nil)))))))) (Value.agg a).cells.toList) (fb : Fits w (.two .bool (.two (.int .u64) (.two (.int .u64) .nil))) (Value.agg b).cells.toList) (fc : Fits w (.two .bool (.two (.int .u64) (.two (.int .u64) .nil))) (Value.agg c).cells.toList) :
    Calls Try.prog 5 #[.agg a, .agg b, .agg c, .string p, .string s, .int .u16 k] w fun e w' => e = .returned (.bool true) ∧ Below w.heap.size w w' := by
  obtain ⟨h, rfl, hb7, _⟩ := fits7 fa
  obtain ⟨v, hi, lo, rfl, ⟨a0, a1⟩, b0, b1⟩ := fitsA fb
  obtain ⟨v', hi', lo', rfl, ⟨c0, c1⟩, d0, d1⟩ := fitsA fc
  have hk0 := bounds_u16 wk
  have hk : 0 ≤ k ∧ k < 65536 := by omega
  have hA : BA hi lo hi' lo' := ⟨a0, a1, b0, b1, c0, c1, d0, d1⟩
  cases hn : small3 h.op p s 200 with
  | false => exact back_big K h v hi lo v' hi' lo' p s k hn w
  | true =>
    have hs : s.size ≤ 200 := (of_decide_eq_true hn).2.2
    by_cases hg : errG7 s (pseudoL v hi lo v' hi' lo' 6 (s.size : Int)) = 0
    · have key := (fwd7_same hg (pseudoL_len _ _ _ _ _ _ _ _).2 (by omega)).2.2.2.2.2.2
      have cs : (out7 (headG7 s (pseudoL v hi lo v' hi' lo' 6 (s.size : Int))) (pseudoL v hi lo v' hi' lo' 6 (s.size : Int)) (payG7 s (pseudoL v hi lo v' hi' lo' 6 (s.size : Int)))).extract 16 18 = s.extract 16 18 ∨ (s.extract 16 18 = ⟨#[255, 255]⟩ ∧ (out7 (headG7 s (pseudoL v hi lo v' hi' lo' 6 (s.size : Int))) (pseudoL v hi lo v' hi' lo' 6 (s.size : Int)) (payG7 s (pseudoL v hi lo v' hi' lo' 6 (s.size : Int)))).extract 16 18 ≠ ⟨#[255, 255]⟩) := by
        by_cases e : (out7 (headG7 s (pseudoL v hi lo v' hi' lo' 6 (s.size : Int))) (pseudoL v hi lo v' hi' lo' 6 (s.size : Int)) (payG7 s (pseudoL v hi lo v' hi' lo' 6 (s.size : Int)))).extract 16 18 = ⟨#[255, 255]⟩
        · rcases key with q | q
          · exact .inl q
          · exact .inl (e.trans q.symm)
        · rcases key with q | q
          · exact .inl q
          · exact .inr ⟨q, e⟩
      by_cases he : err7 h (pseudoL v hi lo v' hi' lo' 6 (20 + (h.op.size : Int) + (p.size : Int))) p = 0
      · by_cases ho : optsL h.op 0 = none
        · rcases cs with q | ⟨q, r⟩
          · exact back_read_badA K h v hi lo v' hi' lo' p s k hk hb7 hA hn w hg he ho q
          · exact back_read_badB K h v hi lo v' hi' lo' p s k hk hb7 hA hn w hg he ho q r
        · rcases cs with q | ⟨q, r⟩
          · exact back_read_okA K h v hi lo v' hi' lo' p s k hk hb7 hA hn w hg he ho q
          · exact back_read_okB K h v hi lo v' hi' lo' p s k hk hb7 hA hn w hg he ho q r
      · rcases cs with q | ⟨q, r⟩
        · exact back_read_noA K h v hi lo v' hi' lo' p s k hk hb7 hA hn w hg he q
        · exact back_read_noB K h v hi lo v' hi' lo' p s k hk hb7 hA hn w hg he q r
    · by_cases he : err7 h (pseudoL v hi lo v' hi' lo' 6 (20 + (h.op.size : Int) + (p.size : Int))) p = 0
      · by_cases ho : optsL h.op 0 = none
        · exact back_bare_bad K h v hi lo v' hi' lo' p s k hk hb7 hA hn w hg he ho
        · exact back_bare_ok K h v hi lo v' hi' lo' p s k hk hb7 hA hn w hg he ho
      · exact back_bare_no K h v hi lo v' hi' lo' p s k hk hb7 hA hn w hg he
end Go.Proofs.Ytbnhneompibilaa
