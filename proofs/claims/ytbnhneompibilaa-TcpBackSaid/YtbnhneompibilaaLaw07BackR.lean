/- The law of tcp without the reference: the walks where something is read ahead. -/
import Derived.Test.YtbnhneompibilaaLaw07Back
namespace Go.Proofs.Ytbnhneompibilaa
open Go.RowKit Go.WideShapes
set_option linter.unusedVariables false
attribute [local go_sem ↓] ldH7 stH7 ldR7 stR7
attribute [local go_sem] rowAt_p rowOkAt_p setAt_p aggOf_a rowOk_new rowOf_new setRow_new agg7 aggT7
attribute [local go_sem ↓] Go.wp_at_zero Go.wp_at_succ

theorem Held3.drewN {B g : Nat} {t : TypeId} {cs : Array Value} {g' : Nat} {t' : TypeId} {cs' : Array Value} {g2 : Nat} {t2 : TypeId} {cs2 : Array Value} {w0 w : World} (h : Held3 B g t cs g' t' cs' g2 t2 cs2 w0 w) (n : Nat) : Held3 B g t cs g' t' cs' g2 t2 cs2 w0 (w.drewN n) := ⟨h.1, h.2.1, h.2.2.1, below_drewN h.2.2.2.1 n, h.2.2.2.2⟩
theorem bytes_ne {a : ByteArray} {l : List UInt8} (h : a ≠ ⟨l.toArray⟩) : (a.toList == l) = false := by
  rw [ByteArray.toList_eq]
  cases hb : (a.data.toList == l) with
  | false => rfl
  | true => exact absurd (ext_eq (by rw [eq_of_beq hb])) h
set_option maxRecDepth 100000 in
set_option maxHeartbeats 4000000 in
theorem back_read_noA (K : TcpOK) (h : T7) (v : Bool) (hi lo : Int) (v' : Bool) (hi' lo' : Int) (p s : ByteArray) (k : Int) (hk : 0 ≤ k ∧ k < 65536) (hb7 : B7 h) (hA : BA hi lo hi' lo') (hn : small3 h.op p s 200 = true) (w : World) (hg : errG7 s (pseudoL v hi lo v' hi' lo' 6 (s.size : Int)) = 0) (he : err7 h (pseudoL v hi lo v' hi' lo' 6 (20 + (h.op.size : Int) + (p.size : Int))) p ≠ 0) (hc : (out7 (headG7 s (pseudoL v hi lo v' hi' lo' 6 (s.size : Int))) (pseudoL v hi lo v' hi' lo' 6 (s.size : Int)) (payG7 s (pseudoL v hi lo v' hi' lo' 6 (s.size : Int)))).extract 16 18 = s.extract 16 18) : Calls Try.prog 5 #[.agg #[.int .i64 h.sp, .int .i64 h.dp, .int .u32 h.sq, .int .u32 h.ak, .int .i64 h.fl, .int .i64 h.wn, .int .i64 h.ur, .string h.op], .agg #[.bool v, .int .u64 hi, .int .u64 lo], .agg #[.bool v', .int .u64 hi', .int .u64 lo'], .string p, .string s, .int .u16 k] w fun e w' => e = .returned (.bool true) ∧ Below w.heap.size w w' := by
  have AW := Lib.hid (awake07 K)
  obtain ⟨n1, n2, n3⟩ := of_decide_eq_true hn
  obtain ⟨f1, f2, f3, f4, f5, f6, f7⟩ := fwd7_same hg (pseudoL_len _ _ _ _ _ _ _ _).2 (by omega)
  obtain ⟨h20, _⟩ := errG7_ok hg
  have G1 := Lib.hid (K.get s v hi lo v' hi' lo' hA (by omega) _ rfl)
  rw [hg] at G1
  have PX := Lib.hid (K.put (headG7 s (pseudoL v hi lo v' hi' lo' 6 (s.size : Int))) v hi lo v' hi' lo' (payG7 s (pseudoL v hi lo v' hi' lo' 6 (s.size : Int))) f2 hA (by omega) (by omega) (pseudoL v hi lo v' hi' lo' 6 (s.size : Int)) (by rw [show 20 + ((headG7 s (pseudoL v hi lo v' hi' lo' 6 (s.size : Int))).op.size : Int) + ((payG7 s (pseudoL v hi lo v' hi' lo' 6 (s.size : Int))).size : Int) = (s.size : Int) by omega]))
  rw [f1] at PX
  clear f1 f2 f3 hg
  generalize out7 (headG7 s (pseudoL v hi lo v' hi' lo' 6 (s.size : Int))) (pseudoL v hi lo v' hi' lo' 6 (s.size : Int)) (payG7 s (pseudoL v hi lo v' hi' lo' 6 (s.size : Int))) = T1 at *
  generalize headG7 s (pseudoL v hi lo v' hi' lo' 6 (s.size : Int)) = g at *
  generalize payG7 s (pseudoL v hi lo v' hi' lo' 6 (s.size : Int)) = y at *
  have i16 : (16 : Int) ≤ s.size := by omega
  have i18 : (18 : Int) ≤ s.size := by omega
  clear f7 h20
  have P1 := Lib.hid (K.put h v hi lo v' hi' lo' p hb7 hA (by omega) (by omega) _ rfl)
  have x1 : (err7 h (pseudoL v hi lo v' hi' lo' 6 (20 + (h.op.size : Int) + (p.size : Int))) p != 0) = true := by simpa using he
  have x3 : (err7 h (pseudoL v hi lo v' hi' lo' 6 (20 + (h.op.size : Int) + (p.size : Int))) p == 0) = false := by simpa using he
  have HO : out7 h (pseudoL v hi lo v' hi' lo' 6 (20 + (h.op.size : Int) + (p.size : Int))) p = ⟨#[]⟩ := if_neg he
  rw [HO] at P1
  have LS := Lib.hid (K.list h.op (by omega))
  generalize err7 h (pseudoL v hi lo v' hi' lo' 6 (20 + (h.op.size : Int) + (p.size : Int))) p = E at P1 x1 x3
  generalize optsE h.op = E3 at LS
  clear HO
  skip
  clear he hA hb7 K hk
  have HX : Hid (Held3 w.heap.size w.heap.size 24 #[.int .i64 h.sp, .int .i64 h.dp, .int .u32 h.sq, .int .u32 h.ak, .int .i64 h.fl, .int .i64 h.wn, .int .i64 h.ur, .string h.op] (w.heap.size + 1) 27 #[.bool v, .int .u64 hi, .int .u64 lo] (w.heap.size + 1 + 1) 27 #[.bool v', .int .u64 hi', .int .u64 lo'] w (((w.alloc (.cells #[.int .i64 h.sp, .int .i64 h.dp, .int .u32 h.sq, .int .u32 h.ak, .int .i64 h.fl, .int .i64 h.wn, .int .i64 h.ur, .string h.op] 24)).alloc (.cells #[.bool v, .int .u64 hi, .int .u64 lo] 27)).alloc (.cells #[.bool v', .int .u64 hi', .int .u64 lo'] 27))) := by
    refine Lib.hid ⟨((HasB.new w _ _).alloc _).alloc _, ?_, ?_, (((Below.refl _ _).alloc (Nat.le_refl _) _).alloc (by simp) _).alloc (by simp; omega) _, by simp; omega⟩
    · have := (HasB.new (w.alloc (.cells #[.int .i64 h.sp, .int .i64 h.dp, .int .u32 h.sq, .int .u32 h.ak, .int .i64 h.fl, .int .i64 h.wn, .int .i64 h.ur, .string h.op] 24)) 27 #[.bool v, .int .u64 hi, .int .u64 lo]).alloc (.cells #[.bool v', .int .u64 hi', .int .u64 lo'] 27)
      simpa using this
    · have := HasB.new ((w.alloc (.cells #[.int .i64 h.sp, .int .i64 h.dp, .int .u32 h.sq, .int .u32 h.ak, .int .i64 h.fl, .int .i64 h.wn, .int .i64 h.ur, .string h.op] 24)).alloc (.cells #[.bool v, .int .u64 hi, .int .u64 lo] 27)) 27 #[.bool v', .int .u64 hi', .int .u64 lo']
      simpa using this
  obtain ⟨k0, k1, k2, k3, k4, k5, k6, c7, d0, d1, d2, e0, e1, e2⟩ := R07.cells14 HX.out
  have hS := small_any (w.heap.size + 1 + 1 + 1) 3 h.op p s 200 (by omega)
  rw [hn, show ((200 : Nat) : Int) = 200 from rfl] at hS
  have HS := Lib.hid hS
  have HB : HasB (((((w.alloc (.cells #[.int .i64 h.sp, .int .i64 h.dp, .int .u32 h.sq, .int .u32 h.ak, .int .i64 h.fl, .int .i64 h.wn, .int .i64 h.ur, .string h.op] 24)).alloc (.cells #[.bool v, .int .u64 hi, .int .u64 lo] 27)).alloc (.cells #[.bool v', .int .u64 hi', .int .u64 lo'] 27))).alloc (.cells #[.string h.op, .string p, .string s] 9)) (w.heap.size + 1 + 1 + 1) 9 #[.string h.op, .string p, .string s] := by
    have := HasB.new (((w.alloc (.cells #[.int .i64 h.sp, .int .i64 h.dp, .int .u32 h.sq, .int .u32 h.ak, .int .i64 h.fl, .int .i64 h.wn, .int .i64 h.ur, .string h.op] 24)).alloc (.cells #[.bool v, .int .u64 hi, .int .u64 lo] 27)).alloc (.cells #[.bool v', .int .u64 hi', .int .u64 lo'] 27)) 9 #[.string h.op, .string p, .string s]
    simpa using this
  clear hS k0 k1 k2 k3 k4 k5 k6 d0 d1 d2 e0 e1 e2
  go_enter Try.func5, Try.ntmps5
  go_wp2_with fail
  (with_reducible refine (HS.out _ (HasB.cell HB 0 _ rfl) (HasB.cell HB 1 _ rfl) (HasB.cell HB 2 _ rfl)).mono ?_)
  rintro e wq ⟨rfl, hwq⟩
  replace HX := Lib.hid (HX.out.alloc (.cells #[.string h.op, .string p, .string s] 9))
  rw [hwq] at HX
  clear HB HS c7 hwq
  (obtain ⟨k0, k1, k2, k3, k4, k5, k6, k7, d0, d1, d2, e0, e1, e2⟩ := R07.cells14 HX.out; have hro := HasB.rowOk HX.out.1 (n := 8) rfl; have hrw := HasB.rowOf HX.out.1)
  go_wp2_with (first | (go_at_call 11; (with_reducible refine (G1.out _).mono ?_); rintro e wx ⟨rfl, hb⟩; (clear k0 k1 k2 k3 k4 k5 k6 k7 d0 d1 d2 e0 e1 e2 hro hrw); replace HX := Lib.hid ((HX.out.next hb).alloc (.cells #[.int .i64 g.sp, .int .i64 g.dp, .int .u32 g.sq, .int .u32 g.ak, .int .i64 g.fl, .int .i64 g.wn, .int .i64 g.ur, .string g.op] 34)); clear hb; (obtain ⟨k0, k1, k2, k3, k4, k5, k6, k7, d0, d1, d2, e0, e1, e2⟩ := R07.cells14 HX.out; have hro := HasB.rowOk HX.out.1 (n := 8) rfl; have hrw := HasB.rowOf HX.out.1)) | (go_at_call 8; (with_reducible refine (PX.out _).mono ?_); rintro e wa ⟨rfl, hb⟩; (clear k0 k1 k2 k3 k4 k5 k6 k7 d0 d1 d2 e0 e1 e2 hro hrw); replace HX := Lib.hid (HX.out.next hb); clear hb; (obtain ⟨k0, k1, k2, k3, k4, k5, k6, k7, d0, d1, d2, e0, e1, e2⟩ := R07.cells14 HX.out; have hro := HasB.rowOk HX.out.1 (n := 8) rfl; have hrw := HasB.rowOf HX.out.1)) | fail)
  go_quiet (fail)
  (clear k0 k1 k2 k3 k4 k5 k6 k7 d0 d1 d2 e0 e1 e2 hro hrw)
  replace HX := Lib.hid (HX.out.drewN nq)
  (obtain ⟨k0, k1, k2, k3, k4, k5, k6, k7, d0, d1, d2, e0, e1, e2⟩ := R07.cells14 HX.out; have hro := HasB.rowOk HX.out.1 (n := 8) rfl; have hrw := HasB.rowOf HX.out.1)
  go_wp2_with fail
  all_goals
    (clear k0 k1 k2 k3 k4 k5 k6 k7 d0 d1 d2 e0 e1 e2 hro hrw)
    replace HX := Lib.hid HX.out.drew
    go_region_held3 (fun w' => w'.cell? ⟨w.heap.size, 0, none⟩ = some (.int .i64 h.sp) ∧ w'.cell? ⟨w.heap.size, 1, none⟩ = some (.int .i64 h.dp) ∧ w'.cell? ⟨w.heap.size, 2, none⟩ = some (.int .u32 h.sq) ∧ w'.cell? ⟨w.heap.size, 3, none⟩ = some (.int .u32 h.ak) ∧ w'.cell? ⟨w.heap.size, 4, none⟩ = some (.int .i64 h.fl) ∧ w'.cell? ⟨w.heap.size, 5, none⟩ = some (.int .i64 h.wn) ∧ w'.cell? ⟨w.heap.size, 6, none⟩ = some (.int .i64 h.ur) ∧ w'.cell? ⟨w.heap.size, 7, none⟩ = some (.string h.op) ∧ w'.cell? ⟨w.heap.size + 1, 0, none⟩ = some (.bool v) ∧ w'.cell? ⟨w.heap.size + 1, 1, none⟩ = some (.int .u64 hi) ∧ w'.cell? ⟨w.heap.size + 1, 2, none⟩ = some (.int .u64 lo) ∧ w'.cell? ⟨w.heap.size + 1 + 1, 0, none⟩ = some (.bool v') ∧ w'.cell? ⟨w.heap.size + 1 + 1, 1, none⟩ = some (.int .u64 hi') ∧ w'.cell? ⟨w.heap.size + 1 + 1, 2, none⟩ = some (.int .u64 lo')) (exact R07.cells14 HX.out) (first | (go_at_call 9; (with_reducible refine (of7_any h _).mono ?_); rintro e wa ⟨rfl, hb⟩; replace HX := Lib.hid (HX.out.next hb); clear hb) | (go_at_call 8; (with_reducible refine (P1.out _).mono ?_); rintro e wa ⟨rfl, hb⟩; replace HX := Lib.hid (HX.out.next hb); clear hb))
    all_goals
      (obtain ⟨k0, k1, k2, k3, k4, k5, k6, k7, d0, d1, d2, e0, e1, e2⟩ := R07.cells14 HX.out; have hro := HasB.rowOk HX.out.1 (n := 8) rfl; have hrw := HasB.rowOf HX.out.1)
      go_wp2_with (first | (go_at_call 14; (with_reducible refine (LS.out _).mono ?_); rintro e wl ⟨ll, rfl, _, hb⟩; (clear k0 k1 k2 k3 k4 k5 k6 k7 d0 d1 d2 e0 e1 e2 hro hrw); replace HX := Lib.hid (HX.out.next hb); clear hb; (obtain ⟨k0, k1, k2, k3, k4, k5, k6, k7, d0, d1, d2, e0, e1, e2⟩ := R07.cells14 HX.out; have hro := HasB.rowOk HX.out.1 (n := 8) rfl; have hrw := HasB.rowOf HX.out.1)) | (go_at_call 7; (with_reducible refine (AW.out _).mono ?_); rintro e wz ⟨rfl, hb⟩; replace HX := Lib.hid (HX.out.next hb); clear hb) | fail)
      go_ret
      exact ⟨rfl, HX.out.2.2.2.1⟩
set_option maxRecDepth 100000 in
set_option maxHeartbeats 4000000 in
theorem back_read_noB (K : TcpOK) (h : T7) (v : Bool) (hi lo : Int) (v' : Bool) (hi' lo' : Int) (p s : ByteArray) (k : Int) (hk : 0 ≤ k ∧ k < 65536) (hb7 : B7 h) (hA : BA hi lo hi' lo') (hn : small3 h.op p s 200 = true) (w : World) (hg : errG7 s (pseudoL v hi lo v' hi' lo' 6 (s.size : Int)) = 0) (he : err7 h (pseudoL v hi lo v' hi' lo' 6 (20 + (h.op.size : Int) + (p.size : Int))) p ≠ 0) (hc : s.extract 16 18 = ⟨#[255, 255]⟩) (hd : (out7 (headG7 s (pseudoL v hi lo v' hi' lo' 6 (s.size : Int))) (pseudoL v hi lo v' hi' lo' 6 (s.size : Int)) (payG7 s (pseudoL v hi lo v' hi' lo' 6 (s.size : Int)))).extract 16 18 ≠ ⟨#[255, 255]⟩) : Calls Try.prog 5 #[.agg #[.int .i64 h.sp, .int .i64 h.dp, .int .u32 h.sq, .int .u32 h.ak, .int .i64 h.fl, .int .i64 h.wn, .int .i64 h.ur, .string h.op], .agg #[.bool v, .int .u64 hi, .int .u64 lo], .agg #[.bool v', .int .u64 hi', .int .u64 lo'], .string p, .string s, .int .u16 k] w fun e w' => e = .returned (.bool true) ∧ Below w.heap.size w w' := by
  have AW := Lib.hid (awake07 K)
  obtain ⟨n1, n2, n3⟩ := of_decide_eq_true hn
  obtain ⟨f1, f2, f3, f4, f5, f6, f7⟩ := fwd7_same hg (pseudoL_len _ _ _ _ _ _ _ _).2 (by omega)
  obtain ⟨h20, _⟩ := errG7_ok hg
  have G1 := Lib.hid (K.get s v hi lo v' hi' lo' hA (by omega) _ rfl)
  rw [hg] at G1
  have PX := Lib.hid (K.put (headG7 s (pseudoL v hi lo v' hi' lo' 6 (s.size : Int))) v hi lo v' hi' lo' (payG7 s (pseudoL v hi lo v' hi' lo' 6 (s.size : Int))) f2 hA (by omega) (by omega) (pseudoL v hi lo v' hi' lo' 6 (s.size : Int)) (by rw [show 20 + ((headG7 s (pseudoL v hi lo v' hi' lo' 6 (s.size : Int))).op.size : Int) + ((payG7 s (pseudoL v hi lo v' hi' lo' 6 (s.size : Int))).size : Int) = (s.size : Int) by omega]))
  rw [f1] at PX
  clear f1 f2 f3 hg
  generalize out7 (headG7 s (pseudoL v hi lo v' hi' lo' 6 (s.size : Int))) (pseudoL v hi lo v' hi' lo' 6 (s.size : Int)) (payG7 s (pseudoL v hi lo v' hi' lo' 6 (s.size : Int))) = T1 at *
  generalize headG7 s (pseudoL v hi lo v' hi' lo' 6 (s.size : Int)) = g at *
  generalize payG7 s (pseudoL v hi lo v' hi' lo' 6 (s.size : Int)) = y at *
  have i16 : (16 : Int) ≤ s.size := by omega
  have i18 : (18 : Int) ≤ s.size := by omega
  clear f7 h20
  have P1 := Lib.hid (K.put h v hi lo v' hi' lo' p hb7 hA (by omega) (by omega) _ rfl)
  have x1 : (err7 h (pseudoL v hi lo v' hi' lo' 6 (20 + (h.op.size : Int) + (p.size : Int))) p != 0) = true := by simpa using he
  have x3 : (err7 h (pseudoL v hi lo v' hi' lo' 6 (20 + (h.op.size : Int) + (p.size : Int))) p == 0) = false := by simpa using he
  have HO : out7 h (pseudoL v hi lo v' hi' lo' 6 (20 + (h.op.size : Int) + (p.size : Int))) p = ⟨#[]⟩ := if_neg he
  rw [HO] at P1
  have LS := Lib.hid (K.list h.op (by omega))
  generalize err7 h (pseudoL v hi lo v' hi' lo' 6 (20 + (h.op.size : Int) + (p.size : Int))) p = E at P1 x1 x3
  generalize optsE h.op = E3 at LS
  clear HO
  (have hd2 := bytes_ne (l := [255, 255]) hd); clear hd
  clear he hA hb7 K hk
  have HX : Hid (Held3 w.heap.size w.heap.size 24 #[.int .i64 h.sp, .int .i64 h.dp, .int .u32 h.sq, .int .u32 h.ak, .int .i64 h.fl, .int .i64 h.wn, .int .i64 h.ur, .string h.op] (w.heap.size + 1) 27 #[.bool v, .int .u64 hi, .int .u64 lo] (w.heap.size + 1 + 1) 27 #[.bool v', .int .u64 hi', .int .u64 lo'] w (((w.alloc (.cells #[.int .i64 h.sp, .int .i64 h.dp, .int .u32 h.sq, .int .u32 h.ak, .int .i64 h.fl, .int .i64 h.wn, .int .i64 h.ur, .string h.op] 24)).alloc (.cells #[.bool v, .int .u64 hi, .int .u64 lo] 27)).alloc (.cells #[.bool v', .int .u64 hi', .int .u64 lo'] 27))) := by
    refine Lib.hid ⟨((HasB.new w _ _).alloc _).alloc _, ?_, ?_, (((Below.refl _ _).alloc (Nat.le_refl _) _).alloc (by simp) _).alloc (by simp; omega) _, by simp; omega⟩
    · have := (HasB.new (w.alloc (.cells #[.int .i64 h.sp, .int .i64 h.dp, .int .u32 h.sq, .int .u32 h.ak, .int .i64 h.fl, .int .i64 h.wn, .int .i64 h.ur, .string h.op] 24)) 27 #[.bool v, .int .u64 hi, .int .u64 lo]).alloc (.cells #[.bool v', .int .u64 hi', .int .u64 lo'] 27)
      simpa using this
    · have := HasB.new ((w.alloc (.cells #[.int .i64 h.sp, .int .i64 h.dp, .int .u32 h.sq, .int .u32 h.ak, .int .i64 h.fl, .int .i64 h.wn, .int .i64 h.ur, .string h.op] 24)).alloc (.cells #[.bool v, .int .u64 hi, .int .u64 lo] 27)) 27 #[.bool v', .int .u64 hi', .int .u64 lo']
      simpa using this
  obtain ⟨k0, k1, k2, k3, k4, k5, k6, c7, d0, d1, d2, e0, e1, e2⟩ := R07.cells14 HX.out
  have hS := small_any (w.heap.size + 1 + 1 + 1) 3 h.op p s 200 (by omega)
  rw [hn, show ((200 : Nat) : Int) = 200 from rfl] at hS
  have HS := Lib.hid hS
  have HB : HasB (((((w.alloc (.cells #[.int .i64 h.sp, .int .i64 h.dp, .int .u32 h.sq, .int .u32 h.ak, .int .i64 h.fl, .int .i64 h.wn, .int .i64 h.ur, .string h.op] 24)).alloc (.cells #[.bool v, .int .u64 hi, .int .u64 lo] 27)).alloc (.cells #[.bool v', .int .u64 hi', .int .u64 lo'] 27))).alloc (.cells #[.string h.op, .string p, .string s] 9)) (w.heap.size + 1 + 1 + 1) 9 #[.string h.op, .string p, .string s] := by
    have := HasB.new (((w.alloc (.cells #[.int .i64 h.sp, .int .i64 h.dp, .int .u32 h.sq, .int .u32 h.ak, .int .i64 h.fl, .int .i64 h.wn, .int .i64 h.ur, .string h.op] 24)).alloc (.cells #[.bool v, .int .u64 hi, .int .u64 lo] 27)).alloc (.cells #[.bool v', .int .u64 hi', .int .u64 lo'] 27)) 9 #[.string h.op, .string p, .string s]
    simpa using this
  clear hS k0 k1 k2 k3 k4 k5 k6 d0 d1 d2 e0 e1 e2
  go_enter Try.func5, Try.ntmps5
  go_wp2_with fail
  (with_reducible refine (HS.out _ (HasB.cell HB 0 _ rfl) (HasB.cell HB 1 _ rfl) (HasB.cell HB 2 _ rfl)).mono ?_)
  rintro e wq ⟨rfl, hwq⟩
  replace HX := Lib.hid (HX.out.alloc (.cells #[.string h.op, .string p, .string s] 9))
  rw [hwq] at HX
  clear HB HS c7 hwq
  (obtain ⟨k0, k1, k2, k3, k4, k5, k6, k7, d0, d1, d2, e0, e1, e2⟩ := R07.cells14 HX.out; have hro := HasB.rowOk HX.out.1 (n := 8) rfl; have hrw := HasB.rowOf HX.out.1)
  go_wp2_with (first | (go_at_call 11; (with_reducible refine (G1.out _).mono ?_); rintro e wx ⟨rfl, hb⟩; (clear k0 k1 k2 k3 k4 k5 k6 k7 d0 d1 d2 e0 e1 e2 hro hrw); replace HX := Lib.hid ((HX.out.next hb).alloc (.cells #[.int .i64 g.sp, .int .i64 g.dp, .int .u32 g.sq, .int .u32 g.ak, .int .i64 g.fl, .int .i64 g.wn, .int .i64 g.ur, .string g.op] 34)); clear hb; (obtain ⟨k0, k1, k2, k3, k4, k5, k6, k7, d0, d1, d2, e0, e1, e2⟩ := R07.cells14 HX.out; have hro := HasB.rowOk HX.out.1 (n := 8) rfl; have hrw := HasB.rowOf HX.out.1)) | (go_at_call 8; (with_reducible refine (PX.out _).mono ?_); rintro e wa ⟨rfl, hb⟩; (clear k0 k1 k2 k3 k4 k5 k6 k7 d0 d1 d2 e0 e1 e2 hro hrw); replace HX := Lib.hid (HX.out.next hb); clear hb; (obtain ⟨k0, k1, k2, k3, k4, k5, k6, k7, d0, d1, d2, e0, e1, e2⟩ := R07.cells14 HX.out; have hro := HasB.rowOk HX.out.1 (n := 8) rfl; have hrw := HasB.rowOf HX.out.1)) | fail)
  go_quiet (fail)
  (clear k0 k1 k2 k3 k4 k5 k6 k7 d0 d1 d2 e0 e1 e2 hro hrw)
  replace HX := Lib.hid (HX.out.drewN nq)
  (obtain ⟨k0, k1, k2, k3, k4, k5, k6, k7, d0, d1, d2, e0, e1, e2⟩ := R07.cells14 HX.out; have hro := HasB.rowOk HX.out.1 (n := 8) rfl; have hrw := HasB.rowOf HX.out.1)
  go_wp2_with fail
  all_goals
    (clear k0 k1 k2 k3 k4 k5 k6 k7 d0 d1 d2 e0 e1 e2 hro hrw)
    replace HX := Lib.hid HX.out.drew
    go_region_held3 (fun w' => w'.cell? ⟨w.heap.size, 0, none⟩ = some (.int .i64 h.sp) ∧ w'.cell? ⟨w.heap.size, 1, none⟩ = some (.int .i64 h.dp) ∧ w'.cell? ⟨w.heap.size, 2, none⟩ = some (.int .u32 h.sq) ∧ w'.cell? ⟨w.heap.size, 3, none⟩ = some (.int .u32 h.ak) ∧ w'.cell? ⟨w.heap.size, 4, none⟩ = some (.int .i64 h.fl) ∧ w'.cell? ⟨w.heap.size, 5, none⟩ = some (.int .i64 h.wn) ∧ w'.cell? ⟨w.heap.size, 6, none⟩ = some (.int .i64 h.ur) ∧ w'.cell? ⟨w.heap.size, 7, none⟩ = some (.string h.op) ∧ w'.cell? ⟨w.heap.size + 1, 0, none⟩ = some (.bool v) ∧ w'.cell? ⟨w.heap.size + 1, 1, none⟩ = some (.int .u64 hi) ∧ w'.cell? ⟨w.heap.size + 1, 2, none⟩ = some (.int .u64 lo) ∧ w'.cell? ⟨w.heap.size + 1 + 1, 0, none⟩ = some (.bool v') ∧ w'.cell? ⟨w.heap.size + 1 + 1, 1, none⟩ = some (.int .u64 hi') ∧ w'.cell? ⟨w.heap.size + 1 + 1, 2, none⟩ = some (.int .u64 lo')) (exact R07.cells14 HX.out) (first | (go_at_call 9; (with_reducible refine (of7_any h _).mono ?_); rintro e wa ⟨rfl, hb⟩; replace HX := Lib.hid (HX.out.next hb); clear hb) | (go_at_call 8; (with_reducible refine (P1.out _).mono ?_); rintro e wa ⟨rfl, hb⟩; replace HX := Lib.hid (HX.out.next hb); clear hb))
    all_goals
      (obtain ⟨k0, k1, k2, k3, k4, k5, k6, k7, d0, d1, d2, e0, e1, e2⟩ := R07.cells14 HX.out; have hro := HasB.rowOk HX.out.1 (n := 8) rfl; have hrw := HasB.rowOf HX.out.1)
      go_wp2_with (first | (go_at_call 14; (with_reducible refine (LS.out _).mono ?_); rintro e wl ⟨ll, rfl, _, hb⟩; (clear k0 k1 k2 k3 k4 k5 k6 k7 d0 d1 d2 e0 e1 e2 hro hrw); replace HX := Lib.hid (HX.out.next hb); clear hb; (obtain ⟨k0, k1, k2, k3, k4, k5, k6, k7, d0, d1, d2, e0, e1, e2⟩ := R07.cells14 HX.out; have hro := HasB.rowOk HX.out.1 (n := 8) rfl; have hrw := HasB.rowOf HX.out.1)) | (go_at_call 7; (with_reducible refine (AW.out _).mono ?_); rintro e wz ⟨rfl, hb⟩; replace HX := Lib.hid (HX.out.next hb); clear hb) | fail)
      go_ret
      exact ⟨rfl, HX.out.2.2.2.1⟩
end Go.Proofs.Ytbnhneompibilaa
