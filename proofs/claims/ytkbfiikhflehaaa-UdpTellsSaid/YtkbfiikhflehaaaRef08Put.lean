/- The contracts of cloakroomref08: in, Put. -/
import Derived.Test.YtkbfiikhflehaaaRef05Pseudo
import Derived.Test.YtkbfiikhflehaaaRef03Turned
import Derived.Test.YtkbfiikhflehaaaRef02At
import Derived.Test.YtkbfiikhflehaaaEightCells
namespace Go.Proofs.Ytkbfiikhflehaaa.R08
open Go.RowKit
set_option linter.unusedVariables false
attribute [local go_sem ↓] Go.wp_at_zero Go.wp_at_succ

theorem in_any (n : Int) (w : World) :
    Calls Try.prog 16 #[.int .i64 n] w fun e w' => e = .returned (.bool (port n)) ∧ w = w' := by
  by_cases h : 0 ≤ n
  · by_cases h2 : n ≤ 65535
    · have hr : Hid (port n = true) := Lib.hid (decide_eq_true ⟨h, h2⟩)
      go_enter Try.func16, Try.ntmps16
      go_wp2
      go_ret
      exact ⟨ret_bool hr.out.symm, rfl⟩
    · have hr : Hid (port n = false) := Lib.hid (decide_eq_false (fun hh => h2 hh.2))
      go_enter Try.func16, Try.ntmps16
      go_wp2
      go_ret
      exact ⟨ret_bool hr.out.symm, rfl⟩
  · have hr : Hid (port n = false) := Lib.hid (decide_eq_false (fun hh => h hh.1))
    go_enter Try.func16, Try.ntmps16
    go_wp2
    go_ret
    exact ⟨ret_bool hr.out.symm, rfl⟩
theorem num_is {n : Int} {p : List UInt8} (hp : numL n 2 = p) (h0 : 0 ≤ n) (h1 : n < 18446744073709551616) (w : World) :
    Calls Try.prog 17 #[.int .u64 n, .int .i64 2] w fun e w' => e = .returned (.string ⟨p.toArray⟩) ∧ Below w.heap.size w w' := by
  subst hp
  have h := R02.put_any n 2 h0 h1 w
  rw [show putL n 2 = numL n 2 by unfold numL; rw [wrapU n h0 h1]] at h
  exact h
theorem cat5 (a b c : List UInt8) (p : ByteArray) : (⟨a.toArray⟩ : ByteArray) ++ ⟨b.toArray⟩ ++ ⟨c.toArray⟩ ++ ⟨#[0, 0]⟩ ++ p = ⟨(a ++ b ++ c ++ [0, 0] ++ p.data.toList).toArray⟩ := by
  apply ext_eq
  simp
theorem cells8U {B g g' g2 : Nat} {t t' t2 : TypeId} {sp dp : Int} {v v' : Bool} {hi lo hi' lo' : Int} {w0 w : World} (H : Held3 B g t #[.int .i64 sp, .int .i64 dp] g' t' #[.bool v, .int .u64 hi, .int .u64 lo] g2 t2 #[.bool v', .int .u64 hi', .int .u64 lo'] w0 w) : w.cell? ⟨g, 0, none⟩ = some (.int .i64 sp) ∧ w.cell? ⟨g, 1, none⟩ = some (.int .i64 dp) ∧ w.cell? ⟨g', 0, none⟩ = some (.bool v) ∧ w.cell? ⟨g', 1, none⟩ = some (.int .u64 hi) ∧ w.cell? ⟨g', 2, none⟩ = some (.int .u64 lo) ∧ w.cell? ⟨g2, 0, none⟩ = some (.bool v') ∧ w.cell? ⟨g2, 1, none⟩ = some (.int .u64 hi') ∧ w.cell? ⟨g2, 2, none⟩ = some (.int .u64 lo') :=
  ⟨HasB.cell H.1 0 _ rfl, HasB.cell H.1 1 _ rfl, HasB.cell H.2.1 0 _ rfl, HasB.cell H.2.1 1 _ rfl, HasB.cell H.2.1 2 _ rfl, HasB.cell H.2.2.1 0 _ rfl, HasB.cell H.2.2.1 1 _ rfl, HasB.cell H.2.2.1 2 _ rfl⟩
theorem cells2U {B g g' g2 : Nat} {t t' t2 : TypeId} {sp dp : Int} {cs cs2 : Array Value} {w0 w : World} (H : Held3 B g t #[.int .i64 sp, .int .i64 dp] g' t' cs g2 t2 cs2 w0 w) : w.cell? ⟨g, 0, none⟩ = some (.int .i64 sp) ∧ w.cell? ⟨g, 1, none⟩ = some (.int .i64 dp) := ⟨HasB.cell H.1 0 _ rfl, HasB.cell H.1 1 _ rfl⟩
theorem out8_no {sp dp : Int} {P : List UInt8} {p : ByteArray} (he : err8 sp dp P p ≠ 0) : out8 sp dp P p = ⟨#[]⟩ := if_neg he
theorem put_no (sp dp : Int) (v : Bool) (hi lo : Int) (v' : Bool) (hi' lo' : Int) (p : ByteArray) (hA : BA hi lo hi' lo') (hp : p.size ≤ 1099511627776) (P : List UInt8) (hPe : pseudoL v hi lo v' hi' lo' 17 (8 + (p.size : Int)) = P) (w : World) (hn : port sp = false ∨ (port sp = true ∧ port dp = false) ∨ (port sp = true ∧ port dp = true ∧ P = [])) (he : err8 sp dp P p = 1) : Calls Try.prog 8 #[.agg #[.int .i64 sp, .int .i64 dp], .agg #[.bool v, .int .u64 hi, .int .u64 lo], .agg #[.bool v', .int .u64 hi', .int .u64 lo'], .string p] w fun e w' => e = .returned (.tuple #[.string (out8 sp dp P p), .int .i64 (err8 sp dp P p)]) ∧ Below w.heap.size w w' := by
  have HO := Lib.hid (out8_no (sp := sp) (dp := dp) (P := P) (p := p) (by omega))
  rcases hn with h1 | ⟨h1, h2⟩ | ⟨h1, h2, rfl⟩
  all_goals
    have HE := Lib.hid he
    have PS := R05.pseudo_any v hi lo v' hi' lo' 17 (8 + (p.size : Int)) hA.a0 hA.a1 hA.b0 hA.b1 hA.c0 hA.c1 hA.d0 hA.d1
    rw [hPe] at PS
    have PS := Lib.hid PS
    have x1 : IntKind.i64.wrap (8 + (p.size : Int)) = 8 + (p.size : Int) := IntWalk.i64_in _ (by omega)
    have HX : Hid (Held3 w.heap.size w.heap.size 23 #[.int .i64 sp, .int .i64 dp] (w.heap.size + 1) 26 #[.bool v, .int .u64 hi, .int .u64 lo] (w.heap.size + 1 + 1) 26 #[.bool v', .int .u64 hi', .int .u64 lo'] w (((w.alloc (.cells #[.int .i64 sp, .int .i64 dp] 23)).alloc (.cells #[.bool v, .int .u64 hi, .int .u64 lo] 26)).alloc (.cells #[.bool v', .int .u64 hi', .int .u64 lo'] 26))) := by
      refine Lib.hid ⟨((HasB.new w _ _).alloc _).alloc _, ?_, ?_, (((Below.refl _ _).alloc (Nat.le_refl _) _).alloc (by simp) _).alloc (by simp; omega) _, by simp; omega⟩
      · have := (HasB.new (w.alloc (.cells #[.int .i64 sp, .int .i64 dp] 23)) 26 #[.bool v, .int .u64 hi, .int .u64 lo]).alloc (.cells #[.bool v', .int .u64 hi', .int .u64 lo'] 26)
        simpa using this
      · have := HasB.new ((w.alloc (.cells #[.int .i64 sp, .int .i64 dp] 23)).alloc (.cells #[.bool v, .int .u64 hi, .int .u64 lo] 26)) 26 #[.bool v', .int .u64 hi', .int .u64 lo']
        simpa using this
    (obtain ⟨k0, k1, d0, d1, d2, e0, e1, e2⟩ := cells8U HX.out)
    clear he hPe hp hA
    go_enter Try.func8, Try.ntmps8
    go_wp2_with (first | (go_at_call 15; (with_reducible refine (PS.out _).mono ?_); rintro e wa ⟨rfl, hb⟩; (clear k0 k1 d0 d1 d2 e0 e1 e2); replace HX := Lib.hid (HX.out.next hb); clear hb; (obtain ⟨k0, k1, d0, d1, d2, e0, e1, e2⟩ := cells8U HX.out)) | (go_at_call 16; (with_reducible refine (in_any _ _).mono ?_); rintro e wi ⟨rfl, rfl⟩) | fail)
    go_ret2
    exact ⟨ret_si HO.out.symm HE.out.symm, HX.out.2.2.2.1⟩
theorem put_long (sp dp : Int) (v : Bool) (hi lo : Int) (v' : Bool) (hi' lo' : Int) (p : ByteArray) (hA : BA hi lo hi' lo') (hp : p.size ≤ 1099511627776) (P : List UInt8) (hPe : pseudoL v hi lo v' hi' lo' 17 (8 + (p.size : Int)) = P) (w : World) (h1 : port sp = true) (h2 : port dp = true) (hP : P ≠ []) (hl : 65535 < 8 + p.size) (he : err8 sp dp P p = 5) : Calls Try.prog 8 #[.agg #[.int .i64 sp, .int .i64 dp], .agg #[.bool v, .int .u64 hi, .int .u64 lo], .agg #[.bool v', .int .u64 hi', .int .u64 lo'], .string p] w fun e w' => e = .returned (.tuple #[.string (out8 sp dp P p), .int .i64 (err8 sp dp P p)]) ∧ Below w.heap.size w w' := by
  have HO := Lib.hid (out8_no (sp := sp) (dp := dp) (P := P) (p := p) (by omega))
  have HE := Lib.hid he
  have PS := R05.pseudo_any v hi lo v' hi' lo' 17 (8 + (p.size : Int)) hA.a0 hA.a1 hA.b0 hA.b1 hA.c0 hA.c1 hA.d0 hA.d1
  rw [hPe] at PS
  have PS := Lib.hid PS
  have x1 : IntKind.i64.wrap (8 + (p.size : Int)) = 8 + (p.size : Int) := IntWalk.i64_in _ (by omega)
  have HX : Hid (Held3 w.heap.size w.heap.size 23 #[.int .i64 sp, .int .i64 dp] (w.heap.size + 1) 26 #[.bool v, .int .u64 hi, .int .u64 lo] (w.heap.size + 1 + 1) 26 #[.bool v', .int .u64 hi', .int .u64 lo'] w (((w.alloc (.cells #[.int .i64 sp, .int .i64 dp] 23)).alloc (.cells #[.bool v, .int .u64 hi, .int .u64 lo] 26)).alloc (.cells #[.bool v', .int .u64 hi', .int .u64 lo'] 26))) := by
    refine Lib.hid ⟨((HasB.new w _ _).alloc _).alloc _, ?_, ?_, (((Below.refl _ _).alloc (Nat.le_refl _) _).alloc (by simp) _).alloc (by simp; omega) _, by simp; omega⟩
    · have := (HasB.new (w.alloc (.cells #[.int .i64 sp, .int .i64 dp] 23)) 26 #[.bool v, .int .u64 hi, .int .u64 lo]).alloc (.cells #[.bool v', .int .u64 hi', .int .u64 lo'] 26)
      simpa using this
    · have := HasB.new ((w.alloc (.cells #[.int .i64 sp, .int .i64 dp] 23)).alloc (.cells #[.bool v, .int .u64 hi, .int .u64 lo] 26)) 26 #[.bool v', .int .u64 hi', .int .u64 lo']
      simpa using this
  (obtain ⟨k0, k1, d0, d1, d2, e0, e1, e2⟩ := cells8U HX.out)
  have hq := nil_eq hP
  have hli : (65535 : Int) < 8 + (p.size : Int) := by omega
  clear he hPe hp hA hP hl
  go_enter Try.func8, Try.ntmps8
  go_wp2_with (first | (go_at_call 15; (with_reducible refine (PS.out _).mono ?_); rintro e wa ⟨rfl, hb⟩; (clear k0 k1 d0 d1 d2 e0 e1 e2); replace HX := Lib.hid (HX.out.next hb); clear hb; (obtain ⟨k0, k1, d0, d1, d2, e0, e1, e2⟩ := cells8U HX.out)) | (go_at_call 16; (with_reducible refine (in_any _ _).mono ?_); rintro e wi ⟨rfl, rfl⟩) | fail)
  go_ret2
  exact ⟨ret_si HO.out.symm HE.out.symm, HX.out.2.2.2.1⟩
theorem body8_parts (sp dp : Int) (p : ByteArray) {p1 p2 p3 : List UInt8} (e1 : numL sp 2 = p1) (e2 : numL dp 2 = p2) (e3 : numL (8 + (p.size : Int)) 2 = p3) : body8 sp dp p = p1 ++ p2 ++ p3 ++ [0, 0] ++ p.data.toList := by
  subst e1 e2 e3; rfl
set_option maxHeartbeats 4000000 in
theorem put_ok (sp dp : Int) (v : Bool) (hi lo : Int) (v' : Bool) (hi' lo' : Int) (p : ByteArray) (hA : BA hi lo hi' lo') (hp : p.size ≤ 1099511627776) (P : List UInt8) (hPe : pseudoL v hi lo v' hi' lo' 17 (8 + (p.size : Int)) = P) (w : World) (h1 : port sp = true) (h2 : port dp = true) (hP : P ≠ []) (hl : 8 + p.size ≤ 65535) (he : err8 sp dp P p = 0) : Calls Try.prog 8 #[.agg #[.int .i64 sp, .int .i64 dp], .agg #[.bool v, .int .u64 hi, .int .u64 lo], .agg #[.bool v', .int .u64 hi', .int .u64 lo'], .string p] w fun e w' => e = .returned (.tuple #[.string (out8 sp dp P p), .int .i64 (err8 sp dp P p)]) ∧ Below w.heap.size w w' := by
  have HO : Hid (out8 sp dp P p = ⟨(setL ⟨(body8 sp dp p).toArray⟩ 6 2 (ck8 sp dp P p)).toArray⟩) := Lib.hid (if_pos he)
  have hPl : P.length ≤ 40 := by rw [← hPe]; exact (pseudoL_len _ _ _ _ _ _ _ _).1
  have HE := Lib.hid he
  have PS := R05.pseudo_any v hi lo v' hi' lo' 17 (8 + (p.size : Int)) hA.a0 hA.a1 hA.b0 hA.b1 hA.c0 hA.c1 hA.d0 hA.d1
  rw [hPe] at PS
  have PS := Lib.hid PS
  have x1 : IntKind.i64.wrap (8 + (p.size : Int)) = 8 + (p.size : Int) := IntWalk.i64_in _ (by omega)
  have HX : Hid (Held3 w.heap.size w.heap.size 23 #[.int .i64 sp, .int .i64 dp] (w.heap.size + 1) 26 #[.bool v, .int .u64 hi, .int .u64 lo] (w.heap.size + 1 + 1) 26 #[.bool v', .int .u64 hi', .int .u64 lo'] w (((w.alloc (.cells #[.int .i64 sp, .int .i64 dp] 23)).alloc (.cells #[.bool v, .int .u64 hi, .int .u64 lo] 26)).alloc (.cells #[.bool v', .int .u64 hi', .int .u64 lo'] 26))) := by
    refine Lib.hid ⟨((HasB.new w _ _).alloc _).alloc _, ?_, ?_, (((Below.refl _ _).alloc (Nat.le_refl _) _).alloc (by simp) _).alloc (by simp; omega) _, by simp; omega⟩
    · have := (HasB.new (w.alloc (.cells #[.int .i64 sp, .int .i64 dp] 23)) 26 #[.bool v, .int .u64 hi, .int .u64 lo]).alloc (.cells #[.bool v', .int .u64 hi', .int .u64 lo'] 26)
      simpa using this
    · have := HasB.new ((w.alloc (.cells #[.int .i64 sp, .int .i64 dp] 23)).alloc (.cells #[.bool v, .int .u64 hi, .int .u64 lo] 26)) 26 #[.bool v', .int .u64 hi', .int .u64 lo']
      simpa using this
  (obtain ⟨k0, k1, d0, d1, d2, e0, e1, e2⟩ := cells8U HX.out)
  have hq := nil_eq hP
  have hli : ¬ (65535 : Int) < 8 + (p.size : Int) := by omega
  have b1 := inB_is h1
  have b2 := inB_is h2
  have y1 : IntKind.u64.wrap sp = sp := wrapU _ (by omega) (by omega)
  have y2 : IntKind.u64.wrap dp = dp := wrapU _ (by omega) (by omega)
  have y3 : IntKind.u64.wrap (8 + (p.size : Int)) = 8 + (p.size : Int) := wrapU _ (by omega) (by omega)
  obtain ⟨p1, g1, l1⟩ : ∃ q, numL sp 2 = q ∧ q.length = 2 := ⟨_, rfl, numL_len _ _ (by omega) (by omega)⟩
  obtain ⟨p2, g2, l2⟩ : ∃ q, numL dp 2 = q ∧ q.length = 2 := ⟨_, rfl, numL_len _ _ (by omega) (by omega)⟩
  obtain ⟨p3, g3, l3⟩ : ∃ q, numL (8 + (p.size : Int)) 2 = q ∧ q.length = 2 := ⟨_, rfl, numL_len _ _ (by omega) (by omega)⟩
  have HPP := Lib.hid (body8_parts sp dp p g1 g2 g3)
  have HC := Lib.hid (cat5 p1 p2 p3 p)
  have C1 := Lib.hid (num_is g1 (by omega) (by omega))
  have C2 := Lib.hid (num_is g2 (by omega) (by omega))
  have C3 := Lib.hid (num_is g3 (by omega) (by omega))
  obtain ⟨L, hL, hLl⟩ : ∃ L, L = body8 sp dp p ∧ L.length = 8 + p.size := ⟨_, rfl, body8_len sp dp p⟩
  rw [← HPP.out, ← hL] at HC
  have HO1 := R03.of_any (⟨P.toArray⟩ ++ ⟨L.toArray⟩) (by rw [ByteArray.size_append]; show P.length + L.length ≤ _; omega)
  rw [app_str, show (⟨P.toArray⟩ : ByteArray).data.toList = P by simp, show (⟨L.toArray⟩ : ByteArray).data.toList = L by simp] at HO1
  have hb0 := sumL_le (P ++ L)
  obtain ⟨c, hc, hc1⟩ : ∃ c : Nat, (c : Int) = 65535 - (sumL (P ++ L) : Nat) ∧ c = of8 sp dp P p := ⟨65535 - sumL (P ++ L), by omega, by unfold of8; rw [hL]⟩
  rw [← hc] at HO1
  have HO1 := Lib.hid HO1
  have f1 : (9223372036854775807 < 8 + p.size) = False := eq_false (by omega)
  have f3 : (9223372036854775807 < P.length + L.length) = False := eq_false (by omega)
  by_cases hc0 : c = 0
  · have HS : Hid (setL ⟨(body8 sp dp p).toArray⟩ 6 2 (ck8 sp dp P p) = setL ⟨L.toArray⟩ 6 2 (65535 : Nat)) := Lib.hid (by rw [hL]; unfold ck8; rw [if_pos (by omega)])
    have HS1 := R03.set_any ⟨L.toArray⟩ 6 2 ((65535 : Nat) : Int) (by show L.length ≤ maxLen; unfold maxLen; omega) (by omega) (by omega) (by omega) (by omega)
    have sl : (setL ⟨L.toArray⟩ 6 2 ((65535 : Nat) : Int)).length = L.length := by rw [setL_len']; rfl
    rw [show (((65535 : Nat) : Int)) = 65535 from rfl] at HS HS1 sl
    have HS1 := Lib.hid HS1
    generalize setL ⟨L.toArray⟩ 6 2 (65535 : Int) = Z at *
    subst hc0
    clear hc hc1
    clear g1 g2 g3 hA he hPe hP hl hL hLl hb0 b1 b2 hp HPP
    go_enter Try.func8, Try.ntmps8
    go_wp2_with (first | (go_at_call 15; (with_reducible refine (PS.out _).mono ?_); rintro e wa ⟨rfl, hb⟩; (clear k0 k1 d0 d1 d2 e0 e1 e2); replace HX := Lib.hid (HX.out.next hb); clear hb; (obtain ⟨k0, k1, d0, d1, d2, e0, e1, e2⟩ := cells8U HX.out)) | (go_at_call 16; (with_reducible refine (in_any _ _).mono ?_); rintro e wi ⟨rfl, rfl⟩) | fail)
    (clear k0 k1 d0 d1 d2 e0 e1 e2)
    replace HX := Lib.hid HX.out.drew
    go_region_held3 (fun w' => w'.cell? ⟨w.heap.size, 0, none⟩ = some (.int .i64 sp) ∧ w'.cell? ⟨w.heap.size, 1, none⟩ = some (.int .i64 dp)) (exact cells2U HX.out) (first | (go_at_call 17; (with_reducible refine (C1.out _).mono ?_); rintro e wa ⟨rfl, hb⟩; replace HX := Lib.hid (HX.out.next hb); clear hb) | (go_at_call 17; (with_reducible refine (C2.out _).mono ?_); rintro e wa ⟨rfl, hb⟩; replace HX := Lib.hid (HX.out.next hb); clear hb) | (go_at_call 17; (with_reducible refine (C3.out _).mono ?_); rintro e wa ⟨rfl, hb⟩; replace HX := Lib.hid (HX.out.next hb); clear hb))
    all_goals
      rw [HC.out]
      clear HC
      go_wp2_with (first | (go_at_call 18; (with_reducible refine (HO1.out _).mono ?_); rintro e wa ⟨rfl, hb⟩; replace HX := Lib.hid (HX.out.next hb); clear hb) | (go_at_call 19; (with_reducible refine (HS1.out _).mono ?_); rintro e wa ⟨rfl, hb⟩; replace HX := Lib.hid (HX.out.next hb); clear hb) | fail)
      go_ret2
      exact ⟨ret_si (by rw [HO.out, HS.out]) HE.out.symm, HX.out.2.2.2.1⟩
  · have HS : Hid (setL ⟨(body8 sp dp p).toArray⟩ 6 2 (ck8 sp dp P p) = setL ⟨L.toArray⟩ 6 2 (c : Nat)) := Lib.hid (by rw [hL]; unfold ck8; rw [if_neg (by omega), hc1])
    have HS1 := Lib.hid (R03.set_any ⟨L.toArray⟩ 6 2 (c : Int) (by show L.length ≤ maxLen; unfold maxLen; omega) (by omega) (by omega) (by omega) (by omega))
    have sl : (setL ⟨L.toArray⟩ 6 2 (c : Int)).length = L.length := by rw [setL_len']; rfl
    have cw : IntKind.u64.wrap (c : Int) = c := wrapU _ (by omega) (by omega)
    have cz : ((c : Int) == 0) = false := by simp; omega
    generalize setL ⟨L.toArray⟩ 6 2 (c : Int) = Z at *
    clear hc hc1 hc0
    clear g1 g2 g3 hA he hPe hP hl hL hLl hb0 b1 b2 hp HPP
    go_enter Try.func8, Try.ntmps8
    go_wp2_with (first | (go_at_call 15; (with_reducible refine (PS.out _).mono ?_); rintro e wa ⟨rfl, hb⟩; (clear k0 k1 d0 d1 d2 e0 e1 e2); replace HX := Lib.hid (HX.out.next hb); clear hb; (obtain ⟨k0, k1, d0, d1, d2, e0, e1, e2⟩ := cells8U HX.out)) | (go_at_call 16; (with_reducible refine (in_any _ _).mono ?_); rintro e wi ⟨rfl, rfl⟩) | fail)
    (clear k0 k1 d0 d1 d2 e0 e1 e2)
    replace HX := Lib.hid HX.out.drew
    go_region_held3 (fun w' => w'.cell? ⟨w.heap.size, 0, none⟩ = some (.int .i64 sp) ∧ w'.cell? ⟨w.heap.size, 1, none⟩ = some (.int .i64 dp)) (exact cells2U HX.out) (first | (go_at_call 17; (with_reducible refine (C1.out _).mono ?_); rintro e wa ⟨rfl, hb⟩; replace HX := Lib.hid (HX.out.next hb); clear hb) | (go_at_call 17; (with_reducible refine (C2.out _).mono ?_); rintro e wa ⟨rfl, hb⟩; replace HX := Lib.hid (HX.out.next hb); clear hb) | (go_at_call 17; (with_reducible refine (C3.out _).mono ?_); rintro e wa ⟨rfl, hb⟩; replace HX := Lib.hid (HX.out.next hb); clear hb))
    all_goals
      rw [HC.out]
      clear HC
      go_wp2_with (first | (go_at_call 18; (with_reducible refine (HO1.out _).mono ?_); rintro e wa ⟨rfl, hb⟩; replace HX := Lib.hid (HX.out.next hb); clear hb) | (go_at_call 19; (with_reducible refine (HS1.out _).mono ?_); rintro e wa ⟨rfl, hb⟩; replace HX := Lib.hid (HX.out.next hb); clear hb) | fail)
      go_ret2
      exact ⟨ret_si (by rw [HO.out, HS.out]) HE.out.symm, HX.out.2.2.2.1⟩
theorem put_any (sp dp : Int) (v : Bool) (hi lo : Int) (v' : Bool) (hi' lo' : Int) (p : ByteArray) (hA : BA hi lo hi' lo') (hp : p.size ≤ 1099511627776) (P : List UInt8) (hPe : pseudoL v hi lo v' hi' lo' 17 (8 + (p.size : Int)) = P) (w : World) : Calls Try.prog 8 #[.agg #[.int .i64 sp, .int .i64 dp], .agg #[.bool v, .int .u64 hi, .int .u64 lo], .agg #[.bool v', .int .u64 hi', .int .u64 lo'], .string p] w fun e w' => e = .returned (.tuple #[.string (out8 sp dp P p), .int .i64 (err8 sp dp P p)]) ∧ Below w.heap.size w w' := by
  rcases err8_cases sp dp P p with ⟨hn, he⟩ | ⟨h1, h2, hP, hl, he⟩ | ⟨h1, h2, hP, hl, he⟩
  · exact put_no sp dp v hi lo v' hi' lo' p hA hp P hPe w hn he
  · exact put_long sp dp v hi lo v' hi' lo' p hA hp P hPe w h1 h2 hP hl he
  · exact put_ok sp dp v hi lo v' hi' lo' p hA hp P hPe w h1 h2 hP hl he
end Go.Proofs.Ytkbfiikhflehaaa.R08
