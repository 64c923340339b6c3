/- The contracts of package ipsix: encode, Put. -/
import Derived.Test.YtnlinfdfgalmjaaSixWalks
import Derived.Deep.RegionHeld3
import Derived.Deep.DrawnRows
namespace Go.Proofs.Ytnlinfdfgalmjaa
open Go.RowKit
set_option linter.unusedVariables false
attribute [local go_sem ↓] ldH6 stH6 ldR6 stR6
attribute [local go_sem] rowAt_p rowOkAt_p setAt_p aggOf_a rowOk_new rowOf_new setRow_new agg10 aggH6
attribute [local go_sem ↓] Go.wp_at_zero Go.wp_at_succ

theorem number6_is {n k : Int} {p : List UInt8} (hp : numL n k = p) (w : World) :
    Calls Try.prog 25 #[.int .i64 n, .int .i64 k] w fun e w' => e = .returned (.string ⟨p.toArray⟩) ∧ Below w.heap.size w w' := by
  subst hp; exact number6_any n k w
theorem put6_is {hi lo : Int} {p : List UInt8} (hp : addrB true hi lo = p) (h0 : 0 ≤ hi) (h1 : hi < 18446744073709551616) (l0 : 0 ≤ lo) (l1 : lo < 18446744073709551616) (w : World) :
    Calls Try.prog 26 #[.agg #[.bool true, .int .u64 hi, .int .u64 lo]] w fun e w' => e = .returned (.string ⟨p.toArray⟩) ∧ Below w.heap.size w w' := by
  subst hp; exact put_addr _ _ _ h0 h1 l0 l1 w
theorem or_first (c l : Int) (c0 : 0 ≤ c) (c1 : c ≤ 255) (l0 : 0 ≤ l) (l1 : l ≤ 1048575) : bits .or .i64 (bits .or .i64 1610612736 (c * 1048576)) l = 1610612736 + c * 1048576 + l := by
  have h1 := bits_join .i64 62 (by decide) (fun n h0 h1 => by rw [IntKind.wrap_i64]; omega) 28 1610612736 (c * 1048576) (by omega) (by omega) (by omega) (by omega) (by omega) (by omega)
  have h2 := bits_join .i64 62 (by decide) (fun n h0 h1 => by rw [IntKind.wrap_i64]; omega) 20 (1610612736 + c * 1048576) l (by omega) (by omega) (by omega) l0 (by omega) (by omega)
  rw [show bits .or .i64 1610612736 (c * 1048576) = _ from h1]
  exact h2
theorem cat6 (a b c d e f : List UInt8) : (⟨a.toArray⟩ : ByteArray) ++ ⟨b.toArray⟩ ++ ⟨c.toArray⟩ ++ ⟨d.toArray⟩ ++ ⟨e.toArray⟩ ++ ⟨f.toArray⟩ = ⟨(a ++ b ++ c ++ d ++ e ++ f).toArray⟩ := by
  apply ext_eq
  simp
theorem head6_parts (h : H6) (n : Int) {p1 p2 p3 p4 p5 p6 : List UInt8} (e1 : numL (1610612736 + h.cl * 1048576 + h.lb) 4 = p1) (e2 : numL n 2 = p2) (e3 : numL h.nx 1 = p3) (e4 : numL h.hp 1 = p4) (e5 : addrB h.sv h.sh h.sl = p5) (e6 : addrB h.dv h.dh h.dl = p6) :
    head6 h n = p1 ++ p2 ++ p3 ++ p4 ++ p5 ++ p6 := by
  subst e1 e2 e3 e4 e5 e6; rfl
theorem cellsV {g : Nat} {t : TypeId} {h : H6} {w : World} (H : HasB w g t #[.int .i64 h.cl, .int .i64 h.lb, .int .i64 h.nx, .int .i64 h.hp, .bool true, .int .u64 h.sh, .int .u64 h.sl, .bool true, .int .u64 h.dh, .int .u64 h.dl]) : w.cell? ⟨g, 0, none⟩ = some (.int .i64 h.cl) ∧ w.cell? ⟨g, 1, none⟩ = some (.int .i64 h.lb) ∧ w.cell? ⟨g, 2, none⟩ = some (.int .i64 h.nx) ∧ w.cell? ⟨g, 3, none⟩ = some (.int .i64 h.hp) ∧ w.cell? ⟨g, 4, none⟩ = some (.bool true) ∧ w.cell? ⟨g, 5, none⟩ = some (.int .u64 h.sh) ∧ w.cell? ⟨g, 6, none⟩ = some (.int .u64 h.sl) ∧ w.cell? ⟨g, 7, none⟩ = some (.bool true) ∧ w.cell? ⟨g, 8, none⟩ = some (.int .u64 h.dh) ∧ w.cell? ⟨g, 9, none⟩ = some (.int .u64 h.dl) :=
  ⟨HasB.cell H 0 _ rfl, HasB.cell H 1 _ rfl, HasB.cell H 2 _ rfl, HasB.cell H 3 _ rfl, HasB.cell H 4 _ rfl, HasB.cell H 5 _ rfl, HasB.cell H 6 _ rfl, HasB.cell H 7 _ rfl, HasB.cell H 8 _ rfl, HasB.cell H 9 _ rfl⟩
set_option maxHeartbeats 2000000 in
theorem encode6_any (h : H6) (n : Int) (hv : valid6 h = true) (hb : B6 h) (w : World) :
    Calls Try.prog 13 #[.agg #[.int .i64 h.cl, .int .i64 h.lb, .int .i64 h.nx, .int .i64 h.hp, .bool h.sv, .int .u64 h.sh, .int .u64 h.sl, .bool h.dv, .int .u64 h.dh, .int .u64 h.dl], .int .i64 n] w fun e w' => e = .returned (.string ⟨(head6 h n).toArray⟩) ∧ Below w.heap.size w w' := by
  obtain ⟨v1, v2, v3, v4, v5, v6⟩ := valid6_is hv
  have b1 := inB_is v1
  have b2 := inB_is v2
  obtain ⟨p1, e1, l1⟩ : ∃ p, numL (1610612736 + h.cl * 1048576 + h.lb) 4 = p ∧ p.length = 4 := ⟨_, rfl, numL_len _ _ (by omega) (by omega)⟩
  obtain ⟨p2, e2, l2⟩ : ∃ p, numL n 2 = p ∧ p.length = 2 := ⟨_, rfl, numL_len _ _ (by omega) (by omega)⟩
  obtain ⟨p3, e3, l3⟩ : ∃ p, numL h.nx 1 = p ∧ p.length = 1 := ⟨_, rfl, numL_len _ _ (by omega) (by omega)⟩
  obtain ⟨p4, e4, l4⟩ : ∃ p, numL h.hp 1 = p ∧ p.length = 1 := ⟨_, rfl, numL_len _ _ (by omega) (by omega)⟩
  obtain ⟨p5, e5, l5⟩ : ∃ p, addrB true h.sh h.sl = p ∧ p.length = 16 := ⟨_, rfl, addr6_len _ _⟩
  obtain ⟨p6, e6, l6⟩ : ∃ p, addrB true h.dh h.dl = p ∧ p.length = 16 := ⟨_, rfl, addr6_len _ _⟩
  have HP := Lib.hid (head6_parts h n (p5 := p5) (p6 := p6) e1 e2 e3 e4 (by rw [v5]; exact e5) (by rw [v6]; exact e6))
  have HC := Lib.hid (cat6 p1 p2 p3 p4 p5 p6)
  have C1 := Lib.hid (number6_is e1)
  have C2 := Lib.hid (number6_is e2)
  have C3 := Lib.hid (number6_is e3)
  have C4 := Lib.hid (number6_is e4)
  have C5 := Lib.hid (put6_is e5 hb.a0 hb.a1 hb.b0 hb.b1)
  have C6 := Lib.hid (put6_is e6 hb.c0 hb.c1 hb.d0 hb.d1)
  have hor := or_first h.cl h.lb b1.1 b1.2 b2.1 b2.2
  have hsh : IntKind.i64.wrap (h.cl * 1048576) = h.cl * 1048576 := IntWalk.i64_in _ (by omega)
  show Calls Try.prog 13 #[.agg #[.int .i64 h.cl, .int .i64 h.lb, .int .i64 h.nx, .int .i64 h.hp, .bool h.sv, .int .u64 h.sh, .int .u64 h.sl, .bool h.dv, .int .u64 h.dh, .int .u64 h.dl], .int .i64 n] w fun e w' => e = .returned (.string ⟨(head6 h n).toArray⟩) ∧ Below w.heap.size w w'
  rw [v5, v6]
  have hX0 := HasB.new w 31 #[.int .i64 h.cl, .int .i64 h.lb, .int .i64 h.nx, .int .i64 h.hp, .bool true, .int .u64 h.sh, .int .u64 h.sl, .bool true, .int .u64 h.dh, .int .u64 h.dl]
  have HX : Hid (Held w.heap.size w.heap.size 31 #[.int .i64 h.cl, .int .i64 h.lb, .int .i64 h.nx, .int .i64 h.hp, .bool true, .int .u64 h.sh, .int .u64 h.sl, .bool true, .int .u64 h.dh, .int .u64 h.dl] w (w.alloc (.cells #[.int .i64 h.cl, .int .i64 h.lb, .int .i64 h.nx, .int .i64 h.hp, .bool true, .int .u64 h.sh, .int .u64 h.sl, .bool true, .int .u64 h.dh, .int .u64 h.dl] 31)).drew) := Lib.hid ⟨hX0, ((Below.refl _ _).alloc (Nat.le_refl _) _).drew, by simp⟩
  clear hX0 e1 e2 e3 e4 e5 e6 v1 v2 v3 v4 v5 v6 hv hb b1 b2
  go_enter Try.func13, Try.ntmps13
  go_wp2
  go_region_held3 (fun w' => w'.cell? ⟨w.heap.size, 0, none⟩ = some (.int .i64 h.cl) ∧ w'.cell? ⟨w.heap.size, 1, none⟩ = some (.int .i64 h.lb) ∧ w'.cell? ⟨w.heap.size, 2, none⟩ = some (.int .i64 h.nx) ∧ w'.cell? ⟨w.heap.size, 3, none⟩ = some (.int .i64 h.hp) ∧ w'.cell? ⟨w.heap.size, 4, none⟩ = some (.bool true) ∧ w'.cell? ⟨w.heap.size, 5, none⟩ = some (.int .u64 h.sh) ∧ w'.cell? ⟨w.heap.size, 6, none⟩ = some (.int .u64 h.sl) ∧ w'.cell? ⟨w.heap.size, 7, none⟩ = some (.bool true) ∧ w'.cell? ⟨w.heap.size, 8, none⟩ = some (.int .u64 h.dh) ∧ w'.cell? ⟨w.heap.size, 9, none⟩ = some (.int .u64 h.dl)) (exact cellsV HX.out.1) (first | (go_at_call 25; (with_reducible refine (C1.out _).mono ?_); rintro e wa ⟨rfl, hb⟩; replace HX := Lib.hid (HX.out.next hb); clear hb) | (go_at_call 25; (with_reducible refine (C2.out _).mono ?_); rintro e wa ⟨rfl, hb⟩; replace HX := Lib.hid (HX.out.next hb); clear hb) | (go_at_call 25; (with_reducible refine (C3.out _).mono ?_); rintro e wa ⟨rfl, hb⟩; replace HX := Lib.hid (HX.out.next hb); clear hb) | (go_at_call 25; (with_reducible refine (C4.out _).mono ?_); rintro e wa ⟨rfl, hb⟩; replace HX := Lib.hid (HX.out.next hb); clear hb) | (go_at_call 26; (with_reducible refine (C5.out _).mono ?_); rintro e wa ⟨rfl, hb⟩; replace HX := Lib.hid (HX.out.next hb); clear hb) | (go_at_call 26; (with_reducible refine (C6.out _).mono ?_); rintro e wa ⟨rfl, hb⟩; replace HX := Lib.hid (HX.out.next hb); clear hb))
  all_goals
    have HD := Lib.hid HX.out.2.1
    clear HX
    go_wp2
    go_ret
    exact ⟨by rw [HP.out, ← HC.out]; rfl, HD.out⟩
theorem out6_no {h : H6} {p : ByteArray} (he : err6 h p ≠ 0) : out6 h p = ⟨#[]⟩ := by unfold out6; rw [if_neg he]
theorem put6_any (h : H6) (p : ByteArray) (hb : B6 h) (hp : p.size ≤ 1099511627776) (w : World) :
    Calls Try.prog 6 #[.agg #[.int .i64 h.cl, .int .i64 h.lb, .int .i64 h.nx, .int .i64 h.hp, .bool h.sv, .int .u64 h.sh, .int .u64 h.sl, .bool h.dv, .int .u64 h.dh, .int .u64 h.dl], .string p] w fun e w' => e = .returned (.tuple #[.string (out6 h p), .int .i64 (err6 h p)]) ∧ Below w.heap.size w w' := by
  have hX0 := HasB.new w 31 #[.int .i64 h.cl, .int .i64 h.lb, .int .i64 h.nx, .int .i64 h.hp, .bool h.sv, .int .u64 h.sh, .int .u64 h.sl, .bool h.dv, .int .u64 h.dh, .int .u64 h.dl]
  have HX : Hid (Held w.heap.size w.heap.size 31 #[.int .i64 h.cl, .int .i64 h.lb, .int .i64 h.nx, .int .i64 h.hp, .bool h.sv, .int .u64 h.sh, .int .u64 h.sl, .bool h.dv, .int .u64 h.dh, .int .u64 h.dl] w (w.alloc (.cells #[.int .i64 h.cl, .int .i64 h.lb, .int .i64 h.nx, .int .i64 h.hp, .bool h.sv, .int .u64 h.sh, .int .u64 h.sl, .bool h.dv, .int .u64 h.dh, .int .u64 h.dl] 31))) := Lib.hid ⟨hX0, (Below.refl _ _).alloc (Nat.le_refl _) _, by simp⟩
  clear hX0
  rcases err6_cases h p with ⟨hv, he⟩ | ⟨hv, hl, he⟩ | ⟨hv, hl, he⟩
  · have HO := Lib.hid (out6_no (h := h) (p := p) (by omega))
    have HE := Lib.hid he
    clear he
    go_enter Try.func6, Try.ntmps6
    go_wp2_with (first | (go_at_call 12; (with_reducible refine (valid6_any h _).mono ?_); rintro e wa ⟨rfl, hb⟩; replace HX := Lib.hid (HX.out.next hb); clear hb; obtain ⟨c0, c1, c2, c3, c4, c5, c6, c7, c8, c9⟩ := cells10 HX.out.1; have hro := HasB.rowOk HX.out.1 (n := 10) rfl; have hrw := HasB.rowOf HX.out.1) | fail | fail)
    go_ret2
    exact ⟨ret_si HO.out.symm HE.out.symm, HX.out.2.1⟩
  · have HO := Lib.hid (out6_no (h := h) (p := p) (by omega))
    have HE := Lib.hid he
    have hli : (65535 : Int) < p.size := by omega
    clear he hl
    go_enter Try.func6, Try.ntmps6
    go_wp2_with (first | (go_at_call 12; (with_reducible refine (valid6_any h _).mono ?_); rintro e wa ⟨rfl, hb⟩; replace HX := Lib.hid (HX.out.next hb); clear hb; obtain ⟨c0, c1, c2, c3, c4, c5, c6, c7, c8, c9⟩ := cells10 HX.out.1; have hro := HasB.rowOk HX.out.1 (n := 10) rfl; have hrw := HasB.rowOf HX.out.1) | fail | fail)
    go_ret2
    exact ⟨ret_si HO.out.symm HE.out.symm, HX.out.2.1⟩
  · have HO : Hid (out6 h p = ⟨(head6 h (p.size : Int)).toArray⟩ ++ p) := Lib.hid (if_pos he)
    have HE := Lib.hid he
    have hli : ¬ (65535 : Int) < p.size := by omega
    have HM := Lib.hid (encode6_any h (p.size : Int) hv hb)
    have hLl := head6_len h (p.size : Int) hv
    generalize head6 h (p.size : Int) = L at *
    have f1 : (9223372036854775807 < 40 + p.size) = False := eq_false (by omega)
    clear he hl hb
    go_enter Try.func6, Try.ntmps6
    go_wp2_with (first | (go_at_call 12; (with_reducible refine (valid6_any h _).mono ?_); rintro e wa ⟨rfl, hb⟩; replace HX := Lib.hid (HX.out.next hb); clear hb; obtain ⟨c0, c1, c2, c3, c4, c5, c6, c7, c8, c9⟩ := cells10 HX.out.1; have hro := HasB.rowOk HX.out.1 (n := 10) rfl; have hrw := HasB.rowOf HX.out.1) | (go_at_call 13; (with_reducible refine (HM.out _).mono ?_); rintro e wa ⟨rfl, hb⟩; replace HX := Lib.hid (HX.out.next hb); clear hb) | fail)
    go_ret2
    exact ⟨ret_si HO.out.symm HE.out.symm, HX.out.2.1⟩
end Go.Proofs.Ytnlinfdfgalmjaa
