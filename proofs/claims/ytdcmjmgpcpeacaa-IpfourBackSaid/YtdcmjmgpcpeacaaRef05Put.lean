/- The contract of cloakroomref05: Put. -/
import Derived.Test.YtdcmjmgpcpeacaaRef05
import Derived.Test.YtdcmjmgpcpeacaaFourBack
namespace Go.Proofs.Ytdcmjmgpcpeacaa.R05
open Go.RowKit
set_option linter.unusedVariables false
attribute [local go_sem ↓] Go.wp_at_zero Go.wp_at_succ

theorem num_is {n k : Int} {p : List UInt8} (hp : numL n k = p) (w : World) :
    Calls Try.prog 20 #[.int .i64 n, .int .i64 k] w fun e w' => e = .returned (.string ⟨p.toArray⟩) ∧ Below w.heap.size w w' := by
  subst hp; exact num_any n k w
theorem put_is {v : Bool} {hi lo : Int} {p : List UInt8} (hp : addrB v hi lo = p) (hf : four v hi lo = true) (h0 : 0 ≤ lo) (w : World) :
    Calls Try.prog 21 #[.agg #[.bool v, .int .u64 hi, .int .u64 lo]] w fun e w' => e = .returned (.string ⟨p.toArray⟩) ∧ Below w.heap.size w w' := by
  obtain ⟨rfl, rfl, h1⟩ := four_is hf
  subst hp; exact R04.put_addr _ _ _ (by omega) (by omega) h0 (by omega) w
theorem cat12 (a b c d e f e2 g i j k l : List UInt8) (o : ByteArray) (h : e ++ f = e2) :
    (⟨a.toArray⟩ : ByteArray) ++ ⟨b.toArray⟩ ++ ⟨c.toArray⟩ ++ ⟨d.toArray⟩ ++ ⟨e.toArray⟩ ++ ⟨f.toArray⟩ ++ ⟨g.toArray⟩ ++ ⟨i.toArray⟩ ++ ⟨j.toArray⟩ ++ ⟨k.toArray⟩ ++ ⟨l.toArray⟩ ++ o = ⟨(a ++ b ++ c ++ d ++ e2 ++ g ++ i ++ j ++ k ++ l ++ o.data.toList).toArray⟩ := by
  subst h
  apply ext_eq
  simp
theorem whole2 (w : Bool) : numL (if w then 64 else 0) 1 ++ numL 0 1 = numL (if w then 16384 else 0) 2 := by cases w <;> decide
theorem right_w {h : Hd} {b : Bool} (hw : h.wh = b) (hv : validH h = true) (w : World) :
    Calls Try.prog 19 #[.agg #[.int .i64 h.cl, .int .i64 h.id, .bool b, .int .i64 h.tt, .int .i64 h.pr, .bool h.sv, .int .u64 h.sh, .int .u64 h.sl, .bool h.dv, .int .u64 h.dh, .int .u64 h.dl, .string h.op]] w fun e w' => e = .returned (.bool true) ∧ Below w.heap.size w w' := by
  have := right_any h w
  rw [hv, hw] at this
  exact this
set_option maxHeartbeats 2000000 in
theorem put_any (h : Hd) (p : ByteArray) (s0 : 0 ≤ h.sl) (d0 : 0 ≤ h.dl) (hp : p.size ≤ 1099511627776) (hl : 20 + h.op.size + p.size ≤ 65535) (hv : validH h = true) (w : World) :
    Calls Try.prog 8 #[.agg #[.int .i64 h.cl, .int .i64 h.id, .bool h.wh, .int .i64 h.tt, .int .i64 h.pr, .bool h.sv, .int .u64 h.sh, .int .u64 h.sl, .bool h.dv, .int .u64 h.dh, .int .u64 h.dl, .string h.op], .string p] w fun e w' => e = .returned (.tuple #[.string (outP h p), .int .i64 (errP h p)]) ∧ Below w.heap.size w w' := by
  obtain ⟨v1, v2, v3, v4, v5, v6, v7, v8⟩ := valid_is hv
  have he := errP_is hv hl
  have HO : Hid (outP h p = ⟨(hsumL h (20 + (h.op.size : Int) + (p.size : Int))).toArray⟩ ++ p) := Lib.hid (if_pos he)
  have HE := Lib.hid he
  have hX0 := HasB.new w 26 #[.int .i64 h.cl, .int .i64 h.id, .bool h.wh, .int .i64 h.tt, .int .i64 h.pr, .bool h.sv, .int .u64 h.sh, .int .u64 h.sl, .bool h.dv, .int .u64 h.dh, .int .u64 h.dl, .string h.op]
  have HX : Hid (Held w.heap.size w.heap.size 26 #[.int .i64 h.cl, .int .i64 h.id, .bool h.wh, .int .i64 h.tt, .int .i64 h.pr, .bool h.sv, .int .u64 h.sh, .int .u64 h.sl, .bool h.dv, .int .u64 h.dh, .int .u64 h.dl, .string h.op] w (w.alloc (.cells #[.int .i64 h.cl, .int .i64 h.id, .bool h.wh, .int .i64 h.tt, .int .i64 h.pr, .bool h.sv, .int .u64 h.sh, .int .u64 h.sl, .bool h.dv, .int .u64 h.dh, .int .u64 h.dl, .string h.op] 26))) := Lib.hid ⟨hX0, (Below.refl _ _).alloc (Nat.le_refl _) _, by simp⟩
  clear hX0 he
  obtain ⟨p1, e1, l1⟩ : ∃ p, numL (64 + (20 + (h.op.size : Int)) / 4) 1 = p ∧ p.length = 1 := ⟨_, rfl, numL_len _ _ (by omega) (by omega)⟩
  obtain ⟨p2, e2, l2⟩ : ∃ p, numL h.cl 1 = p ∧ p.length = 1 := ⟨_, rfl, numL_len _ _ (by omega) (by omega)⟩
  obtain ⟨p3, e3, l3⟩ : ∃ q, numL (20 + (h.op.size : Int) + (p.size : Int)) 2 = q ∧ q.length = 2 := ⟨_, rfl, numL_len _ _ (by omega) (by omega)⟩
  obtain ⟨p4, e4, l4⟩ : ∃ p, numL h.id 2 = p ∧ p.length = 2 := ⟨_, rfl, numL_len _ _ (by omega) (by omega)⟩
  obtain ⟨p5', e5', l5'⟩ : ∃ p, numL (if h.wh then 16384 else 0) 2 = p ∧ p.length = 2 := ⟨_, rfl, numL_len _ _ (by omega) (by omega)⟩
  obtain ⟨p5, e5a, l5⟩ : ∃ p, numL (if h.wh then 64 else 0) 1 = p ∧ p.length = 1 := ⟨_, rfl, numL_len _ _ (by omega) (by omega)⟩
  obtain ⟨q5, e5b, m5⟩ : ∃ p, numL 0 1 = p ∧ p.length = 1 := ⟨_, rfl, numL_len _ _ (by omega) (by omega)⟩
  obtain ⟨p6, e6, l6⟩ : ∃ p, numL h.tt 1 = p ∧ p.length = 1 := ⟨_, rfl, numL_len _ _ (by omega) (by omega)⟩
  obtain ⟨p7, e7, l7⟩ : ∃ p, numL h.pr 1 = p ∧ p.length = 1 := ⟨_, rfl, numL_len _ _ (by omega) (by omega)⟩
  obtain ⟨p8, e8, l8⟩ : ∃ p, numL 0 2 = p ∧ p.length = 2 := ⟨_, rfl, numL_len _ _ (by omega) (by omega)⟩
  obtain ⟨p9, e9, l9⟩ : ∃ p, addrB h.sv h.sh h.sl = p ∧ p.length = 4 := ⟨_, rfl, addr4_len v5⟩
  obtain ⟨p10, e10, l10⟩ : ∃ p, addrB h.dv h.dh h.dl = p ∧ p.length = 4 := ⟨_, rfl, addr4_len v6⟩
  have HPP := Lib.hid (headL_parts h (20 + (h.op.size : Int) + (p.size : Int)) e1 e2 e3 e4 e5' e6 e7 e8 e9 e10)
  have HC := Lib.hid (cat12 p1 p2 p3 p4 p5 q5 p5' p6 p7 p8 p9 p10 h.op (by rw [← e5a, ← e5b, ← e5', whole2]))
  have C1 := Lib.hid (num_is e1)
  have C2 := Lib.hid (num_is e2)
  have C3 := Lib.hid (num_is e3)
  have C4 := Lib.hid (num_is e4)
  have D5 := Lib.hid (num_is e5b)
  have C6 := Lib.hid (num_is e6)
  have C7 := Lib.hid (num_is e7)
  have C8 := Lib.hid (num_is e8)
  have C9 := Lib.hid (put_is e9 v5 s0)
  have C10 := Lib.hid (put_is e10 v6 d0)
  -- the whole, and its check
  obtain ⟨L, hL, hLl⟩ : ∃ L, L = headL h (20 + (h.op.size : Int) + (p.size : Int)) ∧ L.length = 20 + h.op.size := ⟨_, rfl, headL_len h _ hv⟩
  rw [← HPP.out, ← hL] at HC
  have HS : Hid (hsumL h (20 + (h.op.size : Int) + (p.size : Int)) = setL ⟨L.toArray⟩ 10 2 (65535 - (sumL L : Nat))) := Lib.hid (by rw [hL]; rfl)
  have HO1 := Lib.hid (R03.of_any ⟨L.toArray⟩ (by show L.length ≤ _; omega))
  have hb0 := sumL_le L
  obtain ⟨c, hc, hc1⟩ : ∃ c : Nat, (c : Int) = 65535 - (sumL L : Nat) ∧ c ≤ 65535 := ⟨65535 - sumL L, by omega, by omega⟩
  rw [show (⟨L.toArray⟩ : ByteArray).data.toList = L by simp, ← hc] at HO1
  rw [← hc] at HS
  have HS1 := Lib.hid (R03.set_any ⟨L.toArray⟩ 10 2 c (by show L.length ≤ maxLen; unfold maxLen; omega) (by omega) (by omega) (by omega) (by omega))
  have cw : IntKind.u64.wrap (c : Int) = c := wrapU _ (by omega) (by omega)
  have sl : (setL ⟨L.toArray⟩ 10 2 c).length = 20 + h.op.size := by rw [setL_len]; exact hLl
  generalize setL ⟨L.toArray⟩ 10 2 c = Z at *
  have f1 : (9223372036854775807 < 20 + h.op.size + p.size) = False := eq_false (by omega)
  have f20 : (9223372036854775807 < 20 + h.op.size) = False := eq_false (by omega)
  have w1 : IntKind.i64.wrap (20 + (h.op.size : Int) + (p.size : Int)) = 20 + (h.op.size : Int) + (p.size : Int) := IntWalk.i64_in _ (by omega)
  have w2 : (20 + (h.op.size : Int)).tdiv 4 = (20 + (h.op.size : Int)) / 4 := Int.tdiv_eq_ediv_of_nonneg (by omega)
  have w3 : IntKind.i64.wrap ((20 + (h.op.size : Int)) / 4) = (20 + (h.op.size : Int)) / 4 := IntWalk.i64_in _ (by omega)
  have w4 : IntKind.i64.wrap (64 + (20 + (h.op.size : Int)) / 4) = 64 + (20 + (h.op.size : Int)) / 4 := IntWalk.i64_in _ (by omega)
  have hli : ¬ ((65535 : Int) - (20 + (h.op.size : Int)) < (p.size : Int)) := by omega
  clear e1 e2 e3 e4 e5' e6 e7 e8 e9 e10 v1 v2 v3 v4 v5 v6 s0 d0 hL hc hb0 hLl HPP
  cases hw : h.wh with
  | true =>
    rw [hw] at HX
    have CR := Lib.hid (right_w hw hv)
    have e5c : numL 64 1 = p5 := by have h1 := e5a; rw [hw] at h1; exact h1
    have C5 := Lib.hid (num_is e5c)
    clear e5a e5b e5c
    go_enter Try.func8, Try.ntmps8
    go_wp2_with (first | (go_at_call 19; (with_reducible refine (CR.out _).mono ?_); rintro e wa ⟨rfl, hb⟩; replace HX := Lib.hid (HX.out.next hb); clear hb; obtain ⟨c0, c1, c3, c4, c5, c6, c7, c8, c9, c10, c11⟩ := cells8 HX.out.1; have c2 := HasB.cell HX.out.1 2 (.bool true) rfl) | fail)
    clear c0 c1 c2 c3 c4 c5 c6 c7 c8 c9 c10 c11
    replace HX := Lib.hid HX.out.drew
    go_region_held3 (fun w' => w'.cell? ⟨w.heap.size, 0, none⟩ = some (.int .i64 h.cl) ∧ w'.cell? ⟨w.heap.size, 1, none⟩ = some (.int .i64 h.id) ∧ w'.cell? ⟨w.heap.size, 3, none⟩ = some (.int .i64 h.tt) ∧ w'.cell? ⟨w.heap.size, 4, none⟩ = some (.int .i64 h.pr) ∧ w'.cell? ⟨w.heap.size, 5, none⟩ = some (.bool h.sv) ∧ w'.cell? ⟨w.heap.size, 6, none⟩ = some (.int .u64 h.sh) ∧ w'.cell? ⟨w.heap.size, 7, none⟩ = some (.int .u64 h.sl) ∧ w'.cell? ⟨w.heap.size, 8, none⟩ = some (.bool h.dv) ∧ w'.cell? ⟨w.heap.size, 9, none⟩ = some (.int .u64 h.dh) ∧ w'.cell? ⟨w.heap.size, 10, none⟩ = some (.int .u64 h.dl) ∧ w'.cell? ⟨w.heap.size, 11, none⟩ = some (.string h.op)) (exact cells8 HX.out.1) (first | (go_at_call 20; (with_reducible refine (C1.out _).mono ?_); rintro e wa ⟨rfl, hb⟩; replace HX := Lib.hid (HX.out.next hb); clear hb) | (go_at_call 20; (with_reducible refine (C2.out _).mono ?_); rintro e wa ⟨rfl, hb⟩; replace HX := Lib.hid (HX.out.next hb); clear hb) | (go_at_call 20; (with_reducible refine (C3.out _).mono ?_); rintro e wa ⟨rfl, hb⟩; replace HX := Lib.hid (HX.out.next hb); clear hb) | (go_at_call 20; (with_reducible refine (C4.out _).mono ?_); rintro e wa ⟨rfl, hb⟩; replace HX := Lib.hid (HX.out.next hb); clear hb) | (go_at_call 20; (with_reducible refine (C5.out _).mono ?_); rintro e wa ⟨rfl, hb⟩; replace HX := Lib.hid (HX.out.next hb); clear hb) | (go_at_call 20; (with_reducible refine (D5.out _).mono ?_); rintro e wa ⟨rfl, hb⟩; replace HX := Lib.hid (HX.out.next hb); clear hb) | (go_at_call 20; (with_reducible refine (C6.out _).mono ?_); rintro e wa ⟨rfl, hb⟩; replace HX := Lib.hid (HX.out.next hb); clear hb) | (go_at_call 20; (with_reducible refine (C7.out _).mono ?_); rintro e wa ⟨rfl, hb⟩; replace HX := Lib.hid (HX.out.next hb); clear hb) | (go_at_call 20; (with_reducible refine (C8.out _).mono ?_); rintro e wa ⟨rfl, hb⟩; replace HX := Lib.hid (HX.out.next hb); clear hb) | (go_at_call 21; (with_reducible refine (C9.out _).mono ?_); rintro e wa ⟨rfl, hb⟩; replace HX := Lib.hid (HX.out.next hb); clear hb) | (go_at_call 21; (with_reducible refine (C10.out _).mono ?_); rintro e wa ⟨rfl, hb⟩; replace HX := Lib.hid (HX.out.next hb); clear hb))
    all_goals
      rw [HC.out]
      obtain ⟨c0, c1, c3, c4, c5, c6, c7, c8, c9, c10, c11⟩ := cells8 HX.out.1
      clear HC
      go_wp2_with (first | (go_at_call 23; (with_reducible refine (HO1.out _).mono ?_); rintro e wa ⟨rfl, hb⟩; replace HX := Lib.hid (HX.out.next hb); clear hb) | (go_at_call 22; (with_reducible refine (HS1.out _).mono ?_); rintro e wa ⟨rfl, hb⟩; replace HX := Lib.hid (HX.out.next hb); clear hb) | fail)
      go_ret2
      exact ⟨ret_si (by rw [HO.out, HS.out]) HE.out.symm, HX.out.2.1⟩
  | false =>
    rw [hw] at HX
    have CR := Lib.hid (right_w hw hv)
    have e5c : numL 0 1 = p5 := by have h1 := e5a; rw [hw] at h1; exact h1
    have C5 := Lib.hid (num_is e5c)
    have e5d : q5 = p5 := by rw [← e5c]; exact e5b.symm
    subst e5d
    clear e5a e5c e5b
    go_enter Try.func8, Try.ntmps8
    go_wp2_with (first | (go_at_call 19; (with_reducible refine (CR.out _).mono ?_); rintro e wa ⟨rfl, hb⟩; replace HX := Lib.hid (HX.out.next hb); clear hb; obtain ⟨c0, c1, c3, c4, c5, c6, c7, c8, c9, c10, c11⟩ := cells8 HX.out.1; have c2 := HasB.cell HX.out.1 2 (.bool false) rfl) | fail)
    clear c0 c1 c2 c3 c4 c5 c6 c7 c8 c9 c10 c11
    replace HX := Lib.hid HX.out.drew
    go_region_held3 (fun w' => w'.cell? ⟨w.heap.size, 0, none⟩ = some (.int .i64 h.cl) ∧ w'.cell? ⟨w.heap.size, 1, none⟩ = some (.int .i64 h.id) ∧ w'.cell? ⟨w.heap.size, 3, none⟩ = some (.int .i64 h.tt) ∧ w'.cell? ⟨w.heap.size, 4, none⟩ = some (.int .i64 h.pr) ∧ w'.cell? ⟨w.heap.size, 5, none⟩ = some (.bool h.sv) ∧ w'.cell? ⟨w.heap.size, 6, none⟩ = some (.int .u64 h.sh) ∧ w'.cell? ⟨w.heap.size, 7, none⟩ = some (.int .u64 h.sl) ∧ w'.cell? ⟨w.heap.size, 8, none⟩ = some (.bool h.dv) ∧ w'.cell? ⟨w.heap.size, 9, none⟩ = some (.int .u64 h.dh) ∧ w'.cell? ⟨w.heap.size, 10, none⟩ = some (.int .u64 h.dl) ∧ w'.cell? ⟨w.heap.size, 11, none⟩ = some (.string h.op)) (exact cells8 HX.out.1) (first | (go_at_call 20; (with_reducible refine (C1.out _).mono ?_); rintro e wa ⟨rfl, hb⟩; replace HX := Lib.hid (HX.out.next hb); clear hb) | (go_at_call 20; (with_reducible refine (C2.out _).mono ?_); rintro e wa ⟨rfl, hb⟩; replace HX := Lib.hid (HX.out.next hb); clear hb) | (go_at_call 20; (with_reducible refine (C3.out _).mono ?_); rintro e wa ⟨rfl, hb⟩; replace HX := Lib.hid (HX.out.next hb); clear hb) | (go_at_call 20; (with_reducible refine (C4.out _).mono ?_); rintro e wa ⟨rfl, hb⟩; replace HX := Lib.hid (HX.out.next hb); clear hb) | (go_at_call 20; (with_reducible refine (C5.out _).mono ?_); rintro e wa ⟨rfl, hb⟩; replace HX := Lib.hid (HX.out.next hb); clear hb) | (go_at_call 20; (with_reducible refine (D5.out _).mono ?_); rintro e wa ⟨rfl, hb⟩; replace HX := Lib.hid (HX.out.next hb); clear hb) | (go_at_call 20; (with_reducible refine (C6.out _).mono ?_); rintro e wa ⟨rfl, hb⟩; replace HX := Lib.hid (HX.out.next hb); clear hb) | (go_at_call 20; (with_reducible refine (C7.out _).mono ?_); rintro e wa ⟨rfl, hb⟩; replace HX := Lib.hid (HX.out.next hb); clear hb) | (go_at_call 20; (with_reducible refine (C8.out _).mono ?_); rintro e wa ⟨rfl, hb⟩; replace HX := Lib.hid (HX.out.next hb); clear hb) | (go_at_call 21; (with_reducible refine (C9.out _).mono ?_); rintro e wa ⟨rfl, hb⟩; replace HX := Lib.hid (HX.out.next hb); clear hb) | (go_at_call 21; (with_reducible refine (C10.out _).mono ?_); rintro e wa ⟨rfl, hb⟩; replace HX := Lib.hid (HX.out.next hb); clear hb))
    all_goals
      rw [HC.out]
      obtain ⟨c0, c1, c3, c4, c5, c6, c7, c8, c9, c10, c11⟩ := cells8 HX.out.1
      clear HC
      go_wp2_with (first | (go_at_call 23; (with_reducible refine (HO1.out _).mono ?_); rintro e wa ⟨rfl, hb⟩; replace HX := Lib.hid (HX.out.next hb); clear hb) | (go_at_call 22; (with_reducible refine (HS1.out _).mono ?_); rintro e wa ⟨rfl, hb⟩; replace HX := Lib.hid (HX.out.next hb); clear hb) | fail)
      go_ret2
      exact ⟨ret_si (by rw [HO.out, HS.out]) HE.out.symm, HX.out.2.1⟩
end Go.Proofs.Ytdcmjmgpcpeacaa.R05
