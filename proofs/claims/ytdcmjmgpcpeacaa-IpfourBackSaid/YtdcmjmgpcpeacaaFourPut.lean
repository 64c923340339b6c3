/- The contract of package ipfour: Put. -/
import Derived.Test.YtdcmjmgpcpeacaaFourEnc
namespace Go.Proofs.Ytdcmjmgpcpeacaa
open Go.RowKit
set_option linter.unusedVariables false

theorem headL_len (h : Hd) (n : Int) (hv : validH h = true) : (headL h n).length = 20 + h.op.size := by
  obtain ⟨v1, v2, v3, v4, v5, v6, v7, v8⟩ := valid_is hv
  unfold headL
  simp only [List.length_append, numL_len _ 1 (by omega) (by omega), numL_len _ 2 (by omega) (by omega), addr4_len v5, addr4_len v6, ← size_list]
  omega
theorem setL_len (s : ByteArray) (p k n : Int) : (setL s p k n).length = s.size := by
  cases h : getOk s p k with
  | false => rw [setL_no h]; rfl
  | true =>
    obtain ⟨h1, h2, h3, h4⟩ := getOk_is h
    rw [setL_yes h]
    have : (putL n k).length = k.toNat := by unfold putL; rw [if_pos ⟨h1, h2⟩, bigB_length]
    simp only [List.length_append, List.length_take, List.length_drop, this, ← size_list]
    omega
theorem cells12 {g : Nat} {t : TypeId} {h : Hd} {w : World} (H : HasB w g t #[.int .i64 h.cl, .int .i64 h.id, .bool h.wh, .int .i64 h.tt, .int .i64 h.pr, .bool h.sv, .int .u64 h.sh, .int .u64 h.sl, .bool h.dv, .int .u64 h.dh, .int .u64 h.dl, .string h.op]) : w.cell? ⟨g, 0, none⟩ = some (.int .i64 h.cl) ∧ w.cell? ⟨g, 1, none⟩ = some (.int .i64 h.id) ∧ w.cell? ⟨g, 2, none⟩ = some (.bool h.wh) ∧ w.cell? ⟨g, 3, none⟩ = some (.int .i64 h.tt) ∧ w.cell? ⟨g, 4, none⟩ = some (.int .i64 h.pr) ∧ w.cell? ⟨g, 5, none⟩ = some (.bool h.sv) ∧ w.cell? ⟨g, 6, none⟩ = some (.int .u64 h.sh) ∧ w.cell? ⟨g, 7, none⟩ = some (.int .u64 h.sl) ∧ w.cell? ⟨g, 8, none⟩ = some (.bool h.dv) ∧ w.cell? ⟨g, 9, none⟩ = some (.int .u64 h.dh) ∧ w.cell? ⟨g, 10, none⟩ = some (.int .u64 h.dl) ∧ w.cell? ⟨g, 11, none⟩ = some (.string h.op) :=
  ⟨HasB.cell H 0 _ rfl, HasB.cell H 1 _ rfl, HasB.cell H 2 _ rfl, HasB.cell H 3 _ rfl, HasB.cell H 4 _ rfl, HasB.cell H 5 _ rfl, HasB.cell H 6 _ rfl, HasB.cell H 7 _ rfl, HasB.cell H 8 _ rfl, HasB.cell H 9 _ rfl, HasB.cell H 10 _ rfl, HasB.cell H 11 _ rfl⟩
theorem ret_si {k : IntKind} {a b : ByteArray} {x y : Int} (h : a = b) (g : x = y) : Ending.returned (.tuple #[.string a, .int k x]) = .returned (.tuple #[.string b, .int k y]) := by rw [h, g]
theorem errP_cases (h : Hd) (p : ByteArray) : (validH h = false ∧ errP h p = 1) ∨ (validH h = true ∧ 65535 < 20 + h.op.size + p.size ∧ errP h p = 5) ∨ (validH h = true ∧ 20 + h.op.size + p.size ≤ 65535 ∧ errP h p = 0) := by
  unfold errP
  cases hv : validH h with
  | false => exact .inl ⟨rfl, rfl⟩
  | true =>
    by_cases hl : 65535 < 20 + h.op.size + p.size
    · exact .inr (.inl ⟨rfl, hl, by simp [hl]⟩)
    · exact .inr (.inr ⟨rfl, by omega, by simp [hl]⟩)
set_option maxHeartbeats 1000000 in
theorem put4_any (h : Hd) (p : ByteArray) (s0 : 0 ≤ h.sl) (d0 : 0 ≤ h.dl) (hp : p.size ≤ 1099511627776) (w : World) :
    Calls Try.prog 6 #[.agg #[.int .i64 h.cl, .int .i64 h.id, .bool h.wh, .int .i64 h.tt, .int .i64 h.pr, .bool h.sv, .int .u64 h.sh, .int .u64 h.sl, .bool h.dv, .int .u64 h.dh, .int .u64 h.dl, .string h.op], .string p] w fun e w' => e = .returned (.tuple #[.string (outP h p), .int .i64 (errP h p)]) ∧ Below w.heap.size w w' := by
  have hX0 := HasB.new w 31 #[.int .i64 h.cl, .int .i64 h.id, .bool h.wh, .int .i64 h.tt, .int .i64 h.pr, .bool h.sv, .int .u64 h.sh, .int .u64 h.sl, .bool h.dv, .int .u64 h.dh, .int .u64 h.dl, .string h.op]
  have HX : Hid (Held w.heap.size w.heap.size 31 #[.int .i64 h.cl, .int .i64 h.id, .bool h.wh, .int .i64 h.tt, .int .i64 h.pr, .bool h.sv, .int .u64 h.sh, .int .u64 h.sl, .bool h.dv, .int .u64 h.dh, .int .u64 h.dl, .string h.op] w (w.alloc (.cells #[.int .i64 h.cl, .int .i64 h.id, .bool h.wh, .int .i64 h.tt, .int .i64 h.pr, .bool h.sv, .int .u64 h.sh, .int .u64 h.sl, .bool h.dv, .int .u64 h.dh, .int .u64 h.dl, .string h.op] 31))) := Lib.hid ⟨hX0, (Below.refl _ _).alloc (Nat.le_refl _) _, by simp⟩
  clear hX0
  rcases errP_cases h p with ⟨hv, he⟩ | ⟨hv, hl, he⟩ | ⟨hv, hl, he⟩
  · have HO : Hid (outP h p = ⟨#[]⟩) := Lib.hid (by unfold outP; rw [if_neg (by omega)])
    have HE := Lib.hid he
    clear he
    go_enter Try.func6, Try.ntmps6
    go_wp2_with (first | (go_at_call 15; (with_reducible refine (valid4_any h _).mono ?_); rintro e wa ⟨rfl, hb⟩; replace HX := Lib.hid (HX.out.next hb); clear hb; obtain ⟨c0, c1, c2, c3, c4, c5, c6, c7, c8, c9, c10, c11⟩ := cells12 HX.out.1) | fail | fail)
    go_ret2
    exact ⟨ret_si HO.out.symm HE.out.symm, HX.out.2.1⟩
  · have HO : Hid (outP h p = ⟨#[]⟩) := Lib.hid (by unfold outP; rw [if_neg (by omega)])
    have HE := Lib.hid he
    have hli : (65535 : Int) < 20 + h.op.size + p.size := by omega
    have v7 := (valid_is hv).2.2.2.2.2.2.1
    clear he hl
    go_enter Try.func6, Try.ntmps6
    go_wp2_with (first | (go_at_call 15; (with_reducible refine (valid4_any h _).mono ?_); rintro e wa ⟨rfl, hb⟩; replace HX := Lib.hid (HX.out.next hb); clear hb; obtain ⟨c0, c1, c2, c3, c4, c5, c6, c7, c8, c9, c10, c11⟩ := cells12 HX.out.1) | fail | fail)
    go_ret2
    exact ⟨ret_si HO.out.symm HE.out.symm, HX.out.2.1⟩
  · have v7 := (valid_is hv).2.2.2.2.2.2.1
    have HO : Hid (outP h p = ⟨(hsumL h (20 + (h.op.size : Int) + (p.size : Int))).toArray⟩ ++ p) := Lib.hid (if_pos he)
    have HE := Lib.hid he
    have hli : ¬ (65535 : Int) < 20 + h.op.size + p.size := by omega
    have HM := Lib.hid (encode4_any h (20 + (h.op.size : Int) + (p.size : Int)) hv s0 d0)
    obtain ⟨L, hL, hLl⟩ : ∃ L, L = headL h (20 + (h.op.size : Int) + (p.size : Int)) ∧ L.length = 20 + h.op.size := ⟨_, rfl, headL_len h _ hv⟩
    have HS : Hid (hsumL h (20 + (h.op.size : Int) + (p.size : Int)) = setL ⟨L.toArray⟩ 10 2 (65535 - (sumL L : Nat))) := Lib.hid (by rw [hL]; rfl)
    rw [← hL] at HM
    have HO1 := Lib.hid (of_any ⟨L.toArray⟩ (by show L.length ≤ _; omega))
    have hb0 := sumL_le L
    obtain ⟨c, hc, hc1⟩ : ∃ c : Nat, (c : Int) = 65535 - (sumL L : Nat) ∧ c ≤ 65535 := ⟨65535 - sumL L, by omega, by omega⟩
    rw [show (⟨L.toArray⟩ : ByteArray).data.toList = L by simp, ← hc] at HO1
    rw [← hc] at HS
    have HS1 := Lib.hid (set_any ⟨L.toArray⟩ 10 2 c (by show L.length ≤ maxLen; unfold maxLen; omega) (by omega) (by omega) (by omega) (by omega))
    have cw : IntKind.u64.wrap (c : Int) = c := wrapU _ (by omega) (by omega)
    have sl : (setL ⟨L.toArray⟩ 10 2 c).length = 20 + h.op.size := by rw [setL_len]; exact hLl
    generalize setL ⟨L.toArray⟩ 10 2 c = Z at *
    have f1 : (9223372036854775807 < 20 + h.op.size + p.size) = False := eq_false (by omega)
    clear he hl hL hc hb0 s0 d0 hLl
    go_enter Try.func6, Try.ntmps6
    go_wp2_with (first | (go_at_call 15; (with_reducible refine (valid4_any h _).mono ?_); rintro e wa ⟨rfl, hb⟩; replace HX := Lib.hid (HX.out.next hb); clear hb; obtain ⟨c0, c1, c2, c3, c4, c5, c6, c7, c8, c9, c10, c11⟩ := cells12 HX.out.1) | (go_at_call 16; (with_reducible refine (HM.out _).mono ?_); rintro e wa ⟨rfl, hb⟩; replace HX := Lib.hid (HX.out.next hb); clear hb) | (go_at_call 18; (with_reducible refine (HO1.out _).mono ?_); rintro e wa ⟨rfl, hb⟩; replace HX := Lib.hid (HX.out.next hb); clear hb) | (go_at_call 17; (with_reducible refine (HS1.out _).mono ?_); rintro e wa ⟨rfl, hb⟩; replace HX := Lib.hid (HX.out.next hb); clear hb) | fail)
    go_ret2
    exact ⟨ret_si (by rw [HO.out, HS.out]) HE.out.symm, HX.out.2.1⟩
end Go.Proofs.Ytdcmjmgpcpeacaa
