/- The contracts of cloakroomref02: Get, Must, Put. -/
import Derived.Test.YtklilelbebhinaaOctetWalks
namespace Go.Proofs.Ytklilelbebhinaa.R02
open Go.RowKit
set_option linter.unusedVariables false

theorem get_any (s : ByteArray) (p k : Int) (hs : s.size ≤ maxLen) (hp : p ≤ 9223372036854775807) (hk : -9223372036854775808 ≤ k) (w : World) :
    Calls Try.prog 21 #[.string s, .int .i64 p, .int .i64 k] w fun e w' => e = .returned (.tuple #[.int .u64 (getN s p k), .bool (getOk s p k)]) ∧ w = w' := by
  unfold maxLen at hs
  by_cases h : 1 ≤ k ∧ k ≤ 8 ∧ 0 ≤ p ∧ p + k ≤ s.size
  · obtain ⟨h1, h2, h3, h4⟩ := h
    have e1 := Lib.hid (getN_yes h1 h2 h3 h4)
    have e2 := Lib.hid (getOk_yes h1 h2 h3 h4)
    obtain ⟨q, rfl⟩ : ∃ q : Nat, p = q := ⟨p.toNat, by omega⟩
    obtain ⟨m, rfl⟩ : ∃ m : Nat, k = m := ⟨k.toNat, by omega⟩
    have g1 : ¬ (m : Int) < 1 := by omega
    have g2 : ¬ (8 < (m : Int)) := by omega
    have g3 : ¬ ((s.size : Int) < q) := by omega
    go_enter Try.func21, Try.ntmps21
    go_wp2
    go_loop [8, 9] (fun n i => ∃ j : Nat, j ≤ m ∧ i = .int .i64 j ∧ n = .int .u64 (numB ((s.data.toList.drop q).take j) : Nat)) (fun _ i => m - (intOf i).toNat)
    case atStart => exact ⟨0, by omega, rfl, rfl⟩
    case round =>
      obtain ⟨j, hj, rfl, rfl⟩ := hrel
      by_cases hlt : j < m
      · have b1 := num_sub_lt s q j 7 (by omega)
        have HS := Lib.hid (num_sub_snoc s q j (by omega))
        have b2 := (s[q + j]'(by omega)).toNat_lt
        go_wp2
        go_round
        case rel => exact ⟨j + 1, by omega, by go_num, by rw [HS.out]; go_num⟩
        case measure => simp [intOf]; omega
      · have hj2 : j = m := by omega
        subst hj2
        go_wp2
        go_ret2
        exact ⟨ret_ib (by rw [e1.out]; simp) e2.out.symm, rfl⟩
  · have e1 := Lib.hid (getN_no h)
    have e2 := Lib.hid (getOk_no h)
    by_cases h1 : k < 1
    · go_enter Try.func21, Try.ntmps21
      go_wp2
      go_ret2
      exact ⟨ret_ib e1.out.symm e2.out.symm, rfl⟩
    · by_cases h2 : 8 < k
      · go_enter Try.func21, Try.ntmps21
        go_wp2
        go_ret2
        exact ⟨ret_ib e1.out.symm e2.out.symm, rfl⟩
      · by_cases h3 : p < 0
        · go_enter Try.func21, Try.ntmps21
          go_wp2
          go_ret2
          exact ⟨ret_ib e1.out.symm e2.out.symm, rfl⟩
        · by_cases h4 : (s.size : Int) < p
          · go_enter Try.func21, Try.ntmps21
            go_wp2
            go_ret2
            exact ⟨ret_ib e1.out.symm e2.out.symm, rfl⟩
          · have h5 : (s.size : Int) - p < k := by omega
            go_enter Try.func21, Try.ntmps21
            go_wp2
            go_ret2
            exact ⟨ret_ib e1.out.symm e2.out.symm, rfl⟩

theorem must_any (s : ByteArray) (p k : Int) (hs : s.size ≤ maxLen) (hp : p ≤ 9223372036854775807) (hk : -9223372036854775808 ≤ k) (w : World) :
    Calls Try.prog 22 #[.string s, .int .i64 p, .int .i64 k] w fun e w' => e = .returned (.int .i64 (wrap64 (getN s p k))) ∧ w = w' := by
  go_enter Try.func22, Try.ntmps22
  go_wp2_with (go_at_call 21; refine (get_any s p k hs hp hk _).mono ?_; rintro e w' ⟨rfl, rfl⟩)
  go_ret
  exact ⟨rfl, rfl⟩
/-- 'string([]byte{x})'. -/
theorem conv1 (r : Nat) (W : World) : (convert 32 9 (.slice (some ⟨W.heap.size, 0, none⟩) 1 1)).run Try.prog (W.alloc (.cells #[.int .u8 ((r : Int) % 256)] 5)) = .ok (.string ⟨#[UInt8.ofNat (r % 256)]⟩) (W.alloc (.cells #[.int .u8 ((r : Int) % 256)] 5)) := by
  have h := run_convert_bytes_back (P := Try.prog) (W.alloc (.cells #[.int .u8 ((r : Int) % 256)] 5)) 32 9 5 ⟨W.heap.size, 0, none⟩ 1 [UInt8.ofNat (r % 256)] (by kernel_rfl) (by kernel_rfl) (by kernel_rfl) (fun j hj => by
    have : j = 0 := by simpa using hj
    subst this
    simp [Addr.add])
  exact h
theorem bigB_step (d r : Nat) (l : List UInt8) : bigB (d + 1) r ++ l = bigB d (r / 256) ++ ([UInt8.ofNat (r % 256)] ++ l) := by simp [bigB]
theorem str_cons (b : UInt8) (l : List UInt8) : ({ data := #[b] } : ByteArray) ++ { data := l.toArray } = { data := ([b] ++ l).toArray } := by
  apply ByteArray.ext; simp

theorem put_any (n k : Int) (h0 : 0 ≤ n) (h1 : n < 18446744073709551616) (w : World) :
    Calls Try.prog 14 #[.int .u64 n, .int .i64 k] w fun e w' => e = .returned (.string ⟨(putL n k).toArray⟩) ∧ Below w.heap.size w w' := by
  by_cases hk : 1 ≤ k ∧ k ≤ 8
  · have HP : Hid (putL n k = bigB k.toNat n.toNat) := by unfold putL; rw [if_pos hk]; rfl
    obtain ⟨m, rfl⟩ : ∃ m : Nat, k = m := ⟨k.toNat, by omega⟩
    obtain ⟨hk1, hk8⟩ := hk
    go_enter Try.func14, Try.ntmps14
    go_wp2
    go_loopw [0, 5, 6] (fun a s i wr => ∃ (j r : Nat) (l : List UInt8), j ≤ m ∧ i = .int .i64 j ∧ a = .int .u64 (r : Nat) ∧ r ≤ n.toNat ∧ s = .string ⟨l.toArray⟩ ∧ l.length ≤ j ∧ bigB (m - j) r ++ l = bigB m n.toNat ∧ Below w.heap.size w wr) (fun _ _ i _ => m - (intOf i).toNat)
    case atStart => exact ⟨0, n.toNat, [], by omega, rfl, by rw [show ((n.toNat : Nat) : Int) = n by omega], by omega, rfl, by simp, by simp, Below.refl _ _⟩
    case round =>
      obtain ⟨j, r, l, hj, rfl, rfl, hr, rfl, hll, hl, hb⟩ := hrel
      have Hl := Lib.hid hl
      clear hl
      by_cases hlt : j < m
      · have hcv := conv1 r
        have hbs := Lib.hid (bigB_step (m - (j + 1)) r l)
        have hst := Lib.hid (str_cons (UInt8.ofNat (r % 256)) l)
        go_wp2
        go_roundw
        case rel => exact ⟨j + 1, r / 256, [UInt8.ofNat (r % 256)] ++ l, by omega, by go_num, by go_num, by omega, by rw [← hst.out], by simp; omega, by rw [← hbs.out, show m - (j + 1) + 1 = m - j by omega]; exact Hl.out, hb.alloc hb.size _⟩
        case measure => simp [intOf]; omega
      · have hjm : j = m := by omega
        subst hjm
        have Hl2 : Hid (l = bigB j n.toNat) := by have := Hl.out; rw [Nat.sub_self, bigB, List.nil_append] at this; exact Lib.hid this
        go_wp2
        go_ret
        exact ⟨by rw [HP.out, Hl2.out]; simp, hb⟩
  · have HP : Hid (putL n k = []) := by unfold putL; rw [if_neg hk]; rfl
    by_cases hk0 : k < 1
    · have : ¬ (0 : Int) < k := by omega
      go_enter Try.func14, Try.ntmps14
      go_wp2
      go_rounds 1
      go_ret
      exact ⟨by rw [HP.out]; rfl, Below.refl _ _⟩
    · have h3 : 8 < k := by omega
      have h4 : (0 : Int) < k := by omega
      go_enter Try.func14, Try.ntmps14
      go_wp2
      go_rounds 1
      go_ret
      exact ⟨by rw [HP.out]; rfl, Below.refl _ _⟩
end Go.Proofs.Ytklilelbebhinaa.R02
