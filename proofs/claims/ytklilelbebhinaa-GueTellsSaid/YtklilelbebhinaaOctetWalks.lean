/- The contracts of package octet: Get, Put. -/
import Derived.Test.YtklilelbebhinaaProg
import Derived.Test.YtklilelbebhinaaOctetMath
import Derived.Test.YtklilelbebhinaaKit
import Derived.Handy
import Derived.Lib.Hide
import Derived.BigQuiet
import Derived.Deep.QuietTactic
import Derived.WalkLawsBesides
namespace Go.Proofs.Ytklilelbebhinaa
open Go.RowKit
set_option linter.unusedVariables false


theorem get_any (s : ByteArray) (p k : Int) (hs : s.size ≤ maxLen) (hp : p ≤ 9223372036854775807) (hk : -9223372036854775808 ≤ k) (w : World) :
    Calls Try.prog 25 #[.string s, .int .i64 p, .int .i64 k] w fun e w' => e = .returned (.tuple #[.int .u64 (getN s p k), .bool (getOk s p k)]) ∧ w = w' := by
  unfold maxLen at hs
  by_cases h : 1 ≤ k ∧ k ≤ 8 ∧ 0 ≤ p ∧ p + k ≤ s.size
  · obtain ⟨h1, h2, h3, h4⟩ := h
    have e1 := Lib.hid (getN_yes h1 h2 h3 h4)
    have e2 := Lib.hid (getOk_yes h1 h2 h3 h4)
    obtain ⟨q, rfl⟩ : ∃ q : Nat, p = q := ⟨p.toNat, by omega⟩
    obtain ⟨m, rfl⟩ : ∃ m : Nat, k = m := ⟨k.toNat, by omega⟩
    have g1 : ¬ (m : Int) < 1 := by omega
    have g2 : ¬ (8 < (m : Int)) := by omega
    go_enter Try.func25, Try.ntmps25
    go_wp2
    go_loop [8, 29] (fun n i => ∃ j : Nat, j ≤ m ∧ i = .int .i64 j ∧ n = .int .u64 (numB ((s.data.toList.drop q).take j) : Nat)) (fun _ i => m - (intOf i).toNat)
    case atStart => exact ⟨0, by omega, rfl, rfl⟩
    case round =>
      obtain ⟨j, hj, rfl, rfl⟩ := hrel
      by_cases hlt : j < m
      · have b1 := num_sub_lt s q j 7 (by omega)
        have HS := Lib.hid (num_sub_snoc s q j (by omega))
        have b2 := (s[q + j]'(by omega)).toNat_lt
        have HO := Lib.hid (or_join8 (numB ((s.data.toList.drop q).take j) : Nat) (s[q + j]'(by omega)).toNat (by omega) (by omega) (by omega) (by omega))
        go_wp2
        go_round
        case rel => exact ⟨j + 1, by omega, by go_num, by rw [HO.out, HS.out]; go_num⟩
        case measure => simp [intOf]; omega
      · have hj2 : j = m := by omega
        subst hj2
        go_wp2
        go_ret2
        exact ⟨ret_ib (by rw [e1.out]; simp) e2.out.symm, rfl⟩
  · have e1 := Lib.hid (getN_no h)
    have e2 := Lib.hid (getOk_no h)
    by_cases h1 : k < 1
    · go_enter Try.func25, Try.ntmps25
      go_wp2
      go_ret2
      exact ⟨ret_ib e1.out.symm e2.out.symm, rfl⟩
    · by_cases h2 : 8 < k
      · go_enter Try.func25, Try.ntmps25
        go_wp2
        go_ret2
        exact ⟨ret_ib e1.out.symm e2.out.symm, rfl⟩
      · by_cases h3 : p < 0
        · go_enter Try.func25, Try.ntmps25
          go_wp2
          go_ret2
          exact ⟨ret_ib e1.out.symm e2.out.symm, rfl⟩
        · have h4 : (s.size : Int) - k < p := by omega
          go_enter Try.func25, Try.ntmps25
          go_wp2
          go_ret2
          exact ⟨ret_ib e1.out.symm e2.out.symm, rfl⟩

/-- The array of a number's bytes while it is filled from behind: m bytes wanted, d of them still to come. -/
def fillA (m d : Nat) (l : List UInt8) : Array Value := (List.replicate d (Value.int .u8 0) ++ l.map (fun b => Value.int .u8 (b.toNat : Int)) ++ List.replicate (8 - m) (Value.int .u8 0)).toArray

theorem fillA_new (m : Nat) (h : m ≤ 8) : fillA m m [] = #[.int .u8 0, .int .u8 0, .int .u8 0, .int .u8 0, .int .u8 0, .int .u8 0, .int .u8 0, .int .u8 0] := by
  unfold fillA
  rw [List.map_nil, List.append_nil, List.replicate_append_replicate, show m + (8 - m) = 8 by omega]
  rfl
theorem fillA_at (m d e : Nat) (l : List UInt8) (h : e < d) : (fillA m d l)[e]? = some (.int .u8 0) := by
  unfold fillA
  simp [List.getElem?_append, h]
theorem fillA_set (m d : Nat) (l : List UInt8) (b : UInt8) : (fillA m (d + 1) l).setIfInBounds d (.int .u8 (b.toNat : Int)) = fillA m d (b :: l) := by
  unfold fillA
  rw [List.setIfInBounds_toArray]
  congr 1
  rw [List.replicate_succ', List.append_assoc, List.append_assoc, List.append_assoc, List.set_append_right _ _ (by simp)]
  simp

theorem put_any (n k : Int) (h0 : 0 ≤ n) (h1 : n < 18446744073709551616) (w : World) :
    Calls Try.prog 24 #[.int .u64 n, .int .i64 k] w fun e w' => e = .returned (.string ⟨(putL n k).toArray⟩) ∧ Below w.heap.size w w' := by
  by_cases hk : 1 ≤ k ∧ k ≤ 8
  · have HP : Hid (putL n k = bigB k.toNat n.toNat) := by unfold putL; rw [if_pos hk]; rfl
    obtain ⟨m, rfl⟩ : ∃ m : Nat, k = m := ⟨k.toNat, by omega⟩
    obtain ⟨hk1, hk8⟩ := hk
    have hk2 : ¬ (m : Int) < 1 := by omega
    go_enter Try.func24, Try.ntmps24
    go_wp2
    go_loopw [0, 6] (fun a i wr => ∃ (d r : Nat) (l : List UInt8), d ≤ m ∧ i = .int .i64 ((d : Int) - 1) ∧ a = .int .u64 (r : Nat) ∧ r ≤ n.toNat ∧ HasB wr w.heap.size 56 (fillA m d l) ∧ l.length = m - d ∧ bigB d r ++ l = bigB m n.toNat ∧ Below w.heap.size w wr) (fun _ i _ => (intOf i + 1).toNat)
    case atStart => exact ⟨m, n.toNat, [], by omega, rfl, by rw [show ((n.toNat : Nat) : Int) = n by omega], by omega, by rw [fillA_new m (by omega)]; exact HasB.new _ _ _, by simp, by simp, (Below.refl _ _).alloc (Nat.le_refl _) _⟩
    case round =>
      obtain ⟨d, r, l, hd, rfl, rfl, hr, hA, hll, hl, hb⟩ := hrel
      have Hl := Lib.hid hl
      clear hl
      by_cases hlt : 0 < d
      · obtain ⟨e, rfl⟩ : ∃ e, d = e + 1 := ⟨d - 1, by omega⟩
        have hc := HasB.cell hA e (.int .u8 0) (by rw [fillA_at]; omega)
        have hf := HasB.free hA e
        have hA2 := HasB.put hA e (.int .u8 ((UInt8.ofNat (r % 256)).toNat : Int))
        rw [fillA_set, show ((UInt8.ofNat (r % 256)).toNat : Int) = (r : Int) % 256 by simp] at hA2
        have hbs : Hid (bigB (e + 1) r ++ l = bigB e (r / 256) ++ (UInt8.ofNat (r % 256) :: l)) := Lib.hid (by simp [bigB])
        go_wp2
        go_roundw
        case rel => exact ⟨e, r / 256, UInt8.ofNat (r % 256) :: l, by omega, by go_num, by go_num, by omega, hA2, by rw [List.length_cons]; omega, by rw [← hbs.out]; exact Hl.out, hb.setCell (Nat.le_refl _) _⟩
        case measure => simp [intOf]
      · obtain rfl : d = 0 := by omega
        have Hl2 : Hid (l = bigB m n.toNat) := by have := Hl.out; rw [bigB, List.nil_append] at this; exact Lib.hid this
        have hcv : (convert 32 9 (.slice (some ⟨w.heap.size, 0, none⟩) m 8)).run Try.prog wr = .ok (.string ⟨l.toArray⟩) wr := by
          have h := run_convert_bytes_back (P := Try.prog) wr 32 9 5 ⟨w.heap.size, 0, none⟩ 8 l (by kernel_rfl) (by kernel_rfl) (by kernel_rfl) (fun j hj => by
            rw [show (⟨w.heap.size, 0, none⟩ : Addr).add j = ⟨w.heap.size, j, none⟩ by unfold Addr.add; split <;> simp [*]]
            exact HasB.cell hA j _ (by unfold fillA; simp [List.getElem?_append, hj]))
          rw [hll, Nat.sub_zero] at h
          exact h
        go_wp2
        go_ret
        exact ⟨ret_str (by rw [HP.out, Hl2.out]; simp), hb⟩
  · have HP : Hid (putL n k = []) := by unfold putL; rw [if_neg hk]; rfl
    by_cases hk0 : k < 1
    · go_enter Try.func24, Try.ntmps24
      go_wp2
      go_ret
      exact ⟨by rw [HP.out]; rfl, Below.refl _ _⟩
    · have h3 : 8 < k := by omega
      go_enter Try.func24, Try.ntmps24
      go_wp2
      go_ret
      exact ⟨by rw [HP.out]; rfl, Below.refl _ _⟩
end Go.Proofs.Ytklilelbebhinaa
