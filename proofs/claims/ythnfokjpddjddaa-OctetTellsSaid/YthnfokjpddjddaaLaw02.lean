/- The walks of the laws of octet. -/
import Derived.Test.YthnfokjpddjddaaHexWalks
import Derived.Test.YthnfokjpddjddaaRef02Hex
import Derived.Test.YthnfokjpddjddaaRef02Reader
import Derived.Test.YthnfokjpddjddaaLawKit
import Derived.Deep.RegionHeld3
import Derived.Deep.DrawnRows
import Derived.Laws.BitsAllLaws
namespace Go.Proofs.Ythnfokjpddjddaa
open Go.RowKit Go.WideShapes
set_option linter.unusedVariables false

theorem rd_new (s : ByteArray) (w : World) : Rd ((w.alloc (.cells #[.string s] 9)).alloc (.cells #[.pointer (some ⟨w.heap.size, 0, none⟩)] 44)) (w.heap.size + 1) w.heap.size (some s) := by
  refine ⟨?_, (HasB.new _ _ _).alloc _, by omega⟩
  have h := HasB.new (w.alloc (.cells #[.string s] 9)) 44 #[.pointer (some ⟨w.heap.size, 0, none⟩)]
  simpa using h
set_option maxHeartbeats 1000000 in
theorem awake02 (w : World) : Calls Try.prog 6 #[] w fun e w' => e = .returned (.bool true) ∧ Below w.heap.size w w' := by
  have h1 : unhexOk [48, 71] = false := by decide
  have h2 : putL 258 2 = [1, 2] := by decide
  have h3 : hexL [102, 102] = [54, 54, 54, 54] := by decide
  have h4 : (numR (some ⟨#[97]⟩) 1).1 = 97 := by decide
  go_enter Try.func6, Try.ntmps6
  go_wp2_with (first | (go_at_call 9; refine (unhex_any _ (by simp [ByteArray.size]) _).mono ?_; rintro e w1 ⟨rfl, hb1⟩; have hs1 := hb1.size) | (go_at_call 11; refine (put_any _ _ (by omega) (by omega) _).mono ?_; rintro e w2 ⟨rfl, hb2⟩; have hs2 := hb2.size) | (go_at_call 13; refine (hex_any _ (by simp [ByteArray.size]) _).mono ?_; rintro e w3 ⟨rfl, hb3⟩; have hs3 := hb3.size))
  refine (new_any _ _).mono ?_
  rintro e w4 ⟨rfl, rfl⟩
  have hr := Lib.hid (rd_new ⟨#[97]⟩ w3)
  go_wp2_with fail
  refine (Calls.mono (num_any _ _ _ _ _ hr.out (fun s hs => by cases hs; simp [ByteArray.size, maxLen])) ?_)
  rintro e w5 ⟨rfl, _, hk⟩
  have HK := Lib.hid hk
  clear hk
  go_wp2
  go_ret
  refine ⟨rfl, ((hb1.trans (hb2.mono hs1)).trans (hb3.mono (by omega))).trans ?_⟩
  have hb4 := ((Below.refl w.heap.size w3).alloc (by omega) (.cells #[.string ⟨#[97]⟩] 9)).alloc (by simp; omega) (.cells #[.pointer (some ⟨w3.heap.size, 0, none⟩)] 44)
  exact hb4.trans (HK.out.below (by simp; omega) (fun k hk => by rcases hk with hk | hk <;> omega))

set_option maxHeartbeats 1000000 in
theorem octetTells_walk (a0 : Int) (a1 : Int) (s : ByteArray) (a3 : Int) (w0 : (Lit.int .u64 a0).wf = true) (w1 : (Lit.int .i64 a1).wf = true) (w2 : s.size ≤ maxLen) (w3 : (Lit.int .i64 a3).wf = true) (w : World) :
    Calls Try.prog 3 #[.int .u64 a0, .int .i64 a1, .string s, .int .i64 a3] w fun e w' => e = .returned (.bool true) ∧ Below w.heap.size w w' := by
  have hw0 := bounds_u64 w0
  have hw1 := bounds_i64 w1
  have hw3 := bounds_i64 w3
  unfold maxLen at w2
  by_cases h : 60 < s.size
  · go_enter Try.func3, Try.ntmps3
    go_wp2_with (go_at_call 6; refine (awake02 _).mono ?_; rintro e w' ⟨rfl, hb⟩)
    go_ret
    exact ⟨rfl, hb⟩
  · have h2 : s.size ≤ 1099511627776 := by omega
    go_enter Try.func3, Try.ntmps3
    go_wp2_with (first | (go_at_call 7; refine (get_any _ _ _ (by unfold maxLen; omega) (by omega) (by omega) _).mono ?_; rintro e w' ⟨rfl, rfl⟩) | (go_at_call 8; refine (R02.get_any _ _ _ (by unfold maxLen; omega) (by omega) (by omega) _).mono ?_; rintro e w' ⟨rfl, rfl⟩) | (go_at_call 9; refine (unhex_any _ h2 _).mono ?_; rintro e w1 ⟨rfl, hb1⟩; have hs1 := hb1.size) | (go_at_call 10; refine (R02.unhex_any _ h2 _).mono ?_; rintro e w2 ⟨rfl, hb2⟩; have hs2 := hb2.size) | (go_at_call 11; refine (put_any _ _ (by omega) (by omega) _).mono ?_; rintro e w3 ⟨rfl, hb3⟩; have hs3 := hb3.size) | (go_at_call 12; refine (R02.put_any _ _ (by omega) (by omega) _).mono ?_; rintro e w4 ⟨rfl, hb4⟩; have hs4 := hb4.size) | (go_at_call 13; refine (hex_any _ h2 _).mono ?_; rintro e w5 ⟨rfl, hb5⟩; have hs5 := hb5.size) | (go_at_call 14; refine (R02.hex_any _ h2 _).mono ?_; rintro e w6 ⟨rfl, hb6⟩; have hs6 := hb6.size) | (go_at_call 6; refine (awake02 _).mono ?_; rintro e w7 ⟨rfl, hb7⟩))
    go_ret
    exact ⟨rfl, (((((hb1.trans (hb2.mono hs1)).trans (hb3.mono (by omega))).trans (hb4.mono (by omega))).trans (hb5.mono (by omega))).trans (hb6.mono (by omega))).trans (hb7.mono (by omega))⟩

attribute [local go_sem ↓] Go.wp_at_zero Go.wp_at_succ
theorem take_put (n : Int) (hn : 0 ≤ n) (m : Nat) (h1 : 1 ≤ m) (h8 : m ≤ 8) (s : ByteArray) : getN ({ data := (putL n m).toArray } ++ s) 0 m = n % ((256 ^ m : Nat) : Int) ∧ getOk ({ data := (putL n m).toArray } ++ s) 0 m = true := by
  have hl : (putL n m).length = m := by unfold putL; rw [if_pos (by omega), bigB_length]; simp
  have hsz : m ≤ ({ data := (putL n m).toArray } ++ s : ByteArray).size := by rw [ByteArray.size_append]; show m ≤ (putL n m).toArray.size + _; rw [List.size_toArray, hl]; omega
  refine ⟨?_, getOk_yes (by omega) (by omega) (by omega) (by omega)⟩
  rw [getN_yes (by omega) (by omega) (by omega) (by omega)]
  rw [show n % ((256 ^ m : Nat) : Int) = ((n.toNat % 256 ^ m : Nat) : Int) by rw [Int.natCast_emod]; congr 1; omega]
  congr 1
  rw [ByteArray.data_append, Array.toList_append, show Int.toNat 0 = 0 from rfl, List.drop_zero, Int.toNat_natCast, List.take_left' hl]
  unfold putL
  rw [if_pos (by omega), Int.toNat_natCast, numB_bigB]
theorem back_facts (a : Int) (h0 : 0 ≤ a) (h1 : a < 18446744073709551616) (m : Nat) (m1 : 1 ≤ m) (m8 : m ≤ 8) : ∃ P Q : Int,
    IntKind.i64.wrap (8 * (m : Int)) = 8 * m ∧ IntKind.i64.wrap (8 * (m : Int) - 1) = 8 * m - 1 ∧ IntKind.u64.wrap (2 ^ ((8 * (m : Int)).toNat - 1)) = P ∧
    IntKind.u64.wrap (P - 1) = P - 1 ∧ IntKind.u64.wrap (P - 1 + P) = Q - 1 ∧ (bits .and .u64 a (Q - 1) = a % Q ∧ Q = ((256 ^ m : Nat) : Int)) := by
  have hp : 2 ^ (8 * m) ≤ 2 ^ 64 := Nat.pow_le_pow_right (by omega) (by omega)
  have h2 : 2 ^ (8 * m) = 2 * 2 ^ (8 * m - 1) := by rw [← Nat.pow_succ']; congr 1; omega
  have h3 : 256 ^ m = 2 ^ (8 * m) := by rw [Nat.pow_mul]
  have h4 := Nat.one_le_two_pow (n := 8 * m - 1)
  refine ⟨((2 ^ (8 * m - 1) : Nat) : Int), ((256 ^ m : Nat) : Int), IntWalk.i64_in _ (by omega), IntWalk.i64_in _ (by omega), ?_, IntWalk.u64_in _ (by omega), ?_, ?_, rfl⟩
  · rw [show (8 * (m : Int)).toNat - 1 = 8 * m - 1 by omega, show (2 : Int) ^ (8 * m - 1) = ((2 ^ (8 * m - 1) : Nat) : Int) by simp]
    exact IntWalk.u64_in _ (by omega)
  · rw [IntWalk.u64_in _ (by omega), h3]; omega
  · rw [u64_and a _ h0 h1 (by omega) (by omega), show (((256 ^ m : Nat) : Int) - 1).toNat = 2 ^ (8 * m) - 1 by omega, Nat.and_two_pow_sub_one_eq_mod, h3, Int.natCast_emod]
    congr 1; omega
set_option maxHeartbeats 1000000 in
theorem octetBack_walk (a0 : Int) (a1 : Int) (s : ByteArray) (w0 : (Lit.int .u64 a0).wf = true) (w1 : (Lit.int .u8 a1).wf = true) (w2 : s.size ≤ maxLen) (w : World) :
    Calls Try.prog 5 #[.int .u64 a0, .int .u8 a1, .string s] w fun e w' => e = .returned (.bool true) ∧ Below w.heap.size w w' := by
  have hw0 := bounds_u64 w0
  have hw1 := bounds_u8 w1
  unfold maxLen at w2
  by_cases h : 60 < s.size
  · go_enter Try.func5, Try.ntmps5
    go_wp2_with (go_at_call 6; refine (awake02 _).mono ?_; rintro e w' ⟨rfl, hb⟩)
    go_ret
    exact ⟨rfl, hb⟩
  · have h2 : s.size ≤ 1099511627776 := by omega
    have hH : unhexOk (hexL s.data.toList) = true := (unhex_some (unhexL_hexL _)).2
    have hH2 : unhexV (hexL s.data.toList) = s.data.toList := (unhex_some (unhexL_hexL _)).1
    obtain ⟨m, hm⟩ : ∃ m : Nat, 1 + a1 % 8 = m := ⟨(1 + a1 % 8).toNat, by omega⟩
    have m1 : 1 ≤ m := by omega
    have m8 : m ≤ 8 := by omega
    obtain ⟨t1, t2⟩ := take_put a0 hw0.1 m m1 m8 s
    have hlm : (putL a0 (m : Int)).length = m := by unfold putL; rw [if_pos (by omega), bigB_length]; simp
    have e8 : IntKind.i64.wrap (2 * (s.size : Int)) = 2 * (s.size : Int) := IntWalk.i64_in _ (by omega)
    have e9 : (hexL s.data.toList).length = 2 * s.size := by rw [hexL_length]; simp
    have hgs : ({ data := (putL a0 (m : Int)).toArray } ++ s : ByteArray).size ≤ maxLen := by rw [ByteArray.size_append]; show (putL a0 (m : Int)).toArray.size + _ ≤ _; rw [List.size_toArray, hlm]; unfold maxLen; omega
    have hus : ({ data := (hexL s.data.toList).toArray } : ByteArray).size ≤ 1099511627776 := by show (hexL s.data.toList).toArray.size ≤ _; rw [List.size_toArray, e9]; omega
    obtain ⟨P, Q, e1, e2, e3, e4, e5, e7, e6⟩ := back_facts a0 hw0.1 (by omega) m m1 m8
    rw [← e6] at t1
    have E6 := Lib.hid e6
    clear e6
    go_enter Try.func5, Try.ntmps5
    go_wp2_with (first | (go_at_call 7; refine (get_any _ _ _ hgs (by omega) (by omega) _).mono ?_; rintro e w' ⟨rfl, rfl⟩) | (go_at_call 9; refine (unhex_any _ hus _).mono ?_; rintro e w1 ⟨rfl, hb1⟩; have hs1 := hb1.size) | (go_at_call 11; refine (put_any _ _ (by omega) (by omega) _).mono ?_; rintro e w3 ⟨rfl, hb3⟩; have hs3 := hb3.size) | (go_at_call 13; refine (hex_any _ h2 _).mono ?_; rintro e w5 ⟨rfl, hb5⟩; have hs5 := hb5.size))
    go_region_held3 (fun _ => True) (trivial) (first | (go_at_call 13; with_reducible refine (hex_any _ h2 _).mono ?_; rintro e w6 ⟨rfl, hb6⟩; have hs6 := hb6.size) | (go_at_call 6; with_reducible refine (awake02 _).mono ?_; rintro e w7 ⟨rfl, hb7⟩))
    all_goals
      go_wp2
      go_ret
      have hs1' : w5.heap.size ≤ w1.drew.heap.size := hs1
      have hs6' : w1.drew.heap.size ≤ w6.heap.size := hs6
      exact ⟨rfl, ((((hb3.trans (hb5.mono hs3)).trans (hb1.mono (by omega))).drew).trans (hb6.mono (by omega))).trans (hb7.mono (by omega))⟩
end Go.Proofs.Ythnfokjpddjddaa
