/- The laws of udp: what is asked of package udp; Small, awake; the law against the reference. -/
import Derived.Test.YtkbfiikhflehaaaRef08Get
import Derived.Test.YtkbfiikhflehaaaShapes
import Derived.OpenShut
namespace Go.Proofs.Ytkbfiikhflehaaa
open Go.RowKit Go.WideShapes
set_option linter.unusedVariables false
attribute [local go_sem ↓] Go.wp_at_zero Go.wp_at_succ

/-- What the laws ask of package udp. -/
structure UdpOK : Prop where
  put : ∀ (sp dp : Int) (v : Bool) (hi lo : Int) (v' : Bool) (hi' lo' : Int) (p : ByteArray), BA hi lo hi' lo' → p.size ≤ 1000000 → ∀ (P : List UInt8), pseudoL v hi lo v' hi' lo' 17 (8 + (p.size : Int)) = P → ∀ w : World,
    Calls Try.prog 7 #[.agg #[.int .i64 (sp), .int .i64 (dp)], .agg #[.bool v, .int .u64 hi, .int .u64 lo], .agg #[.bool v', .int .u64 hi', .int .u64 lo'], .string p] w fun e w' => e = .returned (.tuple #[.string (out8 sp dp P p), .int .i64 (err8 sp dp P p)]) ∧ Below w.heap.size w w'
  get : ∀ (s : ByteArray) (v : Bool) (hi lo : Int) (v' : Bool) (hi' lo' : Int), BA hi lo hi' lo' → s.size ≤ 1000000 → ∀ (P : List UInt8), pseudoL v hi lo v' hi' lo' 17 (wt s 4 : Nat) = P → ∀ w : World,
    Calls Try.prog 9 #[.string s, .agg #[.bool v, .int .u64 hi, .int .u64 lo], .agg #[.bool v', .int .u64 hi', .int .u64 lo']] w fun e w' => e = .returned (.tuple #[.agg #[.int .i64 (spG s P v), .int .i64 (dpG s P v)], .string (payG8 s P v), .int .i64 (errG8 s P v)]) ∧ Below w.heap.size w w'
def small2 (a b : ByteArray) (m : Nat) : Bool := decide (a.size ≤ m ∧ b.size ≤ m)
theorem small2_no {a b : ByteArray} {m : Nat} (h : m < a.size ∨ m < b.size) : small2 a b m = false := decide_eq_false (by omega)
theorem small2_any (g cap : Nat) (a b : ByteArray) (m : Nat) (hm : m ≤ 1000) (w : World) (c0 : w.cell? ⟨g, 0, none⟩ = some (.string a)) (c1 : w.cell? ⟨g, 1, none⟩ = some (.string b)) :
    Calls Try.prog 5 #[.slice (some ⟨g, 0, none⟩) 2 cap, .int .i64 m] w fun e w' => e = .returned (.bool (small2 a b m)) ∧ w = w' := by
  go_enter Try.func5, Try.ntmps5
  go_wp2
  go_loopw [5] (fun i wr => ∃ k : Nat, k ≤ 2 ∧ i = .int .i64 k ∧ w = wr ∧ Hid ((0 < k → a.size ≤ m) ∧ (1 < k → b.size ≤ m))) (fun i _ => 2 - (intOf i).toNat)
  case atStart => exact ⟨0, by omega, rfl, rfl, Lib.hid ⟨by omega, by omega⟩⟩
  case round =>
    obtain ⟨k, hk, rfl, rfl, HS⟩ := hrel
    by_cases hlt : k < 2
    · obtain rfl | rfl : k = 0 ∨ k = 1 := by omega
      · by_cases hx : m < a.size
        · have HN := Lib.hid (small2_no (a := a) (b := b) (m := m) (by omega))
          have hxi : (m : Int) < a.size := by omega
          clear hx
          go_wp2
          go_ret
          exact ⟨ret_bool HN.out.symm, rfl⟩
        · have hxi : ¬ (m : Int) < a.size := by omega
          have HN : Hid ((0 < 0 + 1 → a.size ≤ m) ∧ (1 < 0 + 1 → b.size ≤ m)) := Lib.hid ⟨fun _ => by have := HS.out; omega, fun _ => by have := HS.out; omega⟩
          clear hx
          go_wp2
          go_roundw
          case rel => exact ⟨0 + 1, by omega, by go_num, trivial, HN⟩
          case measure => simp [intOf]; try omega
      · by_cases hx : m < b.size
        · have HN := Lib.hid (small2_no (a := a) (b := b) (m := m) (by omega))
          have hxi : (m : Int) < b.size := by omega
          clear hx
          go_wp2
          go_ret
          exact ⟨ret_bool HN.out.symm, rfl⟩
        · have hxi : ¬ (m : Int) < b.size := by omega
          have HN : Hid ((0 < 1 + 1 → a.size ≤ m) ∧ (1 < 1 + 1 → b.size ≤ m)) := Lib.hid ⟨fun _ => by have := HS.out; omega, fun _ => by have := HS.out; omega⟩
          clear hx
          go_wp2
          go_roundw
          case rel => exact ⟨1 + 1, by omega, by go_num, trivial, HN⟩
          case measure => simp [intOf]; try omega
    · obtain rfl : k = 2 := by omega
      have HT : Hid (small2 a b m = true) := Lib.hid (decide_eq_true ⟨HS.out.1 (by omega), HS.out.2 (by omega)⟩)
      go_wp2
      go_ret
      exact ⟨ret_bool HT.out.symm, rfl⟩
def awk8P : List UInt8 := pseudoL false 0 1 false 0 2 17 9
theorem awk8_ba : BA 0 1 0 2 := ⟨by decide, by decide, by decide, by decide, by decide, by decide, by decide, by decide⟩
theorem awk8_b0 : BA 0 0 0 0 := ⟨by decide, by decide, by decide, by decide, by decide, by decide, by decide, by decide⟩
theorem awk8_P : awk8P.length % 2 = 0 ∧ awk8P ≠ [] := ⟨(pseudoL_len _ _ _ _ _ _ _ _).2, fun h => by have := (pseudoL_nil false 0 1 false 0 2 17 9).1 h; revert this; decide⟩
theorem awk8_ok : err8 1 2 awk8P ⟨#[97]⟩ = 0 := err8_is (by decide) (by decide) awk8_P.2 (by decide)
theorem app_nil (s : ByteArray) : s ++ (⟨#[]⟩ : ByteArray) = s := by apply ext_eq; simp
theorem awk8Put (K : UdpOK) : ∃ t : ByteArray, t.size = 9 ∧ (∀ w, Calls Try.prog 7 #[.agg #[.int .i64 (1), .int .i64 (2)], .agg #[.bool false, .int .u64 0, .int .u64 1], .agg #[.bool false, .int .u64 0, .int .u64 2], .string ⟨#[97]⟩] w fun e w' => e = .returned (.tuple #[.string t, .int .i64 0]) ∧ Below w.heap.size w w') ∧
    ∀ w, Calls Try.prog 9 #[.string t, .agg #[.bool false, .int .u64 0, .int .u64 1], .agg #[.bool false, .int .u64 0, .int .u64 2]] w fun e w' => e = .returned (.tuple #[.agg #[.int .i64 (1), .int .i64 (2)], .string ⟨#[97]⟩, .int .i64 0]) ∧ Below w.heap.size w w' := by
  obtain ⟨h1, _, _, _, h4⟩ := back8_ok awk8_ok awk8_P.1 false
  obtain ⟨h5, h6, h7, h8, h9⟩ := h4 ⟨#[]⟩
  rw [app_nil] at h5 h6 h7 h8 h9
  refine ⟨out8 1 2 awk8P ⟨#[97]⟩, h1, fun w => ?_, fun w => ?_⟩
  · have h := K.put 1 2 false 0 1 false 0 2 ⟨#[97]⟩ awk8_ba (by decide) awk8P rfl w
    rw [awk8_ok] at h
    exact h
  · have h := K.get (out8 1 2 awk8P ⟨#[97]⟩) false 0 1 false 0 2 awk8_ba (by rw [h1]; decide) awk8P (by rw [h5]; rfl) w
    rw [h6, h7, h8, h9] at h
    exact h
theorem awake08 (K : UdpOK) (w : World) : Calls Try.prog 6 #[] w fun e w' => e = .returned (.bool true) ∧ Below w.heap.size w w' := by
  obtain ⟨t, h1, hp, hg⟩ := awk8Put K
  have HP := Lib.hid hp
  have HG := Lib.hid hg
  have hN := K.get ⟨#[]⟩ false 0 0 false 0 0 awk8_b0 (by decide) _ rfl
  generalize pseudoL false 0 0 false 0 0 17 (wt ⟨#[]⟩ 4 : Nat) = P0 at hN
  rw [show errG8 ⟨#[]⟩ P0 false = 2 by unfold errG8; rw [if_pos (by decide)]] at hN
  have HN := Lib.hid hN
  generalize spG ⟨#[]⟩ P0 false = a at HN
  generalize dpG ⟨#[]⟩ P0 false = b at HN
  generalize payG8 ⟨#[]⟩ P0 false = y at HN
  clear hp hg hN
  have hq : Below w.heap.size w w := Below.refl _ _
  go_enter Try.func6, Try.ntmps6
  go_wp2_with (first | (go_at_call 7; (with_reducible refine (HP.out _).mono ?_); rintro e wa ⟨rfl, hb⟩; replace hq := hq.trans (hb.mono hq.size); clear hb) | (go_at_call 9; (with_reducible refine (HG.out _).mono ?_); rintro e wb ⟨rfl, hb⟩; replace hq := (hq.trans (hb.mono hq.size)).alloc (Nat.le_trans hq.size hb.size) (.cells #[.int .i64 (1), .int .i64 (2)] 33); have hX := HasB.new wb 33 #[.int .i64 (1), .int .i64 (2)]; clear hb) | (go_at_call 9; (with_reducible refine (HN.out _).mono ?_); rintro e wc ⟨rfl, hb⟩; replace hq := (hq.trans (hb.mono hq.size)).alloc (Nat.le_trans hq.size hb.size) (.cells #[.int .i64 (a), .int .i64 (b)] 33); replace hX := (HasB.below hX hb hX.lt).alloc (.cells #[.int .i64 (a), .int .i64 (b)] 33); have x0 := HasB.cell hX 0 _ rfl; have x1 := HasB.cell hX 1 _ rfl; clear hb) | fail)
  go_ret
  exact ⟨rfl, hq⟩
end Go.Proofs.Ytkbfiikhflehaaa
