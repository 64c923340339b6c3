/- The walk of the law CheckOrder. -/
import Derived.Test.YthbappeokbbpdaaLaw03
import Derived.Deep.RegionHeld3
import Derived.Deep.DrawnRows
import Derived.BigQuiet
namespace Go.Proofs.Ythbappeokbbpdaa
open Go.RowKit Go.WideShapes
set_option linter.unusedVariables false
attribute [local go_sem ↓] Go.wp_at_zero Go.wp_at_succ

/-- Two bytes turned round in all words. -/
def swapL : List UInt8 → List UInt8
  | a :: b :: l => b :: a :: swapL l
  | l => l
theorem swapL_length : ∀ l : List UInt8, (swapL l).length = l.length
  | [] => rfl
  | [_] => rfl
  | a :: b :: l => by simp [swapL, swapL_length l]
theorem swapL_append : ∀ (a b : List UInt8), a.length % 2 = 0 → swapL (a ++ b) = swapL a ++ swapL b
  | [], b, _ => rfl
  | [_], _, h => by simp at h
  | x :: y :: l, b, h => by simp [swapL, swapL_append l b (by simp at h; omega)]
/-- The high bytes' sum and the low bytes'. -/
def hiS : List UInt8 → Nat
  | a :: _ :: l => a.toNat + hiS l
  | _ => 0
def loS : List UInt8 → Nat
  | _ :: b :: l => b.toNat + loS l
  | _ => 0
theorem tw_hilo : ∀ l : List UInt8, l.length % 2 = 0 → tw l = 256 * hiS l + loS l ∧ tw (swapL l) = 256 * loS l + hiS l
  | [], _ => ⟨rfl, rfl⟩
  | [_], h => by simp at h
  | a :: b :: l, h => by
    have := tw_hilo l (by simp at h; omega)
    simp only [tw, swapL, hiS, loS]; omega
theorem swap_res (H L : Nat) : res (256 * L + H) = res (256 * H + L) / 256 + res (256 * H + L) % 256 * 256 := by
  have h1 := res_le (256 * H + L)
  have h2 := res_mod (256 * H + L)
  have h3 := @res_zero (256 * H + L)
  refine res_is ?_ ?_ ?_ <;> omega
theorem sumL_swap (l : List UInt8) (h : l.length % 2 = 0) : sumL (swapL l) = sumL l / 256 + sumL l % 256 * 256 := by
  obtain ⟨h1, h2⟩ := tw_hilo l h
  unfold sumL
  rw [h1, h2, swap_res]
theorem sumL_comm (a b : List UInt8) (ha : a.length % 2 = 0) (hb : b.length % 2 = 0) : sumL (b ++ a) = sumL (a ++ b) := by
  unfold sumL; rw [tw_append a b ha, tw_append b a hb, Nat.add_comm]
theorem sumL_zero (l : List UInt8) : (sumL l = 0) ↔ ∀ x ∈ l, x.toNat = 0 := by unfold sumL; rw [res_zero, tw_zero]

/-- Are the bytes all 0? -/
def allZ (l : List UInt8) : Bool := l.all fun b => b.toNat == 0
theorem allZ_snoc2 (l : List UInt8) (a b : UInt8) : allZ (l ++ [a, b]) = (allZ l && (a.toNat == 0) && (b.toNat == 0)) := by simp [allZ, Bool.and_assoc]
theorem beq_cast (n : Nat) : ((n : Int) == 0) = (n == 0) := Bool.eq_iff_iff.2 (by simp)
theorem sumL_allZ (l : List UInt8) : ((sumL l : Int) == 0) = allZ l := by
  have h := sumL_zero l
  cases hz : allZ l with
  | true =>
    have : ∀ x ∈ l, x.toNat = 0 := fun x hx => by
      have := List.all_eq_true.1 hz x hx
      simpa using this
    have := h.2 this
    simp [this]
  | false =>
    have : ¬ sumL l = 0 := fun h0 => by
      have := h.1 h0
      have : allZ l = true := List.all_eq_true.2 fun x hx => by simp [this x hx]
      rw [this] at hz; cases hz
    simp; omega
theorem take2 (s : ByteArray) (p : Nat) (h : p + 1 < s.size) : s.data.toList.take (p + 2) = s.data.toList.take p ++ [s[p], s[p + 1]] := by
  rw [List.take_succ_eq_append_getElem (show p + 1 < s.data.toList.length from h), List.take_succ_eq_append_getElem (show p < s.data.toList.length by have : s.data.toList.length = s.size := rfl; omega), List.append_assoc]
  rfl
theorem str_one (s : ByteArray) (p : Nat) (h : p < s.size) : s.extract p (p + 1) = ⟨#[s[p]]⟩ := by
  apply ByteArray.ext
  apply Array.ext'
  simp
  rw [List.take_one, List.head?_drop, List.getElem?_eq_getElem (show p < s.data.toList.length from h)]
  rfl

theorem swap_next (s : ByteArray) (p : Nat) (h : p + 1 < s.size) (hp : p % 2 = 0) :
    ({ data := (swapL (s.data.toList.take p)).toArray } : ByteArray) ++ s.extract (p + 1) (p + 2) ++ s.extract p (p + 1) = { data := (swapL (s.data.toList.take (p + 2))).toArray } := by
  rw [str_one s (p + 1) h, str_one s p (by omega), take2 s p h, swapL_append _ _ (by rw [List.length_take, show s.data.toList.length = s.size from rfl]; omega)]
  apply ByteArray.ext
  apply Array.ext'
  simp [swapL]

set_option maxHeartbeats 2000000 in
theorem order_even (a b : ByteArray) (ha : a.size ≤ 100) (hb : b.size ≤ 100) (ha2 : a.size % 2 = 0) (hb2 : b.size % 2 = 0) (w : World) :
    Calls Try.prog 5 #[.string a, .string b] w fun e w' => e = .returned (.bool true) ∧ Below w.heap.size w w' := by
  have g1 : (a.size : Int).tmod 2 = 0 := by rw [Int.tmod_eq_emod_of_nonneg (by omega)]; omega
  have g2 : (b.size : Int).tmod 2 = 0 := by rw [Int.tmod_eq_emod_of_nonneg (by omega)]; omega
  have hts : (a ++ b).size = a.size + b.size := ByteArray.size_append
  have hus : (b ++ a).size = b.size + a.size := ByteArray.size_append
  have eU0 : sumL (b ++ a).data.toList = sumL (a ++ b).data.toList := by
    rw [ByteArray.data_append, ByteArray.data_append, Array.toList_append, Array.toList_append]
    exact sumL_comm _ _ ha2 hb2
  obtain ⟨t, ht⟩ : ∃ t : ByteArray, a ++ b = t := ⟨_, rfl⟩
  obtain ⟨u, hu⟩ : ∃ u : ByteArray, b ++ a = u := ⟨_, rfl⟩
  rw [ht] at hts eU0
  rw [hu] at hus eU0
  have ht2 : t.size % 2 = 0 := by omega
  have htn : t.size ≤ 200 := by omega
  have EU := Lib.hid eU0
  have ES := Lib.hid (sumL_swap t.data.toList (show t.size % 2 = 0 from ht2))
  have EZ := Lib.hid (sumL_allZ t.data.toList)
  have hN := sumL_le t.data.toList
  have hT : t.size ≤ 1099511627776 := by omega
  have hU : u.size ≤ 1099511627776 := by omega
  have TK : Hid (t.data.toList.take t.size = t.data.toList) := Lib.hid (List.take_of_length_le (Nat.le_refl _))
  have SL := Lib.hid (fun p => swapL_length (t.data.toList.take p))
  clear eU0 hts
  have hq : Below w.heap.size w w := Below.refl _ _
  go_enter Try.func5, Try.ntmps5
  go_wp2
  go_loopw [5, 6, 8] (fun z x i wr => ∃ p : Nat, p ≤ t.size ∧ p % 2 = 0 ∧ i = .int .i64 p ∧ z = .bool (allZ (t.data.toList.take p)) ∧ x = .string ⟨(swapL (t.data.toList.take p)).toArray⟩ ∧ Below w.heap.size w wr) (fun _ _ i _ => t.size - (intOf i).toNat)
  case atStart => exact ⟨0, by omega, rfl, rfl, rfl, rfl, hq⟩
  case round =>
    obtain ⟨p, hp, hp2, rfl, rfl, rfl, hq⟩ := hrel
    by_cases hlt : p < t.size
    · have hlt2 : p + 1 < t.size := by omega
      have hlt3 : (p : Int) + 1 < t.size := by omega
      have hlt4 : (p : Int) + 2 ≤ t.size := by omega
      have X1 := Lib.hid (swap_next t p hlt2 hp2)
      have l1 : (swapL (t.data.toList.take p)).length = p := by rw [SL.out, List.length_take, show t.data.toList.length = t.size from rfl]; omega
      have X2 : Hid (allZ (t.data.toList.take (p + 2)) = (allZ (t.data.toList.take p) && (((t[p]'hlt).toNat : Int) == 0) && (((t[p + 1]'hlt2).toNat : Int) == 0))) := Lib.hid (by rw [take2 t p hlt2, allZ_snoc2, beq_cast, beq_cast])
      go_wp2
      all_goals
        go_quiet (fail)
        go_wp2
        go_roundw
        case rel => exact ⟨p + 2, by omega, by omega, by go_num, by rw [X2.out]; simp [*], by rw [← X1.out], below_drewN hq _⟩
        case measure => simp [intOf]; omega
    · obtain rfl : p = t.size := by omega
      have TK' := TK.out
      have es := ES.out
      have eu := EU.out
      have ez := EZ.out
      rw [TK']
      clear TK' TK SL
      have hV : ({ data := (swapL t.data.toList).toArray } : ByteArray).size ≤ 1099511627776 := by
        show (swapL t.data.toList).toArray.size ≤ _
        rw [List.size_toArray, swapL_length, show t.data.toList.length = t.size from rfl]; omega
      go_wp2_with (first | (go_at_call 7; with_reducible refine (sum_any t hT _).mono ?_; rintro e w1 ⟨rfl, hb1⟩; replace hq := hq.trans (hb1.mono hq.size); clear hb1) | (go_at_call 7; with_reducible refine (sum_any u hU _).mono ?_; rintro e w1 ⟨rfl, hb1⟩; replace hq := hq.trans (hb1.mono hq.size); clear hb1) | (go_at_call 7; with_reducible refine (sum_any _ hV _).mono ?_; rintro e w1 ⟨rfl, hb1⟩; replace hq := hq.trans (hb1.mono hq.size); clear hb1) | (go_at_call 6; refine (awake03 _).mono ?_; rintro e w7 ⟨rfl, hb1⟩; replace hq := hq.trans (hb1.mono hq.size); clear hb1))
      go_ret
      exact ⟨rfl, hq⟩

theorem checkOrder_walk (a b : ByteArray) (w0 : a.size ≤ maxLen) (w1 : b.size ≤ maxLen) (w : World) :
    Calls Try.prog 5 #[.string a, .string b] w fun e w' => e = .returned (.bool true) ∧ Below w.heap.size w w' := by
  unfold maxLen at w0 w1
  by_cases h1 : 100 < a.size
  · go_enter Try.func5, Try.ntmps5
    go_wp2_with (go_at_call 6; refine (awake03 _).mono ?_; rintro e w' ⟨rfl, hb⟩)
    go_ret
    exact ⟨rfl, hb⟩
  · by_cases h2 : 100 < b.size
    · go_enter Try.func5, Try.ntmps5
      go_wp2_with (go_at_call 6; refine (awake03 _).mono ?_; rintro e w' ⟨rfl, hb⟩)
      go_ret
      exact ⟨rfl, hb⟩
    · by_cases h3 : a.size % 2 = 0
      · have g1 : (a.size : Int).tmod 2 = 0 := by rw [Int.tmod_eq_emod_of_nonneg (by omega)]; omega
        by_cases h4 : b.size % 2 = 0
        · exact order_even a b (by omega) (by omega) h3 h4 w
        · have g2 : (b.size : Int).tmod 2 = 1 := by rw [Int.tmod_eq_emod_of_nonneg (by omega)]; omega
          go_enter Try.func5, Try.ntmps5
          go_wp2_with (go_at_call 6; refine (awake03 _).mono ?_; rintro e w' ⟨rfl, hb⟩)
          go_ret
          exact ⟨rfl, hb⟩
      · have g1 : (a.size : Int).tmod 2 = 1 := by rw [Int.tmod_eq_emod_of_nonneg (by omega)]; omega
        go_enter Try.func5, Try.ntmps5
        go_wp2_with (go_at_call 6; refine (awake03 _).mono ?_; rintro e w' ⟨rfl, hb⟩)
        go_ret
        exact ⟨rfl, hb⟩
end Go.Proofs.Ythbappeokbbpdaa
