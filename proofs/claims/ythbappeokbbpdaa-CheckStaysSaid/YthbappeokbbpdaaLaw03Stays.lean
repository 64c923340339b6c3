/- The walk of the law CheckStays. -/
import Derived.Test.YthbappeokbbpdaaLaw03Order
import Derived.Deep.RegionHeld3
import Derived.Deep.DrawnRows
import Derived.BigQuiet
namespace Go.Proofs.Ythbappeokbbpdaa
open Go.RowKit Go.WideShapes
set_option linter.unusedVariables false
attribute [local go_sem ↓] Go.wp_at_zero Go.wp_at_succ

/-- Bytes p .. p + k of l are m. -/
def putAt (l : List UInt8) (p : Nat) (m : List UInt8) : List UInt8 := l.take p ++ m ++ l.drop (p + m.length)
def cut (l : List UInt8) (p k : Nat) : List UInt8 := (l.drop p).take k
theorem putAt_length (l : List UInt8) (p : Nat) (m : List UInt8) (h : p + m.length ≤ l.length) : (putAt l p m).length = l.length := by
  unfold putAt; simp; omega
theorem cut_length (l : List UInt8) (p k : Nat) (h : p + k ≤ l.length) : (cut l p k).length = k := by
  unfold cut; simp; omega
theorem cut_putAt (l : List UInt8) (p : Nat) (m : List UInt8) (h : p + m.length ≤ l.length) : cut (putAt l p m) p m.length = m := by
  unfold cut putAt
  rw [List.append_assoc, List.drop_append_of_le_length (by simp; omega), List.drop_take, Nat.sub_self]
  simp
theorem getElem?_putAt (l : List UInt8) (p : Nat) (m : List UInt8) (h : p + m.length ≤ l.length) (i : Nat) (hi : i < p ∨ p + m.length ≤ i) : (putAt l p m)[i]? = l[i]? := by
  unfold putAt
  rcases hi with hi | hi
  · rw [List.getElem?_append_left (by simp; omega), List.getElem?_append_left (by simp; omega), List.getElem?_take]
    simp [hi]
  · rw [List.getElem?_append_right (by simp; omega), List.getElem?_drop]
    congr 1
    simp; omega
theorem cut_far (l : List UInt8) (p q k : Nat) (m : List UInt8) (h : p + m.length ≤ l.length) (hq : q + k ≤ p ∨ p + m.length ≤ q) : cut (putAt l p m) q k = cut l q k := by
  apply List.ext_getElem?
  intro i
  unfold cut
  rw [List.getElem?_take, List.getElem?_take]
  split
  · rw [List.getElem?_drop, List.getElem?_drop]
    exact getElem?_putAt l p m h _ (by omega)
  · rfl
theorem tw_cut (l : List UInt8) (p k : Nat) (hp : p % 2 = 0) (hk : k % 2 = 0) (h : p + k ≤ l.length) : tw l = tw (l.take p) + tw (cut l p k) + tw (l.drop (p + k)) := by
  conv => lhs; rw [← List.take_append_drop p l, ← List.take_append_drop k (l.drop p)]
  rw [tw_append _ _ (by simp; omega), tw_append _ _ (by simp; omega), List.drop_drop]
  unfold cut; omega
theorem tw_putAt (l : List UInt8) (p : Nat) (m : List UInt8) (hp : p % 2 = 0) (hk : m.length % 2 = 0) (h : p + m.length ≤ l.length) : tw (putAt l p m) + tw (cut l p m.length) = tw l + tw m := by
  have h1 := tw_cut l p m.length hp hk h
  unfold putAt
  rw [List.append_assoc, tw_append _ _ (by simp; omega), tw_append _ _ hk]
  omega
/-- The word at p. -/
theorem tw_cut2 (n : Nat) (h : n < 65536) : tw (bigB 2 n) = n := by
  simp [bigB, tw]
  omega
theorem bigB_two_len (n : Nat) : (bigB 2 n).length = 2 := bigB_length 2 n

/-- The whole of P3.3 over lists. -/
theorem stays (l : List UInt8) (i j : Nat) (m : List UInt8) (hl : l.length % 2 = 0) (hi : i % 2 = 0) (hj : j % 2 = 0) (hm : m.length % 2 = 0) (hin : i + 2 ≤ l.length) (hjn : j + m.length ≤ l.length) (hd : i + 2 ≤ j ∨ j + m.length ≤ i)
    (l1 l2 l3 l4 : List UInt8) (c c2 : Nat) (h1 : l1 = putAt l i (bigB 2 0)) (hc : (c : Int) = 65535 - (sumL l1 : Nat)) (h2 : l2 = putAt l1 i (bigB 2 c)) (h3 : l3 = putAt l2 j m)
    (hc2 : (c2 : Int) = turnedL c (cut l2 j m.length) (cut l3 j m.length)) (h4 : l4 = putAt l3 i (bigB 2 c2)) :
    sumL l2 = 65535 ∧ (sumL l4 = 65535 ∨ tw l4 = 0) ∧ c ≤ 65535 ∧ c2 ≤ 65535 := by
  have n0 := bigB_two_len 0
  have nc := bigB_two_len c
  have nc2 := bigB_two_len c2
  have L1 : l1.length = l.length := by rw [h1]; exact putAt_length _ _ _ (by omega)
  have L2 : l2.length = l.length := by rw [h2, putAt_length _ _ _ (by omega)]; omega
  have L3 : l3.length = l.length := by rw [h3, putAt_length _ _ _ (by omega)]; omega
  have hcl : c ≤ 65535 := by omega
  -- the words at i
  have w1 : cut l1 i 2 = bigB 2 0 := by
    have := cut_putAt l i (bigB 2 0) (by omega)
    rwa [n0, ← h1] at this
  have w2 : cut l2 i 2 = bigB 2 c := by
    have := cut_putAt l1 i (bigB 2 c) (by omega)
    rwa [nc, ← h2] at this
  have w3 : cut l3 i 2 = bigB 2 c := by rw [h3, cut_far _ _ _ _ _ (by omega) (by omega), w2]
  have w4 : cut l3 j m.length = m := by rw [h3]; exact cut_putAt _ _ _ (by omega)
  have t2 := tw_putAt l1 i (bigB 2 c) hi (by omega) (by omega)
  have t3 := tw_putAt l2 j m hj hm (by omega)
  have t4 := tw_putAt l3 i (bigB 2 c2) hi (by omega) (by omega)
  rw [nc, w1, ← h2, tw_cut2 0 (by omega), tw_cut2 c (by omega)] at t2
  rw [← h3] at t3
  rw [nc2, w3, ← h4, tw_cut2 c (by omega)] at t4
  obtain ⟨m1, m2, m3⟩ := turnedL_mod (c := c) (by omega) (cut l2 j m.length) (cut l3 j m.length) (by rw [cut_length _ _ _ (by omega), cut_length _ _ _ (by omega)]) (by rw [cut_length _ _ _ (by omega)]; exact hm)
  rw [← hc2, w4] at m1
  rw [← hc2] at m3
  rw [tw_cut2 c2 (by omega)] at t4
  have r1 := res_le (tw l1)
  have r2 := res_mod (tw l1)
  have r3 := @res_zero (tw l1)
  have hs : sumL l1 = res (tw l1) := rfl
  rw [hs] at hc
  refine ⟨?_, ?_, hcl, by omega⟩
  · unfold sumL
    exact res_full (by omega) (by omega)
  · by_cases hz : tw l4 = 0
    · exact .inr hz
    · left
      unfold sumL
      exact res_full hz (by omega)

theorem setL_putAt {s : ByteArray} {p k : Nat} {n : Int} (h1 : 1 ≤ k) (h8 : k ≤ 8) (h : p + k ≤ s.size) : setL s p k n = putAt s.data.toList p (bigB k n.toNat) := by
  have hp : putL n k = bigB k n.toNat := by unfold putL; rw [if_pos (by omega)]; simp
  rw [setL_yes (getOk_yes (by omega) (by omega) (by omega) (by omega)), putAt, bigB_length, hp]
  simp
  rfl

/-- Set at a place within s. -/
theorem set_in (s : ByteArray) (P K : Int) (p k : Nat) (hP : P = p) (hK : K = k) (n : Int) (h1 : 1 ≤ k) (h8 : k ≤ 8) (h : p + k ≤ s.size) (hs : s.size ≤ 200) (hn0 : 0 ≤ n) (hn1 : n < 18446744073709551616) (w : World) :
    Calls Try.prog 16 #[.string s, .int .i64 P, .int .i64 K, .int .u64 n] w fun e w' => ∃ t : ByteArray, e = .returned (.string t) ∧ t.data.toList = putAt s.data.toList p (bigB k n.toNat) ∧ t.size = s.size ∧ Below w.heap.size w w' := by
  subst hP hK
  refine (set_any s p k n (by unfold maxLen; omega) (by omega) (by omega) hn0 hn1 w).mono fun e w' ⟨he, hb⟩ => ⟨_, he, ?_, ?_, hb⟩
  · rw [setL_putAt h1 h8 h]
  · show (setL s p k n).toArray.size = _
    rw [setL_putAt h1 h8 h, List.size_toArray, putAt_length _ _ _ (by rw [bigB_length]; exact h)]
    rfl

theorem tw_allZ (l : List UInt8) (h : tw l = 0) : allZ l = true := by
  have := (tw_zero l).1 h
  exact List.all_eq_true.2 fun x hx => by simp [this x hx]
theorem allZ_one (s : ByteArray) (x : Nat) (h : x < s.size) : allZ (s.data.toList.take (x + 1)) = (allZ (s.data.toList.take x) && (((s[x]'h).toNat : Int) == 0)) := by
  rw [List.take_succ_eq_append_getElem (show x < s.data.toList.length from h), beq_cast]
  simp [allZ]
  rfl
theorem stays_last (l : List UInt8) (i j z : Nat) (n : Int) (hl : l.length % 2 = 0) (hi : i % 2 = 0) (hj : j % 2 = 0) (hm : z % 2 = 0) (hin : i + 2 ≤ l.length) (hjn : j + z ≤ l.length) (hd : i + 2 ≤ j ∨ j + z ≤ i)
    (l1 l2 l3 l4 : List UInt8) (c c2 : Nat) (h1 : l1 = putAt l i (bigB 2 (Int.toNat 0))) (hc : (c : Int) = 65535 - (sumL l1 : Nat)) (h2 : l2 = putAt l1 i (bigB 2 (c : Int).toNat)) (h3 : l3 = putAt l2 j (bigB z n.toNat))
    (hc2 : (c2 : Int) = turnedL c (cut l2 j z) (cut l3 j z)) (h4 : l4 = putAt l3 i (bigB 2 (c2 : Int).toNat)) : sumL l4 = 65535 ∨ allZ l4 = true := by
  have e := bigB_length z n.toNat
  rw [show Int.toNat 0 = 0 from rfl] at h1
  rw [show (c : Int).toNat = c by omega] at h2
  rw [show (c2 : Int).toNat = c2 by omega] at h4
  rcases (stays l i j (bigB z n.toNat) hl hi hj (by omega) hin (by omega) (by omega) l1 l2 l3 l4 c c2 h1 hc h2 h3 (by rw [e]; exact hc2) h4).2.1 with h | h
  · exact .inl h
  · exact .inr (tw_allZ _ h)
theorem right_two (l : List UInt8) (i : Nat) (l1 l2 : List UInt8) (c : Nat) (hi : i % 2 = 0) (hin : i + 2 ≤ l.length) (h1 : l1 = putAt l i (bigB 2 (Int.toNat 0))) (hc : (c : Int) = 65535 - (sumL l1 : Nat)) (h2 : l2 = putAt l1 i (bigB 2 (c : Int).toNat)) : sumL l2 = 65535 := by
  have n0 := bigB_two_len 0
  have nc := bigB_two_len c
  rw [show Int.toNat 0 = 0 from rfl] at h1
  rw [show (c : Int).toNat = c by omega] at h2
  have L1 : l1.length = l.length := by rw [h1]; exact putAt_length _ _ _ (by omega)
  have w1 : cut l1 i 2 = bigB 2 0 := by
    have := cut_putAt l i (bigB 2 0) (by omega)
    rwa [n0, ← h1] at this
  have t2 := tw_putAt l1 i (bigB 2 c) hi (by omega) (by omega)
  rw [nc, w1, ← h2, tw_cut2 0 (by omega), tw_cut2 c (by omega)] at t2
  have r1 := res_le (tw l1)
  have r2 := res_mod (tw l1)
  have r3 := @res_zero (tw l1)
  have hs : sumL l1 = res (tw l1) := rfl
  rw [hs] at hc
  unfold sumL
  exact res_full (by omega) (by omega)
theorem str_cut (s : ByteArray) (j z : Nat) (h : j + z ≤ s.size) : (s.extract j ((j : Int) + z).toNat).data.toList = cut s.data.toList j z := by
  rw [show ((j : Int) + z).toNat = j + z by omega]
  unfold cut
  simp
theorem turned_in (c : Nat) (s t x y : ByteArray) (j z : Nat) (hc : c ≤ 65535) (hs : s.size ≤ 200) (ht : t.size ≤ 200) (hz : z % 2 = 0) (h1 : j + z ≤ s.size) (h2 : j + z ≤ t.size)
    (hx : x.data.toList = cut s.data.toList j z) (hy : y.data.toList = cut t.data.toList j z) (w : World) :
    Calls Try.prog 14 #[.int .i64 c, .string x, .string y] w fun e w' => ∃ c2 : Nat, e = .returned (.int .i64 c2) ∧ Hid ((c2 : Int) = turnedL c (cut s.data.toList j z) (cut t.data.toList j z)) ∧ c2 ≤ 65535 ∧ Below w.heap.size w w' := by
  have lx : (cut s.data.toList j z).length = z := cut_length _ _ _ h1
  have ly : (cut t.data.toList j z).length = z := cut_length _ _ _ h2
  have sx : x.size = z := by rw [← lx, ← hx]; rfl
  have sy : y.size = z := by rw [← ly, ← hy]; rfl
  obtain ⟨_, m2, m3⟩ := turnedL_mod (c := (c : Int)) (by omega) (cut s.data.toList j z) (cut t.data.toList j z) (by omega) (by omega)
  refine (turned_any c x y (by omega) (by omega) w).mono fun e w' ⟨he, hb⟩ => ⟨(turnedL c (cut s.data.toList j z) (cut t.data.toList j z)).toNat, ?_, Lib.hid (by omega), by omega, hb⟩
  rw [he, hx, hy, Int.toNat_of_nonneg m2]

set_option maxHeartbeats 2000000 in
theorem stays_main (s : ByteArray) (a b k n : Int) (ha : 0 ≤ a) (ha' : a < 256) (hb0 : 0 ≤ b) (hb' : b < 256) (hk : 0 ≤ k) (hk' : k < 256) (hn0 : 0 ≤ n) (hn1 : n < 18446744073709551616) (hs2 : s.size ≤ 200) (he : s.size % 2 = 0) (hs1 : 12 ≤ s.size)
    (i j z : Nat) (hi : (i : Int) = 2 * (a % ((s.size : Int) / 2))) (hz : (z : Int) = 2 + 2 * (k % 4)) (hj : (j : Int) = 2 * (b % ((s.size : Int) / 2 - 3))) (hd : ¬ (j ≤ i ∧ i < j + z)) (w : World) :
    Calls Try.prog 4 #[.string s, .int .u8 a, .int .u8 b, .int .u8 k, .int .u64 n] w fun e w' => e = .returned (.bool true) ∧ Below w.heap.size w w' := by
  have g1 : (s.size : Int).tmod 2 = 0 := by rw [Int.tmod_eq_emod_of_nonneg (by omega)]; omega
  have g3 : a.tmod ((s.size : Int) / 2) = a % ((s.size : Int) / 2) := Int.tmod_eq_emod_of_nonneg ha
  have g4 : b.tmod ((s.size : Int) / 2 - 3) = b % ((s.size : Int) / 2 - 3) := Int.tmod_eq_emod_of_nonneg hb0
  have b1 : 0 ≤ a % ((s.size : Int) / 2) := Int.emod_nonneg _ (by omega)
  have b2 : a % ((s.size : Int) / 2) < (s.size : Int) / 2 := Int.emod_lt_of_pos _ (by omega)
  have b3 : 0 ≤ b % ((s.size : Int) / 2 - 3) := Int.emod_nonneg _ (by omega)
  have b4 : b % ((s.size : Int) / 2 - 3) < (s.size : Int) / 2 - 3 := Int.emod_lt_of_pos _ (by omega)
  have hq : Below w.heap.size w w := Below.refl _ _
  go_enter Try.func4, Try.ntmps4
  go_wp2_with fail
  all_goals
    rw [← hi, ← hz, ← hj]
    have i1 : i + 2 ≤ s.size := by omega
    have i2 : i % 2 = 0 := by omega
    have j1 : j + z ≤ s.size := by omega
    have j2 : j % 2 = 0 := by omega
    have z1 : 1 ≤ z ∧ z ≤ 8 ∧ z % 2 = 0 := by omega
    have hd2 : i + 2 ≤ j ∨ j + z ≤ i := by omega
    clear hi hz hj hd g3 g4 b1 b2 b3 b4
    with_reducible refine (set_in s _ _ i 2 rfl (by omega) 0 (by omega) (by omega) (by omega) hs2 (by omega) (by omega) _).mono ?_
    rintro e w1 ⟨s1, rfl, S1, y1, hb1⟩
    have T1 := Lib.hid S1
    clear S1
    have hq1 := hq.trans (hb1.mono hq.size)
    clear hb1
    have bs1 := sumL_le s1.data.toList
    go_wp2_with fail
    with_reducible refine (of_any s1 (by omega) _).mono ?_
    rintro e w2 ⟨rfl, hb1⟩
    have hq2 := hq1.trans (hb1.mono hq1.size)
    clear hb1 hq1
    obtain ⟨c, hc⟩ : ∃ c : Nat, (c : Int) = 65535 - (sumL s1.data.toList : Nat) := ⟨65535 - sumL s1.data.toList, by omega⟩
    rw [← hc]
    have HC := Lib.hid hc
    have cw : IntKind.u64.wrap (c : Int) = c := by rw [IntKind.wrap_u64]; omega
    have hcl : c ≤ 65535 := by omega
    clear hc bs1
    go_wp2_with fail
    with_reducible refine (set_in s1 _ _ i 2 rfl (by omega) c (by omega) (by omega) (by omega) (by omega) (by omega) (by omega) _).mono ?_
    rintro e w3 ⟨s2, rfl, S2, y2, hb1⟩
    have T2 := Lib.hid S2
    clear S2
    have hq3 := hq2.trans (hb1.mono hq2.size)
    clear hb1 hq2
    go_wp2_with fail
    have R2 := right_two s.data.toList i s1.data.toList s2.data.toList c i2 (by exact i1) T1.out HC.out T2.out
    with_reducible refine (right_any s2 (by omega) _).mono ?_
    rintro e w4 ⟨rfl, hb1⟩
    have hq4 := hq3.trans (hb1.mono hq3.size)
    clear hb1 hq3
    rw [R2]
    go_wp2_with fail
    with_reducible refine (set_in s2 _ _ j z rfl rfl n (by omega) (by omega) (by omega) (by omega) (by omega) (by omega) _).mono ?_
    rintro e w5 ⟨t, rfl, S3, y3, hb1⟩
    have T3 := Lib.hid S3
    clear S3
    have hq5 := hq4.trans (hb1.mono hq4.size)
    clear hb1 hq4
    have eA : IntKind.i64.wrap ((j : Int) + z) = j + z := IntWalk.i64_in _ (by omega)
    have x1 : (0 : Int) ≤ j := by omega
    have x2 : (j : Int) ≤ j + z := by omega
    have x3 : (j : Int) + z ≤ s2.size := by omega
    have x4 : (j : Int) + z ≤ t.size := by omega
    have x5 : (j : Int) + z ≤ s.size := by omega
    go_wp2_with fail
    go_region_held3 (fun _ => True) (trivial) (first | (go_at_call 14; with_reducible refine (turned_in c s2 t _ _ j z hcl (by omega) (by omega) z1.2.2 (by omega) (by omega) (str_cut s2 j z (by omega)) (str_cut t j z (by omega)) _).mono ?_; rintro e w6 ⟨c2, rfl, HC2, hcl2, hb6⟩; have cw2 : IntKind.u64.wrap (c2 : Int) = c2 := by rw [IntKind.wrap_u64]; omega) | (go_at_call 16; with_reducible refine (set_in t _ _ i 2 rfl (by omega) c2 (by omega) (by omega) (by omega) (by omega) (by omega) (by omega) _).mono ?_; rintro e w7 ⟨t2, rfl, S4, y4, hb7⟩; have T4 := Lib.hid S4; clear S4))
    all_goals
      have FF := Lib.hid (stays_last s.data.toList i j z n (show s.size % 2 = 0 from he) i2 j2 z1.2.2 (by exact i1) (by exact j1) hd2 s1.data.toList s2.data.toList t.data.toList t2.data.toList c c2 T1.out HC.out T2.out T3.out HC2.out T4.out)
      have hq := (hq5.drew.trans (hb6.mono hq5.size)).trans (hb7.mono (Nat.le_trans hq5.size hb6.size))
      have y5 : t2.size = s.size := by omega
      have y6 : s2.size = s.size := by omega
      have jz : ((j : Int) + (z : Int)).toNat = j + z := by omega
      rw [jz]
      clear jz
      have TK : Hid (t2.data.toList.take s.size = t2.data.toList) := Lib.hid (List.take_of_length_le (by show t2.size ≤ _; omega))
      clear T1 T2 T3 T4 HC HC2 hq5 hb6 hb7 R2 y2 y3 y4 x1 x2 x3 x4 x5 eA cw cw2
      go_wp2
      go_loopw [17, 18] (fun zr i wr => ∃ x : Nat, x ≤ s.size ∧ i = .int .i64 x ∧ zr = .bool (allZ (t2.data.toList.take x)) ∧ w7 = wr) (fun _ i _ => s.size - (intOf i).toNat)
      case atStart => exact ⟨0, by omega, rfl, rfl, rfl⟩
      case round =>
        obtain ⟨x, hx, rfl, rfl, rfl⟩ := hrel
        by_cases hlt : x < t2.size
        · have X2 := Lib.hid (allZ_one t2 x hlt)
          have hlt2 : x < s.size := by omega
          go_wp2
          all_goals
            go_roundw
            case rel => exact ⟨x + 1, by omega, by go_num, by rw [X2.out]; simp [*], trivial⟩
            case measure => simp [intOf]; omega
        · obtain rfl : x = s.size := by omega
          rw [TK.out]
          clear TK
          cases hzz : allZ t2.data.toList with
          | true =>
            go_wp2_with (go_at_call 6; refine (awake03 _).mono ?_; rintro e w8 ⟨rfl, hb1⟩; replace hq := hq.trans (hb1.mono hq.size); clear hb1)
            go_ret
            exact ⟨rfl, hq⟩
          | false =>
            have R4 : sumL t2.data.toList = 65535 := by
              rcases FF.out with h | h
              · exact h
              · rw [hzz] at h; cases h
            go_wp2_with (first | (go_at_call 11; with_reducible refine (right_any t2 (by omega) _).mono ?_; rintro e w9 ⟨rfl, hb1⟩; replace hq := hq.trans (hb1.mono hq.size); clear hb1) | (go_at_call 6; refine (awake03 _).mono ?_; rintro e w8 ⟨rfl, hb1⟩; replace hq := hq.trans (hb1.mono hq.size); clear hb1))
            go_ret
            exact ⟨rfl, hq⟩

set_option maxHeartbeats 1000000 in
theorem stays_over (s : ByteArray) (a b k n : Int) (ha : 0 ≤ a) (ha' : a < 256) (hb0 : 0 ≤ b) (hb' : b < 256) (hk : 0 ≤ k) (hk' : k < 256) (hs2 : s.size ≤ 200) (he : s.size % 2 = 0) (hs1 : 12 ≤ s.size)
    (hd1 : 2 * (b % ((s.size : Int) / 2 - 3)) ≤ 2 * (a % ((s.size : Int) / 2))) (hd2 : 2 * (a % ((s.size : Int) / 2)) < 2 * (b % ((s.size : Int) / 2 - 3)) + (2 + 2 * (k % 4))) (w : World) :
    Calls Try.prog 4 #[.string s, .int .u8 a, .int .u8 b, .int .u8 k, .int .u64 n] w fun e w' => e = .returned (.bool true) ∧ Below w.heap.size w w' := by
  have g1 : (s.size : Int).tmod 2 = 0 := by rw [Int.tmod_eq_emod_of_nonneg (by omega)]; omega
  have g3 : a.tmod ((s.size : Int) / 2) = a % ((s.size : Int) / 2) := Int.tmod_eq_emod_of_nonneg ha
  have g4 : b.tmod ((s.size : Int) / 2 - 3) = b % ((s.size : Int) / 2 - 3) := Int.tmod_eq_emod_of_nonneg hb0
  have b1 : 0 ≤ a % ((s.size : Int) / 2) := Int.emod_nonneg _ (by omega)
  have b2 : a % ((s.size : Int) / 2) < (s.size : Int) / 2 := Int.emod_lt_of_pos _ (by omega)
  have b3 : 0 ≤ b % ((s.size : Int) / 2 - 3) := Int.emod_nonneg _ (by omega)
  have b4 : b % ((s.size : Int) / 2 - 3) < (s.size : Int) / 2 - 3 := Int.emod_lt_of_pos _ (by omega)
  have hd3 : b % ((s.size : Int) / 2 - 3) ≤ a % ((s.size : Int) / 2) := by omega
  go_enter Try.func4, Try.ntmps4
  go_wp2_with (go_at_call 6; refine (awake03 _).mono ?_; rintro e w' ⟨rfl, hb⟩)
  go_ret
  exact ⟨rfl, hb⟩

theorem checkStays_walk (s : ByteArray) (a b k n : Int) (w0 : s.size ≤ maxLen) (w1 : (Lit.int .u8 a).wf = true) (w2 : (Lit.int .u8 b).wf = true) (w3 : (Lit.int .u8 k).wf = true) (w4 : (Lit.int .u64 n).wf = true) (w : World) :
    Calls Try.prog 4 #[.string s, .int .u8 a, .int .u8 b, .int .u8 k, .int .u64 n] w fun e w' => e = .returned (.bool true) ∧ Below w.heap.size w w' := by
  unfold maxLen at w0
  have ha := bounds_u8 w1
  have hb := bounds_u8 w2
  have hk := bounds_u8 w3
  have hn := bounds_u64 w4
  by_cases h1 : 200 < s.size
  · go_enter Try.func4, Try.ntmps4
    go_wp2_with (go_at_call 6; refine (awake03 _).mono ?_; rintro e w' ⟨rfl, hb⟩)
    go_ret
    exact ⟨rfl, hb⟩
  · by_cases h2 : s.size % 2 = 0
    · have g1 : (s.size : Int).tmod 2 = 0 := by rw [Int.tmod_eq_emod_of_nonneg (by omega)]; omega
      by_cases h3 : s.size < 12
      · go_enter Try.func4, Try.ntmps4
        go_wp2_with (go_at_call 6; refine (awake03 _).mono ?_; rintro e w' ⟨rfl, hb⟩)
        go_ret
        exact ⟨rfl, hb⟩
      · have b1 : 0 ≤ a % ((s.size : Int) / 2) := Int.emod_nonneg _ (by omega)
        have b3 : 0 ≤ b % ((s.size : Int) / 2 - 3) := Int.emod_nonneg _ (by omega)
        by_cases h4 : 2 * (b % ((s.size : Int) / 2 - 3)) ≤ 2 * (a % ((s.size : Int) / 2)) ∧ 2 * (a % ((s.size : Int) / 2)) < 2 * (b % ((s.size : Int) / 2 - 3)) + (2 + 2 * (k % 4))
        · exact stays_over s a b k n (by omega) (by omega) (by omega) (by omega) (by omega) (by omega) (by omega) h2 (by omega) h4.1 h4.2 w
        · exact stays_main s a b k n (by omega) (by omega) (by omega) (by omega) (by omega) (by omega) (by omega) (by omega) (by omega) h2 (by omega) (2 * (a % ((s.size : Int) / 2))).toNat (2 * (b % ((s.size : Int) / 2 - 3))).toNat (2 + 2 * (k % 4)).toNat (by omega) (by omega) (by omega) (by omega) w
    · have g1 : (s.size : Int).tmod 2 = 1 := by rw [Int.tmod_eq_emod_of_nonneg (by omega)]; omega
      go_enter Try.func4, Try.ntmps4
      go_wp2_with (go_at_call 6; refine (awake03 _).mono ?_; rintro e w' ⟨rfl, hb⟩)
      go_ret
      exact ⟨rfl, hb⟩
end Go.Proofs.Ythbappeokbbpdaa
