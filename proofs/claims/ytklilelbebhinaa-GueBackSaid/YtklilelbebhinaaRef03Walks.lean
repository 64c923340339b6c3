/- The contracts of cloakroomref03: Words, Add, Sum, Of, word, Turn, Turned, Set. -/
import Derived.Test.YtklilelbebhinaaCheckSet
import Derived.Test.YtklilelbebhinaaRef02Walks
import Derived.Deep.RegionHeld3
import Derived.Deep.DrawnRows
import Derived.BigQuiet
namespace Go.Proofs.Ytklilelbebhinaa.R03
open Go.RowKit
set_option linter.unusedVariables false

/-- The slice v holds the numbers l. -/
def IntsAt (w : World) (v : Value) (l : List Nat) : Prop :=
  (v = .slice none 0 0 ∧ l = []) ∨ ∃ g cap, v = .slice (some ⟨g, 0, none⟩) l.length cap ∧ g < w.heap.size ∧ ∀ (j : Nat) (h : j < l.length), w.cell? ⟨g, j, none⟩ = some (.int .i64 (l[j] : Nat))
def cellsN (l : List Nat) : List Value := l.map fun n => Value.int .i64 (n : Nat)
theorem IntsAt.ofRow {w : World} {B t n : Nat} {v : Value} {l : List Nat} (h : w.ownsRow B t 1 v n (cellsN l)) : IntsAt w v l := by
  have hn : l.length = n := by have := h.1; unfold cellsN at this; rw [List.length_map] at this; omega
  rcases h.2 with ⟨rfl, h0⟩ | ⟨g, cap, cur, rfl, _, hg, _, _, _, ht⟩
  · subst h0
    exact .inl ⟨rfl, List.eq_nil_of_length_eq_zero hn⟩
  · subst hn
    refine .inr ⟨g, cap, rfl, lt_of_block hg, fun j hj => ?_⟩
    rw [cell_of_row w g j cur t (0, 0) hg]
    have h1 : (cellsN l)[j]? = some (.int .i64 (l[j] : Nat)) := by simp [cellsN, hj]
    rw [← ht, List.getElem?_take] at h1
    simpa [hj] using h1
theorem IntsAt.below {w w' : World} {v : Value} {l : List Nat} (h : IntsAt w v l) (hb : Below w.heap.size w w') : IntsAt w' v l := by
  rcases h with h | ⟨g, cap, e, hg, hc⟩
  · exact .inl h
  · exact .inr ⟨g, cap, e, Nat.lt_of_lt_of_le hg hb.size, fun j hj => (hb.cell (p := ⟨g, j, none⟩) hg).trans (hc j hj)⟩

def addN (l : List Nat) : Nat := res l.sum
theorem sum_take (l : List Nat) (k : Nat) (h : k < l.length) : (l.take (k + 1)).sum = (l.take k).sum + l[k] := by
  rw [List.take_succ_eq_append_getElem h, List.sum_append]; simp
theorem sum_le (l : List Nat) (h : ∀ n ∈ l, n ≤ 65535) : l.sum ≤ 65535 * l.length := by
  induction l with
  | nil => simp
  | cons a l ih => have := ih (fun n hn => h n (List.mem_cons_of_mem _ hn)); have := h a (List.mem_cons_self ..); simp; omega
theorem take_le (l : List Nat) (k : Nat) (h : ∀ n ∈ l, n ≤ 65535) : (l.take k).sum ≤ 65535 * l.length := by
  have := sum_le (l.take k) (fun n hn => h n (List.mem_of_mem_take hn))
  have h2 : (l.take k).length ≤ l.length := by rw [List.length_take]; omega
  omega

theorem add_any (v : Value) (l : List Nat) (h : ∀ n ∈ l, n ≤ 65535) (hl : l.length ≤ 1099511627776) (w : World) (hv : IntsAt w v l) :
    Calls Try.prog 31 #[v] w fun e w' => e = .returned (.int .i64 (addN l : Nat)) ∧ w = w' := by
  rcases hv with ⟨rfl, rfl⟩ | ⟨g, cap, rfl, hg, hc⟩
  · go_enter Try.func31, Try.ntmps31
    go_wp2
    go_rounds 1
    go_wp2
    go_rounds 1
    go_ret
    exact ⟨rfl, rfl⟩
  · have HC := Lib.hid hc
    clear hc
    have HB := Lib.hid (fun k => take_le l k h)
    have HR : Hid ((l.take l.length).sum = l.sum) := Lib.hid (by rw [List.take_length])
    clear h
    go_enter Try.func31, Try.ntmps31
    go_wp2
    go_loop [3, 4] (fun n i => ∃ k : Nat, k ≤ l.length ∧ i = .int .i64 k ∧ n = .int .i64 ((l.take k).sum : Nat)) (fun _ i => l.length - (intOf i).toNat)
    case atStart => exact ⟨0, by omega, rfl, rfl⟩
    case round =>
      obtain ⟨k, hk, rfl, rfl⟩ := hrel
      by_cases hlt : k < l.length
      · have c0 := HC.out k hlt
        have b1 := HB.out k
        have b2 := HB.out (k + 1)
        have HS := sum_take l k hlt
        rw [HS] at b2
        have HS2 := Lib.hid HS
        clear HS
        go_wp2
        go_round
        case rel => exact ⟨k + 1, by omega, by go_num, by rw [HS2.out]; go_num⟩
        case measure => simp [intOf]; omega
      · obtain rfl : k = l.length := by omega
        have b1 := HB.out l.length
        generalize hy0 : (l.take l.length).sum = y0 at b1 ⊢
        have HY : Hid (y0 = l.sum) := Lib.hid (by rw [← hy0, HR.out])
        clear hy0
        go_wp2
        go_loop [3] (fun v => ∃ y : Nat, v = .int .i64 y ∧ y ≤ 9223372036854775807 ∧ res y = res y0) (fun v => (intOf v).toNat)
        case atStart => exact ⟨y0, rfl, by omega, rfl⟩
        case round =>
          obtain ⟨y, rfl, hy, hr⟩ := hrel
          have Hr := Lib.hid hr
          clear hr
          by_cases h : 65535 < y
          · have HS := Lib.hid (res_step h)
            have h2 : (65535 : Int) < y := by omega
            go_wp2
            go_round
            case rel => exact ⟨y / 65536 + y % 65536, by go_num, by omega, by rw [HS.out]; exact Hr.out⟩
            case measure => simp [intOf]; omega
          · have HS := Lib.hid (res_small (x := y) (by omega))
            have h2 : ¬ ((65535 : Int) < y) := by omega
            go_wp2
            go_ret
            exact ⟨ret_int (by rw [addN, ← HY.out, ← Hr.out, HS.out]), rfl⟩

theorem Try.infoI : (Try.prog.info? 3).map (fun i => (i.zero, i.size, i.bytes)) = some (some (.int .i64 0), 1, 8) := by kernel_rfl
def wordsK (L : List UInt8) (k : Nat) : List Nat := (List.range k).map fun j => wd L (2 * j)
theorem wordsK_succ (L : List UInt8) (k : Nat) : wordsK L (k + 1) = wordsK L k ++ [wd L (2 * k)] := by simp [wordsK, List.range_succ]
theorem wordsK_length (L : List UInt8) (k : Nat) : (wordsK L k).length = k := by simp [wordsK]
theorem wordsK_sum (L : List UInt8) : ∀ k, (wordsK L k).sum = tot L k
  | 0 => rfl
  | k + 1 => by rw [wordsK_succ, List.sum_append, wordsK_sum L k, tot]; simp
theorem wordsK_le (L : List UInt8) (k : Nat) : ∀ n ∈ wordsK L k, n ≤ 65535 := by
  intro n hn
  simp only [wordsK, List.mem_map] at hn
  obtain ⟨j, _, rfl⟩ := hn
  exact wd_lt _ _
def wordsN (L : List UInt8) : List Nat := wordsK L ((L.length + 1) / 2)
theorem wd_pad (L : List UInt8) (p : Nat) : wd (L ++ [0]) p = wd L p := by
  have h : ∀ q, (L ++ [0]).getD q 0 = L.getD q 0 := fun q => by
    rw [List.getD_eq_getElem?_getD, List.getD_eq_getElem?_getD]
    rcases Nat.lt_trichotomy q L.length with hq | hq | hq
    · rw [List.getElem?_append_left hq]
    · subst hq; simp
    · rw [List.getElem?_eq_none (by simp; omega), List.getElem?_eq_none (by omega)]
  unfold wd; rw [h, h]
theorem wordsK_pad (L : List UInt8) (k : Nat) : wordsK (L ++ [0]) k = wordsK L k := by
  unfold wordsK; apply List.map_congr_left; intro j _; exact wd_pad L _
theorem getN_two (s : ByteArray) (p : Nat) (h : p + 2 ≤ s.size) : wrap64 (getN s p 2) = (wd s.data.toList p : Nat) := by
  have e : getN s p 2 = (wd s.data.toList p : Nat) := by
    rw [getN_yes (by omega) (by omega) (by omega) (by omega)]
    have h1 := num_sub_snoc s p 1 (by omega)
    have h0 := num_sub_snoc s p 0 (by omega)
    have h3 := wd_two s p (by omega)
    have h4 : numB ((s.data.toList.drop p).take 0) = 0 := rfl
    have h5 : (s[p + 0]'(by omega)) = s[p]'(by omega) := rfl
    rw [h5] at h0
    show ((numB ((s.data.toList.drop p).take 2) : Nat) : Int) = _
    have h6 : numB ((s.data.toList.drop p).take 2) = numB ((s.data.toList.drop p).take 1) * 256 + (s[p + 1]'(by omega)).toNat := h1
    have h7 : numB ((s.data.toList.drop p).take 1) = numB ((s.data.toList.drop p).take 0) * 256 + (s[p]'(by omega)).toNat := h0
    omega
  have := wd_lt s.data.toList p
  rw [e]; unfold wrap64; omega
theorem cellsN_append (l m : List Nat) : cellsN (l ++ m) = cellsN l ++ cellsN m := by simp [cellsN]

set_option maxRecDepth 100000 in
set_option maxHeartbeats 1000000 in
theorem words_even (s : ByteArray) (hs : s.size ≤ 1099511627776) (h2 : s.size % 2 = 0) (w : World) :
    Calls Try.prog 32 #[.string s] w fun e w' => ∃ v n, e = .returned v ∧ w'.ownsRow w.heap.size 3 1 v n (cellsN (wordsN s.data.toList)) ∧ Below w.heap.size w w' := by
  obtain ⟨ti, hi, hz0, hz1, hz2⟩ := info_parts Try.infoI
  have HL : Hid (wordsN s.data.toList = wordsK s.data.toList (s.size / 2)) := Lib.hid (by rw [wordsN, show s.data.toList.length = s.size from rfl, show (s.size + 1) / 2 = s.size / 2 by omega])
  have e2 : (s.size : Int).tmod 2 = 0 := by rw [Int.tmod_eq_emod_of_nonneg (by omega)]; omega
  go_enter Try.func32, Try.ntmps32
  go_wp2
  go_loopw [3, 4] (fun v i wr => ∃ (k p : Nat), k ≤ s.size / 2 ∧ p = 2 * k ∧ i = .int .i64 p ∧ wr.ownsRow w.heap.size 3 1 v k (cellsN (wordsK s.data.toList k)) ∧ Below w.heap.size w wr) (fun _ i _ => s.size - (intOf i).toNat)
  case atStart => exact ⟨0, 0, by omega, rfl, rfl, World.ownsRow_nil _ _ _ _, Below.refl _ _⟩
  case round =>
    obtain ⟨k, p, hk, hp, rfl, hown, hb⟩ := hrel
    have HP := Lib.hid hp
    by_cases hlt : p < s.size
    · have hp2 : p + 2 ≤ s.size := by omega
      clear hp
      have HG := Lib.hid (getN_two s p hp2)
      have HW := Lib.hid (wordsK_succ s.data.toList k)
      go_wp2_with (first | (go_at_call 22; refine (R02.must_any s p 2 (by unfold maxLen; omega) (by omega) (by omega) _).mono ?_; rintro e w' ⟨rfl, rfl⟩; rw [HG.out]) | (at_builtin; refine wpList_append_own _ rfl _ _ 54 rfl w.heap.size 3 ti (.int .i64 0) 1 8 Try.underlying54 hi hz0 hz1 hz2 rfl (by decide) _ _ _ rfl (hown.alloc _) ⟨wr.heap.size, 0, none⟩ 1 1 [.int .i64 (wd s.data.toList p : Nat)] rfl rfl ?c1 ?c2 ?c3 ?c4 ?c5 ?_))
      case c1 =>
        intro j u hj
        match j, hj with
        | 0, hj => simp at hj; subst hj; simp [Addr.add]
      case c2 => intro u hu; simp at hu; subst hu; rfl
      case c3 => unfold maxLen; omega
      case c4 => omega
      case c5 => have := hb.size; simp; omega
      intro v' w1 hown1 hgrow _
      have hb1 := (hb.alloc hb.size _).grown hgrow (by simp; have := hb.size; omega) (fun j hj => (hown.lt j hj).1)
      have R : Hid (w1.ownsRow w.heap.size 3 1 v' (k + 1) (cellsN (wordsK s.data.toList (k + 1)))) := by
        rw [HW.out, cellsN_append, ← HP.out]
        exact Lib.hid hown1
      clear hown1 hgrow hown hb
      go_wp2
      go_roundw
      case rel => exact ⟨k + 1, p + 2, by have := HP.out; omega, by have := HP.out; omega, by go_num, R.out, hb1⟩
      case measure => simp [intOf]; omega
    · obtain rfl : k = s.size / 2 := by omega
      go_wp2
      go_ret
      exact ⟨_, _, rfl, by rw [HL.out]; exact hown, hb⟩

theorem size_pad (s : ByteArray) : ({ data := (s.data.toList ++ [0]).toArray } : ByteArray).size = s.size + 1 := by
  show (s.data.toList ++ [0]).toArray.size = _
  simp
theorem wordsN_pad (s : ByteArray) (h2 : s.size % 2 = 1) : wordsN s.data.toList = wordsK ({ data := (s.data.toList ++ [0]).toArray } : ByteArray).data.toList ((s.size + 1) / 2) := by
  show _ = wordsK (s.data.toList ++ [0]) _
  rw [wordsK_pad, wordsN]
  rfl
theorem str_pad (s : ByteArray) : s ++ { data := #[0] } = { data := (s.data.toList ++ [0]).toArray } := by
  apply ByteArray.ext
  apply Array.ext'
  simp

set_option maxRecDepth 100000 in
set_option maxHeartbeats 1000000 in
theorem words_odd (s : ByteArray) (hs : s.size ≤ 1099511627776) (h2 : s.size % 2 = 1) (w : World) :
    Calls Try.prog 32 #[.string s] w fun e w' => ∃ v n, e = .returned v ∧ w'.ownsRow w.heap.size 3 1 v n (cellsN (wordsN s.data.toList)) ∧ Below w.heap.size w w' := by
  obtain ⟨ti, hi, hz0, hz1, hz2⟩ := info_parts Try.infoI
  have HX := Lib.hid (str_pad s)
  have hts : (s ++ { data := #[0] } : ByteArray).size = s.size + 1 := by rw [HX.out, size_pad]
  have HL : Hid (wordsN s.data.toList = wordsK (s ++ { data := #[0] } : ByteArray).data.toList ((s.size + 1) / 2)) := Lib.hid (by rw [HX.out]; exact wordsN_pad s h2)
  obtain ⟨t, ht⟩ : ∃ t : ByteArray, s ++ { data := #[0] } = t := ⟨_, rfl⟩
  rw [ht] at hts HL
  have e2 : (s.size : Int).tmod 2 = 1 := by rw [Int.tmod_eq_emod_of_nonneg (by omega)]; omega
  clear HX
  go_enter Try.func32, Try.ntmps32
  go_wp2
  go_loopw [3, 4] (fun v i wr => ∃ (k p : Nat), k ≤ (s.size + 1) / 2 ∧ p = 2 * k ∧ i = .int .i64 p ∧ wr.ownsRow w.heap.size 3 1 v k (cellsN (wordsK t.data.toList k)) ∧ Below w.heap.size w wr) (fun _ i _ => t.size - (intOf i).toNat)
  case atStart => exact ⟨0, 0, by omega, rfl, rfl, World.ownsRow_nil _ _ _ _, Below.refl _ _⟩
  case round =>
    obtain ⟨k, p, hk, hp, rfl, hown, hb⟩ := hrel
    have HP := Lib.hid hp
    by_cases hlt : p < t.size
    · have hp2 : p + 2 ≤ t.size := by omega
      clear hp
      have HG := Lib.hid (getN_two t p hp2)
      have HW := Lib.hid (wordsK_succ t.data.toList k)
      go_wp2_with (first | (go_at_call 22; refine (R02.must_any t p 2 (by unfold maxLen; omega) (by omega) (by omega) _).mono ?_; rintro e w' ⟨rfl, rfl⟩; rw [HG.out]) | (at_builtin; refine wpList_append_own _ rfl _ _ 54 rfl w.heap.size 3 ti (.int .i64 0) 1 8 Try.underlying54 hi hz0 hz1 hz2 rfl (by decide) _ _ _ rfl (hown.alloc _) ⟨wr.heap.size, 0, none⟩ 1 1 [.int .i64 (wd t.data.toList p : Nat)] rfl rfl ?c1 ?c2 ?c3 ?c4 ?c5 ?_))
      case c1 =>
        intro j u hj
        match j, hj with
        | 0, hj => simp at hj; subst hj; simp [Addr.add]
      case c2 => intro u hu; simp at hu; subst hu; rfl
      case c3 => unfold maxLen; omega
      case c4 => omega
      case c5 => have := hb.size; simp; omega
      intro v' w1 hown1 hgrow _
      have hb1 := (hb.alloc hb.size _).grown hgrow (by simp; have := hb.size; omega) (fun j hj => (hown.lt j hj).1)
      have R : Hid (w1.ownsRow w.heap.size 3 1 v' (k + 1) (cellsN (wordsK t.data.toList (k + 1)))) := by
        rw [HW.out, cellsN_append, ← HP.out]
        exact Lib.hid hown1
      clear hown1 hgrow hown hb
      go_wp2
      go_roundw
      case rel => exact ⟨k + 1, p + 2, by have := HP.out; omega, by have := HP.out; omega, by go_num, R.out, hb1⟩
      case measure => simp [intOf]; omega
    · obtain rfl : k = (s.size + 1) / 2 := by omega
      go_wp2
      go_ret
      exact ⟨_, _, rfl, by rw [HL.out]; exact hown, hb⟩

set_option maxRecDepth 100000 in
theorem words_any (s : ByteArray) (hs : s.size ≤ 1099511627776) (w : World) :
    Calls Try.prog 32 #[.string s] w fun e w' => ∃ v, e = .returned v ∧ IntsAt w' v (wordsN s.data.toList) ∧ Below w.heap.size w w' := by
  rcases (show s.size % 2 = 0 ∨ s.size % 2 = 1 by omega) with h | h
  · exact (words_even s hs h w).mono fun e w' ⟨v, n, h1, h2, h3⟩ => ⟨v, h1, IntsAt.ofRow h2, h3⟩
  · exact (words_odd s hs h w).mono fun e w' ⟨v, n, h1, h2, h3⟩ => ⟨v, h1, IntsAt.ofRow h2, h3⟩

theorem addN_words (L : List UInt8) : addN (wordsN L) = sumL L := by rw [addN, wordsN, wordsK_sum, tot_tw]; rfl
theorem wordsN_length (L : List UInt8) : (wordsN L).length = (L.length + 1) / 2 := by rw [wordsN, wordsK_length]

set_option maxRecDepth 100000 in
theorem sum_any (s : ByteArray) (hs : s.size ≤ 1099511627776) (w : World) :
    Calls Try.prog 20 #[.string s] w fun e w' => e = .returned (.int .i64 (sumL s.data.toList : Nat)) ∧ Below w.heap.size w w' := by
  have HA := Lib.hid (addN_words s.data.toList)
  have hl : (wordsN s.data.toList).length ≤ 1099511627776 := by rw [wordsN_length, show s.data.toList.length = s.size from rfl]; omega
  go_enter Try.func20, Try.ntmps20
  go_wp2_with (first | (go_at_call 32; refine (words_any s hs _).mono ?_; rintro e w1 ⟨v, rfl, hI, hb⟩) | (go_at_call 31; refine (add_any _ (wordsN s.data.toList) (wordsK_le _ _) hl _ hI).mono ?_; rintro e w' ⟨rfl, rfl⟩))
  go_ret
  exact ⟨ret_int (by rw [HA.out]), hb⟩

set_option maxRecDepth 100000 in
theorem of_any (s : ByteArray) (hs : s.size ≤ 1099511627776) (w : World) :
    Calls Try.prog 16 #[.string s] w fun e w' => e = .returned (.int .i64 (65535 - (sumL s.data.toList : Nat))) ∧ Below w.heap.size w w' := by
  have b := sumL_le s.data.toList
  go_enter Try.func16, Try.ntmps16
  go_wp2_with (go_at_call 20; refine (sum_any s hs _).mono ?_; rintro e w1 ⟨rfl, hb⟩)
  go_ret
  exact ⟨rfl, hb⟩
end Go.Proofs.Ytklilelbebhinaa.R03
