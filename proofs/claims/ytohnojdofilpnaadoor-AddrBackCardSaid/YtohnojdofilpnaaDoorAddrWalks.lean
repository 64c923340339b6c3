/- The contracts of package addr: Cut at one byte, decimal, split. -/
import Derived.Test.YtohnojdofilpnaaDoorOctetWalks
import Derived.Test.YtohnojdofilpnaaDoorShelf
import Derived.Test.YtohnojdofilpnaaDoorAddrMath
import Derived.Laws.RangeString
import Derived.Laws.RangeAny
import Derived.BigQuiet
import Derived.OwnWalk
import Derived.Lib.Strings
namespace Go.Proofs.YtohnojdofilpnaaDoor
open Go.RowKit
set_option linter.unusedVariables false

theorem ext_str (s : ByteArray) (a b : Nat) : s.extract a b = ⟨((s.data.toList.drop a).take (b - a)).toArray⟩ := by
  rw [← Lib.mk_data (s.extract a b), ← Lib.toList_data, Lib.extract_toList]
theorem str_one (s : ByteArray) (h : s.size ≠ 0) : s.toList.isEmpty = false := by
  rw [Lib.toList_data]
  cases hl : s.data.toList with
  | nil => exact absurd (by have := congrArg List.length hl; simpa using this) h
  | cons => rfl
theorem ret_ssb {a b c d : ByteArray} {p q : Bool} (h : a = b) (g : c = d) (k : p = q) : Ending.returned (.tuple #[.string a, .string c, .bool p]) = .returned (.tuple #[.string b, .string d, .bool q]) := by rw [h, g, k]
theorem cutA_take (c : UInt8) (l : List UInt8) : l.take (cutA c l).length = cutA c l ∧ l.drop ((cutA c l).length + 1) = cutB c l := by
  have h : l.takeWhile (· != c) ++ l.dropWhile (· != c) = l := List.takeWhile_append_dropWhile
  unfold cutA cutB
  refine ⟨?_, ?_⟩
  · conv => lhs; arg 2; rw [← h]
    exact List.take_left
  · conv => lhs; arg 2; rw [← h]
    rw [List.drop_append, List.drop_of_length_le (by omega), List.nil_append]; congr 1; omega
theorem cut_any (s : ByteArray) (c : UInt8) (hs : s.size ≤ maxLen) (w : World) :
    Calls Tryd.prog 40 #[.string s, .string ⟨#[c]⟩] w fun e w' => e = .returned (.tuple #[.string ⟨(cutA c s.data.toList).toArray⟩, .string ⟨(cutB c s.data.toList).toArray⟩, .bool (cutT c s.data.toList)]) ∧ ∃ n, w' = w.drewN n := by
  unfold maxLen at hs
  have hsz : s.data.toList.length = s.size := by simp
  by_cases hc : c ∈ s.data.toList
  · have HI := Lib.hid (index_some c s.data.toList hc)
    have HC := Lib.hid (cutA_take c s.data.toList)
    have HE := Lib.hid (cut_eq c s.data.toList hc)
    have HT : Hid (cutT c s.data.toList = true) := Lib.hid (decide_eq_true hc)
    have hlt : (cutA c s.data.toList).length < s.size := by
      have := congrArg List.length HE.out
      rw [List.length_append, List.length_cons] at this; omega
    have HZ := Lib.hid hsz
    obtain ⟨m, hm⟩ : ∃ m, m = (cutA c s.data.toList).length := ⟨_, rfl⟩
    rw [← hm] at HI HC hlt
    clear hsz hc
    have HM := Lib.hid hm; clear hm
    have h1 : (m : Int) + 1 ≤ s.size := by omega
    have h2 : (m : Int) ≤ s.size := by omega
    go_enter Tryd.func40, Tryd.ntmps40
    go_wp2_with (first | (go_at_call 51; refine (Tryd.stringslite_Index_one _ _ _).mono ?_; rintro e w' ⟨rfl, rfl⟩; rw [HI.out]) | go_in)
    go_quiet (fail)
    go_wp2
    go_ret3
    refine ⟨ret_ssb ?_ ?_ HT.out.symm, _, rfl⟩
    · rw [← HC.out.1, ext_str]; simp
    · rw [← HC.out.2, ext_str]
      rw [List.take_of_length_le (by rw [List.length_drop, HZ.out]; omega)]
  · have HI := Lib.hid (index_none c s.data.toList hc)
    have HC := Lib.hid (cutA_none c s.data.toList hc)
    have HT : Hid (cutT c s.data.toList = false) := Lib.hid (decide_eq_false hc)
    go_enter Tryd.func40, Tryd.ntmps40
    go_wp2_with (first | (go_at_call 51; refine (Tryd.stringslite_Index_one _ _ _).mono ?_; rintro e w' ⟨rfl, rfl⟩; rw [HI.out]) | go_in)
    go_ret3
    exact ⟨ret_ssb (by rw [HC.out.1, Lib.mk_data]) (by rw [HC.out.2]) HT.out.symm, 0, rfl⟩

theorem decimal_any (s : ByteArray) (hs : s.size ≤ maxLen) (w : World) :
    Calls Tryd.prog 33 #[.string s] w fun e w' => e = .returned (.tuple #[.int .u8 (decV s.data.toList : Nat), .bool (isDec s.data.toList)]) ∧ Below w.heap.size w w' := by
  unfold maxLen at hs
  have HL : Hid (s.data.toList.length = s.size) := Lib.hid (by simp)
  by_cases h0 : s.size = 0
  · have HN := Lib.hid (isDec_no (l := s.data.toList) (by rw [HL.out]; omega))
    obtain rfl : s = ⟨#[]⟩ := by apply ByteArray.ext; exact Array.eq_empty_of_size_eq_zero h0
    go_enter Tryd.func33, Tryd.ntmps33
    go_wp2
    go_ret2
    exact ⟨by rw [HN.out.1, HN.out.2]; rfl, Below.refl _ _⟩
  · have hne := str_one s h0
    by_cases h3 : s.size ≤ 3
    · have h3n : ¬ 3 < (s.size : Int) := by omega
      by_cases hz : 1 < s.size ∧ (s[0]'(by omega)).toNat = 48
      · have HN := Lib.hid (isDec_no (l := s.data.toList) (fun h => by
          have h1 := h.2.2.1 (by rw [HL.out]; exact hz.1)
          have h2 : s.data.toList.headD 0 = s[0] := by
            rw [List.headD_eq_head?_getD, List.head?_eq_getElem?, List.getElem?_eq_getElem (by rw [HL.out]; omega)]; rfl
          rw [h2] at h1
          exact h1 (UInt8.toNat_inj.1 hz.2)))
        obtain ⟨hz1, hz2⟩ := hz
        have hz3 : 1 < (s.size : Int) := by omega
        have h0i : (0 : Int) < s.size := by omega
        go_enter Tryd.func33, Tryd.ntmps33
        go_wp2
        go_ret2
        exact ⟨by rw [HN.out.1, HN.out.2]; rfl, Below.refl _ _⟩
      · have HZ : Hid (1 < s.data.toList.length → s.data.toList.headD 0 ≠ 48) := Lib.hid (fun h1 h2 => hz ⟨by rw [HL.out] at h1; exact h1, by
          have h3 : s.data.toList.headD 0 = s[0]'(by omega) := by
            rw [List.headD_eq_head?_getD, List.head?_eq_getElem?, List.getElem?_eq_getElem (by rw [HL.out]; omega)]; rfl
          rw [h3] at h2; rw [h2]; rfl⟩)
        have h0i : (0 : Int) < s.size := by omega
        go_enter Tryd.func33, Tryd.ntmps33
        go_wp2
        all_goals
          go_loopw [4] (fun n wr => ∃ pos : Nat, pos ≤ s.size ∧ n = .int .i64 (numD (s.data.toList.take pos) : Nat) ∧ Hid (wr.heap[w.heap.size]? = some (.stringIter s pos)) ∧ Hid ((s.data.toList.take pos).all isD = true) ∧ Below w.heap.size w wr) (fun _ wr => s.size - wr.iterPos w.heap.size)
          case atStart => exact ⟨0, by omega, by simp [numD], Lib.hid (World.iter_heap w s 0), Lib.hid (by simp), (Below.refl _ w).alloc (Nat.le_refl _) _⟩
          case round =>
            obtain ⟨pos, hpos, rfl, HI, HA, hb⟩ := hrel
            have hlt2 : w.heap.size < wr.heap.size := (Array.getElem?_eq_some_iff.1 HI.out).1
            have HIR := Lib.hid HI.out
            have hbd := numD_lt _ HA.out
            have hle : (s.data.toList.take pos).length ≤ 3 := by rw [List.length_take]; omega
            have hb10 : numD (s.data.toList.take pos) < 1000 := Nat.lt_of_lt_of_le hbd (Nat.le_trans (Nat.pow_le_pow_right (by omega) hle) (by decide))
            clear hbd hle
            by_cases hp : pos < s.size
            · have HS : Hid (s.data.toList.take (pos + 1) = s.data.toList.take pos ++ [s[pos]'hp]) := Lib.hid (by rw [List.take_succ_eq_append_getElem (by rw [HL.out]; exact hp)]; rfl)
              have hm : s[pos]'hp ∈ s.data.toList := by
                have : s[pos]'hp = s.data.toList[pos]'(by rw [HL.out]; exact hp) := rfl
                rw [this]; exact List.getElem_mem _
              have HN : isD (s[pos]'hp) = false → Hid (isDec s.data.toList = false ∧ decV s.data.toList = 0) := fun hn => Lib.hid (isDec_no (fun h => by
                have := (List.all_eq_true.1 h.2.2.2.1) _ hm
                rw [hn] at this; cases this))
              clear hm
              by_cases ha : (s[pos]'hp).toNat < 128
              · have hnx : ∀ ty, (Instr.next (.pointer (some ⟨w.heap.size, 0, none⟩)) true ty).run Tryd.prog wr = _ := fun ty => Lib.run_next_ascii_at wr w.heap.size s pos ty HI.out hp ha
                have HI2 := Lib.hid (Lib.iterAt_heap wr w.heap.size s pos (pos + 1) HI.out)
                have hb2 := Lib.below_iterAt hb (k := w.heap.size) (by omega) s (pos + 1)
                by_cases hd : isD (s[pos]'hp) = true
                · have hd2 := of_decide_eq_true hd
                  obtain ⟨d1, d2⟩ := hd2
                  have HA2 : Hid ((s.data.toList.take (pos + 1)).all isD = true) := Lib.hid (by rw [HS.out, List.all_append, HA.out]; simp [hd])
                  have HN2 := Lib.hid (numD_snoc (s.data.toList.take pos) (s[pos]'hp))
                  have e1 : ¬ ((s[pos]'hp).toNat : Int) < 48 := by omega
                  have e2 : ¬ 57 < ((s[pos]'hp).toNat : Int) := by omega
                  clear HN hb hd
                  go_wp2
                  go_roundw
                  case rel => exact ⟨pos + 1, by omega, by rw [HS.out, HN2.out]; go_num, HI2, HA2, hb2⟩
                  case measure =>
                    simp only [World.iterPos, HI2.out, HIR.out]
                    omega
                · have HN := HN (by simpa using hd)
                  have hd2 : ¬ (48 ≤ (s[pos]'hp).toNat ∧ (s[pos]'hp).toNat ≤ 57) := fun h => hd (decide_eq_true h)
                  clear hb hd
                  by_cases hlo : ((s[pos]'hp).toNat : Int) < 48
                  · go_wp2
                    go_ret2
                    exact ⟨by rw [HN.out.1, HN.out.2]; rfl, hb2⟩
                  · have hhi : 57 < ((s[pos]'hp).toNat : Int) := by omega
                    clear hd2
                    go_wp2
                    go_ret2
                    exact ⟨by rw [HN.out.1, HN.out.2]; rfl, hb2⟩
              · have hnx : ∀ ty, (Instr.next (.pointer (some ⟨w.heap.size, 0, none⟩)) true ty).run Tryd.prog wr = _ := fun ty => Lib.run_next_any_at wr w.heap.size s pos ty HI.out hp
                have hdh := (decode_high s pos hp (by omega)).1
                have hb2 := Lib.below_iterAt hb (k := w.heap.size) (by omega) s (pos + (Utf8.decode s pos).2)
                have HN := HN (decide_eq_false (by omega))
                have e1 : ¬ ((Utf8.decode s pos).1 : Int) < 48 := by omega
                have e2 : 57 < ((Utf8.decode s pos).1 : Int) := by omega
                clear hb
                go_wp2
                go_ret2
                exact ⟨by rw [HN.out.1, HN.out.2]; rfl, hb2⟩
            · have hnx : ∀ ty, (Instr.next (.pointer (some ⟨w.heap.size, 0, none⟩)) true ty).run Tryd.prog wr = _ := fun ty => Lib.run_next_end_at wr w.heap.size s pos ty HI.out hp
              have hpe : pos = s.size := by omega
              subst hpe
              have ht : s.data.toList.take s.size = s.data.toList := List.take_of_length_le (by rw [HL.out]; omega)
              rw [ht] at hb10 HA
              rw [ht]
              by_cases hbig : 255 < numD s.data.toList
              · have HN := Lib.hid (isDec_no (l := s.data.toList) (by omega))
                have hbig2 : 255 < (numD s.data.toList : Int) := by omega
                go_wp2
                go_ret2
                exact ⟨by rw [HN.out.1, HN.out.2]; rfl, hb⟩
              · have HN := Lib.hid (isDec_yes (l := s.data.toList) ⟨by rw [HL.out]; omega, by rw [HL.out]; omega, HZ.out, HA.out, by omega⟩)
                have hbig2 : ¬ 255 < (numD s.data.toList : Int) := by omega
                go_wp2
                go_ret2
                exact ⟨by rw [HN.out.1, HN.out.2]; rfl, hb⟩
    · have HN := Lib.hid (isDec_no (l := s.data.toList) (by rw [HL.out]; omega))
      have h3y : 3 < (s.size : Int) := by omega
      go_enter Tryd.func33, Tryd.ntmps33
      go_wp2
      go_ret2
      exact ⟨by rw [HN.out.1, HN.out.2]; rfl, Below.refl _ _⟩

/-- The cells of a row of n strings, the first of them filled. -/
def strCells (gs : List (List UInt8)) (n : Nat) : Array Value := ((gs ++ List.replicate (n - gs.length) []).map fun (g : List UInt8) => Value.string ⟨g.toArray⟩).toArray
theorem strCells_set (gs : List (List UInt8)) (n : Nat) (g : List UInt8) (h : gs.length < n) : (strCells gs n).setIfInBounds gs.length (.string ⟨g.toArray⟩) = strCells (gs ++ [g]) n := by
  unfold strCells
  obtain ⟨m, hm⟩ : ∃ m, n - gs.length = m + 1 := ⟨n - gs.length - 1, by omega⟩
  rw [List.length_append, List.length_singleton, show n - (gs.length + 1) = m by omega, hm, List.replicate_succ]
  simp
theorem strCells_at (gs : List (List UInt8)) (n k : Nat) (h : gs.length = k) (hk : k < n) : (strCells gs n)[k]? = some (.string ⟨#[]⟩) := by
  unfold strCells
  subst h
  rw [List.getElem?_toArray, List.getElem?_map, List.getElem?_append_right (Nat.le_refl _), Nat.sub_self, List.getElem?_replicate, if_pos (by omega)]; rfl
theorem strCells_get (gs : List (List UInt8)) (n k : Nat) (hk : k < gs.length) : (strCells gs n)[k]? = some (.string ⟨(gs[k]).toArray⟩) := by
  unfold strCells
  rw [List.getElem?_toArray, List.getElem?_map, List.getElem?_append_left hk, List.getElem?_eq_getElem hk]; rfl
theorem split_any (s : ByteArray) (c : UInt8) (bk n : Nat) (T : TypeId) (hs : s.size ≤ maxLen) (hn : 1 ≤ n) (hn8 : n ≤ 8) (w : World) (hB : HasB w bk T (strCells [] n)) :
    Calls Tryd.prog 32 #[.string s, .string ⟨#[c]⟩, .slice (some ⟨bk, 0, none⟩) n n] w fun e w' => ∃ gs : List (List UInt8), e = .returned (.bool (decide ((partsL c s.data.toList).length = n))) ∧ Kept (· = bk) w w' ∧ HasB w' bk T (strCells gs n) ∧ ((partsL c s.data.toList).length = n → gs = partsL c s.data.toList) := by
  unfold maxLen at hs
  go_enter Tryd.func32, Tryd.ntmps32
  go_wp2
  go_loopw [0, 14] (fun a i wr => ∃ (k : Nat) (gs : List (List UInt8)) (r : ByteArray), k ≤ n ∧ i = .int .i64 k ∧ a = .string r ∧ gs.length = k ∧ r.size ≤ s.size ∧ HasB wr bk T (strCells gs n) ∧ Kept (· = bk) w wr ∧ Hid ((k < n → partsL c s.data.toList = gs ++ partsL c r.data.toList) ∧ (k = n → partsL c s.data.toList = gs))) (fun _ i _ => n - (intOf i).toNat)
  case atStart => exact ⟨0, [], s, by omega, rfl, rfl, rfl, Nat.le_refl _, hB, Kept.refl _ _, Lib.hid ⟨fun _ => rfl, fun h => by omega⟩⟩
  case round =>
    obtain ⟨k, gs, r, hk, rfl, rfl, hg, hr, hA, hK, HP⟩ := hrel
    have HG := Lib.hid hg
    clear hg
    by_cases hlt : k < n
    · have HP1 := Lib.hid (HP.out.1 hlt)
      have hcell := HasB.cell hA k _ (strCells_at gs n k HG.out hlt)
      have hfr := HasB.free hA k
      have hrs : r.data.toList.length = r.size := by simp
      by_cases hl : k + 1 = n
      · have hl2 : ((k : Int) == (n : Int) - 1) = true := by simp; omega
        by_cases hc : c ∈ r.data.toList
        · have HC := Lib.hid (cut_eq c _ hc)
          have hT : cutT c r.data.toList = true := decide_eq_true hc
          have HD : Hid (decide ((partsL c s.data.toList).length = n) = false) := Lib.hid (decide_eq_false (by
            rw [HP1.out, HC.out, partsL_app c _ _ (cutA_not c _), List.length_append, List.length_cons, HG.out]
            have := partsL_len c (cutB c r.data.toList); omega))
          clear hc hrs
          go_wp2_with (go_at_call 40; refine (cut_any _ _ (by unfold maxLen; omega) _).mono ?_; rintro e w2 ⟨rfl, nn, rfl⟩)
          go_ret
          exact ⟨gs, by rw [HD.out]; rfl, hK.drewN nn, hA.drewN nn, fun h => absurd h (of_decide_eq_false HD.out)⟩
        · have HC := Lib.hid (cutA_none c _ hc)
          have hT : cutT c r.data.toList = false := decide_eq_false hc
          have HN := Lib.hid (partsL_none c _ hc)
          clear hc hrs
          go_wp2_with (go_at_call 40; refine (cut_any _ _ (by unfold maxLen; omega) _).mono ?_; rintro e w2 ⟨rfl, nn, rfl⟩)
          go_roundw
          case rel =>
            refine ⟨k + 1, gs ++ [cutA c r.data.toList], ⟨(cutB c r.data.toList).toArray⟩, by omega, by go_num, rfl, by simp [HG.out], ?_, ?_, ?_, Lib.hid ⟨fun h => by omega, fun _ => by rw [HP1.out, HN.out, HC.out.1]⟩⟩
            · rw [HC.out.2]; exact Nat.zero_le _
            · have := (hA.drewN nn).put k (.string ⟨(cutA c r.data.toList).toArray⟩)
              rw [← HG.out, strCells_set gs n _ (by rw [HG.out]; exact hlt), HG.out] at this
              exact this
            · exact (hK.drewN nn).setCell _ (.inr rfl) _
          case measure => simp [intOf]; omega
      · have hl2 : ((k : Int) == (n : Int) - 1) = false := by simp; omega
        by_cases hc : c ∈ r.data.toList
        · have HC := Lib.hid (cut_eq c _ hc)
          have hT : cutT c r.data.toList = true := decide_eq_true hc
          have HR : Hid ((cutB c r.data.toList).length ≤ s.size) := Lib.hid (by
            have := congrArg List.length HC.out
            rw [List.length_append, List.length_cons] at this; omega)
          clear hc hrs
          go_wp2_with (go_at_call 40; refine (cut_any _ _ (by unfold maxLen; omega) _).mono ?_; rintro e w2 ⟨rfl, nn, rfl⟩)
          go_roundw
          case rel =>
            refine ⟨k + 1, gs ++ [cutA c r.data.toList], ⟨(cutB c r.data.toList).toArray⟩, by omega, by go_num, rfl, by simp [HG.out], ?_, ?_, ?_, Lib.hid ⟨fun h => ?_, fun h => by omega⟩⟩
            · exact HR.out
            · have := (hA.drewN nn).put k (.string ⟨(cutA c r.data.toList).toArray⟩)
              rw [← HG.out, strCells_set gs n _ (by rw [HG.out]; exact hlt), HG.out] at this
              exact this
            · exact (hK.drewN nn).setCell _ (.inr rfl) _
            · rw [HP1.out]
              conv => lhs; arg 2; rw [HC.out, partsL_app c _ _ (cutA_not c _)]
              simp
          case measure => simp [intOf]; omega
        · have HC := Lib.hid (cutA_none c _ hc)
          have hT : cutT c r.data.toList = false := decide_eq_false hc
          have HN := Lib.hid (partsL_none c _ hc)
          have HD : Hid (decide ((partsL c s.data.toList).length = n) = false) := Lib.hid (decide_eq_false (by
            rw [HP1.out, HN.out, List.length_append, HG.out]; simp; omega))
          clear hc hrs
          go_wp2_with (go_at_call 40; refine (cut_any _ _ (by unfold maxLen; omega) _).mono ?_; rintro e w2 ⟨rfl, nn, rfl⟩)
          go_ret
          exact ⟨gs, by rw [HD.out]; rfl, hK.drewN nn, hA.drewN nn, fun h => absurd h (of_decide_eq_false HD.out)⟩
    · have hkn : k = n := by omega
      subst hkn
      have HP2 := Lib.hid (HP.out.2 rfl)
      go_wp2
      go_ret
      exact ⟨by rw [HP2.out, HG.out, decide_eq_true rfl]; rfl, hK, gs, hA, fun _ => HP2.out.symm⟩
end Go.Proofs.YtohnojdofilpnaaDoor
