/- The contracts of package addr: Right, Put, Text, Less, Four. -/
import Derived.Test.YtohnojdofilpnaaDoorAddrReads
import Derived.Deep.RegionHeld3
import Derived.Deep.DrawnRows
import Derived.Lib.AppendIntMem
namespace Go.Proofs.YtohnojdofilpnaaDoor
open Go.RowKit
set_option linter.unusedVariables false
attribute [local go_sem ↓] Go.wp_at_zero Go.wp_at_succ

theorem right_any (v : Bool) (hi lo : Int) (w : World) :
    Calls Tryd.prog 10 #[.agg #[.bool v, .int .u64 hi, .int .u64 lo]] w fun e w' => e = .returned (.bool (rightA v hi lo)) ∧ Below w.heap.size w w' := by
  have hq : Below w.heap.size w (w.alloc (.cells #[.bool v, .int .u64 hi, .int .u64 lo] 24)) := (Below.refl _ _).alloc (Nat.le_refl _) _
  go_enter Tryd.func10, Tryd.ntmps10
  go_wp2
  all_goals
    go_ret
    refine ⟨ret_bool ?_, (Below.refl _ _).alloc (Nat.le_refl _) _⟩
    simp_all [rightA]
theorem putL8 (n : Int) : putL n 8 = bigB 8 n.toNat := by unfold putL; rw [if_pos (by omega)]; rfl
theorem putL4 (n : Int) : putL n 4 = bigB 4 n.toNat := by unfold putL; rw [if_pos (by omega)]; rfl
theorem str_app (a b : List UInt8) : (⟨a.toArray⟩ : ByteArray) ++ ⟨b.toArray⟩ = ⟨(a ++ b).toArray⟩ := by
  apply ByteArray.ext; simp
theorem put_addr (v : Bool) (hi lo : Int) (h0 : 0 ≤ hi) (h1 : hi < 18446744073709551616) (l0 : 0 ≤ lo) (l1 : lo < 18446744073709551616) (w : World) :
    Calls Tryd.prog 12 #[.agg #[.bool v, .int .u64 hi, .int .u64 lo]] w fun e w' => e = .returned (.string ⟨(addrB v hi lo).toArray⟩) ∧ Below w.heap.size w w' := by
  have hq : Below w.heap.size w (w.alloc (.cells #[.bool v, .int .u64 hi, .int .u64 lo] 24)) := (Below.refl _ _).alloc (Nat.le_refl _) _
  have hX := HasB.new w 24 #[.bool v, .int .u64 hi, .int .u64 lo]
  cases v with
  | true =>
    have HA : Hid (addrB true hi lo = putL hi 8 ++ putL lo 8) := Lib.hid (by rw [putL8, putL8]; rfl)
    have f1 : (9223372036854775807 < (putL hi 8).length + (putL lo 8).length) = False := eq_false (by rw [putL8, putL8, bigB_length, bigB_length]; omega)
    have c1 := HasB.cell hX 1 (.int .u64 hi) rfl
    have c2 := HasB.cell hX 2 (.int .u64 lo) rfl
    have hlt := hX.lt
    go_enter Tryd.func12, Tryd.ntmps12
    go_wp2
    go_region_held3 (fun w' => w'.cell? ⟨w.heap.size, 1, none⟩ = some (.int .u64 hi) ∧ w'.cell? ⟨w.heap.size, 2, none⟩ = some (.int .u64 lo)) (first | exact ⟨c1, c2⟩ | exact ⟨(hb7.cell (p := ⟨w.heap.size, 1, none⟩) (Nat.lt_of_lt_of_le hlt hb6.size)).trans ((hb6.cell (p := ⟨w.heap.size, 1, none⟩) hlt).trans c1), (hb7.cell (p := ⟨w.heap.size, 2, none⟩) (Nat.lt_of_lt_of_le hlt hb6.size)).trans ((hb6.cell (p := ⟨w.heap.size, 2, none⟩) hlt).trans c2)⟩ | exact ⟨(hb6.cell (p := ⟨w.heap.size, 1, none⟩) hlt).trans c1, (hb6.cell (p := ⟨w.heap.size, 2, none⟩) hlt).trans c2⟩) (first | (go_at_call 27; with_reducible refine (put_any hi 8 h0 h1 _).mono ?_; rintro e w6 ⟨rfl, hb6⟩) | (go_at_call 27; with_reducible refine (put_any lo 8 l0 l1 _).mono ?_; rintro e w7 ⟨rfl, hb7⟩))
    all_goals
      have hq7 := (hq.trans ((below_ofDrew hb6).mono (Nat.le_of_lt hlt))).trans (hb7.mono (Nat.le_trans (Nat.le_of_lt hlt) hb6.size))
      go_wp2
      go_ret
      exact ⟨by rw [HA.out, ← str_app]; rfl, hq7⟩
  | false =>
    cases hr : rightA false hi lo with
    | true =>
      have HA : Hid (addrB false hi lo = putL lo 4) := Lib.hid (by unfold addrB; rw [hr, putL4]; rfl)
      go_enter Tryd.func12, Tryd.ntmps12
      go_wp2_with (first | (go_at_call 10; refine (right_any false hi lo _).mono ?_; rintro e w1 ⟨rfl, hb1⟩; replace hq := hq.trans (hb1.mono (Nat.le_of_lt hX.lt)); replace hX := HasB.below hX hb1 hX.lt; have c2 := HasB.cell hX 2 (.int .u64 lo) rfl) | (go_at_call 27; refine (put_any lo 4 l0 l1 _).mono ?_; rintro e w7 ⟨rfl, hb7⟩; replace hq := hq.trans (hb7.mono (Nat.le_of_lt hX.lt))) | fail)
      go_ret
      exact ⟨ret_str HA.out.symm, hq⟩
    | false =>
      have HA := Lib.hid (addrB_no false hi lo hr)
      go_enter Tryd.func12, Tryd.ntmps12
      go_wp2_with (first | (go_at_call 10; refine (right_any false hi lo _).mono ?_; rintro e w1 ⟨rfl, hb1⟩; replace hq := hq.trans (hb1.mono (Nat.le_of_lt hX.lt)); replace hX := HasB.below hX hb1 hX.lt) | fail)
      go_ret
      exact ⟨by rw [HA.out]; rfl, hq⟩
theorem less_any (v : Bool) (hi lo : Int) (v' : Bool) (hi' lo' : Int) (w : World) :
    Calls Tryd.prog 16 #[.agg #[.bool v, .int .u64 hi, .int .u64 lo], .agg #[.bool v', .int .u64 hi', .int .u64 lo']] w fun e w' => e = .returned (.bool (lessA v hi lo v' hi' lo')) ∧ Below w.heap.size w w' := by
  have hq : Below w.heap.size w ((w.alloc (.cells #[.bool v, .int .u64 hi, .int .u64 lo] 24)).alloc (.cells #[.bool v', .int .u64 hi', .int .u64 lo'] 24)) := ((Below.refl _ _).alloc (Nat.le_refl _) _).alloc (by simp) _
  go_enter Tryd.func16, Tryd.ntmps16
  go_wp2
  all_goals
    go_ret
    refine ⟨ret_bool ?_, hq⟩
    unfold lessA
    cases v <;> cases v' <;> simp_all
theorem itoa_any (x : Nat) (hx : x < 256) (w : World) (hT : Lib.TabIs Tryd.prog w "internal/strconv.uint64pow10" .u64 Lib.pow10Tab) :
    Calls Tryd.prog 37 #[.int .i64 x] w fun e w' => e = .returned (.string ⟨(digL x).toArray⟩) ∧ Below w.heap.size w w' := by
  refine (Tryd.strconv_Itoa x (by omega) (by omega) w hT).mono ?_
  rintro e w' ⟨rfl, k, os, rfl⟩
  refine ⟨?_, Lib.below_grow _ _ (Nat.le_refl _) _ _⟩
  unfold Lib.itoa
  rw [if_neg (by omega), Int.toNat_natCast, digL_dec x (by omega)]
theorem digL_len (n : Nat) : (digL n).length ≤ 3 := by unfold digL; split <;> (try split) <;> simp
theorem text4_len (b : List UInt8) (h : b.length = 4) : (text4 b).length ≤ 100 := by
  match b, h with
  | [x, y, z, u], _ =>
    have h1 := digL_len x.toNat
    have h2 := digL_len y.toNat
    have h3 := digL_len z.toNat
    have h4 := digL_len u.toNat
    unfold text4
    rw [List.map_cons, Lib.join_cons]
    simp [Lib.joinTail]
    omega
theorem text6_len (b : List UInt8) (h : b.length = 16) : (text6 b).length ≤ 100 := by
  have h2 := (grp_flat b h).2
  have hl : ∀ i, i < 8 → (hexL (grp b i)).length = 4 := fun i hi => by rw [hexL_length, h2 i hi]
  unfold text6
  rw [range8, Lib.join_cons]
  simp [Lib.joinTail, hl 0, hl 1, hl 2, hl 3, hl 4, hl 5, hl 6, hl 7]
/-- The library's table of powers of ten, whatever is done behind block B. -/
def Tab (B : Nat) (w : World) : Prop := Lib.TabBelow Tryd.prog B w "internal/strconv.uint64pow10" .u64 Lib.pow10Tab
theorem Tab.on {B : Nat} {w w1 : World} (h : Tab B w) (hb : Below B w w1) : Tab B w1 := Lib.TabBelow.on h hb
theorem Tab.is {B : Nat} {w : World} (h : Tab B w) : Lib.TabIs Tryd.prog w "internal/strconv.uint64pow10" .u64 Lib.pow10Tab := Lib.TabBelow.here h
theorem textFour_any (s : ByteArray) (hs : s.size = 4) (w : World) (B : Nat) (hB : B ≤ w.heap.size) (hT : Tab B w) :
    Calls Tryd.prog 28 #[.string s] w fun e w' => e = .returned (.string ⟨(text4 s.data.toList).toArray⟩) ∧ Below w.heap.size w w' := by
  have hX := HasB.new w 45 (strCells [] 4)
  have hq : Below w.heap.size w (w.alloc (.cells (strCells [] 4) 45)) := (Below.refl _ _).alloc (Nat.le_refl _) _
  rw [str4] at hq
  have HL : Hid (s.data.toList.length = 4) := Lib.hid (by simpa using hs)
  have HT := Lib.hid hT
  clear hT
  go_enter Tryd.func28, Tryd.ntmps28
  go_wp2
  go_loopw [5] (fun i wr => ∃ k : Nat, k ≤ 4 ∧ i = .int .i64 k ∧ HasB wr w.heap.size 45 (strCells ((s.data.toList.take k).map fun x => digL x.toNat) 4) ∧ Below w.heap.size w wr) (fun i _ => 4 - (intOf i).toNat)
  case atStart => exact ⟨0, by omega, rfl, hX, hq⟩
  case round =>
    obtain ⟨k, hk, rfl, hA, hb⟩ := hrel
    by_cases hlt : k < 4
    · have hlt2 : k < s.size := by omega
      have hlt3 : (k : Int) < s.size := by omega
      have hlen : ((s.data.toList.take k).map fun x => digL x.toNat).length = k := by rw [List.length_map, List.length_take, HL.out]; omega
      have HLEN := Lib.hid hlen
      have HS : Hid ((s.data.toList.take (k + 1)).map (fun x => digL x.toNat) = (s.data.toList.take k).map (fun x => digL x.toNat) ++ [digL (s[k]'hlt2).toNat]) := Lib.hid (by rw [List.take_succ_eq_append_getElem (by rw [HL.out]; exact hlt), List.map_append]; rfl)
      have hTr := Lib.hid (HT.out.on (hb.mono hB)).is
      have hbt := (s[k]'hlt2).toNat_lt
      have hz := hA.lt
      clear hlen
      go_wp2_with (first | (go_at_call 37; refine (itoa_any _ hbt _ hTr.out).mono ?_; rintro e w2 ⟨rfl, hb2⟩; have hA2 := HasB.below hA hb2 hz; have hc2 := HasB.cell hA2 k _ (strCells_at _ 4 k HLEN.out hlt); have hf2 := HasB.free hA2 k) | fail)
      go_roundw
      case rel =>
        refine ⟨k + 1, by omega, by go_num, ?_, (hb.trans (hb2.mono (Nat.le_of_lt hz))).setCell (Nat.le_refl _) _⟩
        have := hA2.put k (.string ⟨(digL (s[k]'hlt2).toNat).toArray⟩)
        rw [HS.out]
        have e := strCells_set ((s.data.toList.take k).map fun x => digL x.toNat) 4 (digL (s[k]'hlt2).toNat) (by rw [HLEN.out]; exact hlt)
        rw [HLEN.out] at e
        rw [e] at this
        exact this
      case measure => simp [intOf]; omega
    · have hk4 : k = 4 := by omega
      subst hk4
      have ht : s.data.toList.take 4 = s.data.toList := List.take_of_length_le (by rw [HL.out]; exact Nat.le_refl _)
      rw [ht] at hA
      have hjl := text4_len s.data.toList HL.out
      have hz := hA.lt
      clear ht
      go_wp2_with (first | (go_at_call 35; refine (join_any (s.data.toList.map fun x => digL x.toNat) 4 (by rw [List.length_map]; exact HL.out) w.heap.size 45 ⟨#[46]⟩ _ hA (by omega) (Nat.le_trans hjl (by decide))).mono ?_; rintro e w2 ⟨rfl, hb2⟩) | fail)
      go_ret
      exact ⟨rfl, hb.trans (hb2.mono (Nat.le_of_lt hz))⟩
theorem grp_str (s : ByteArray) (k : Nat) : (s.extract ((k : Int) * 2).toNat ((k : Int) * 2 + 2).toNat).data.toList = grp s.data.toList k := by
  rw [ext_str, show ((k : Int) * 2).toNat = 2 * k by omega, show ((k : Int) * 2 + 2).toNat = 2 * k + 2 by omega, show 2 * k + 2 - 2 * k = 2 by omega]; rfl
theorem textSix_any (s : ByteArray) (hs : s.size = 16) (w : World) :
    Calls Tryd.prog 29 #[.string s] w fun e w' => e = .returned (.string ⟨(text6 s.data.toList).toArray⟩) ∧ Below w.heap.size w w' := by
  have hX := HasB.new w 51 (strCells [] 8)
  have hq : Below w.heap.size w (w.alloc (.cells (strCells [] 8) 51)) := (Below.refl _ _).alloc (Nat.le_refl _) _
  rw [str8] at hq
  have HL : Hid (s.data.toList.length = 16) := Lib.hid (by simpa using hs)
  have HSZ := Lib.hid hs
  clear hs
  go_enter Tryd.func29, Tryd.ntmps29
  go_wp2
  go_loopw [6] (fun i wr => ∃ k : Nat, k ≤ 8 ∧ i = .int .i64 k ∧ HasB wr w.heap.size 51 (strCells ((List.range k).map fun j => hexL (grp s.data.toList j)) 8) ∧ Below w.heap.size w wr) (fun i _ => 8 - (intOf i).toNat)
  case atStart => exact ⟨0, by omega, rfl, hX, hq⟩
  case round =>
    obtain ⟨k, hk, rfl, hA, hb⟩ := hrel
    by_cases hlt : k < 8
    · have b1 : (0 : Int) ≤ (k : Int) * 2 := by omega
      have b2 : (k : Int) * 2 ≤ (k : Int) * 2 + 2 := by omega
      have b3 : (k : Int) * 2 + 2 ≤ s.size := by rw [HSZ.out]; omega
      have HLEN : Hid (((List.range k).map fun j => hexL (grp s.data.toList j)).length = k) := Lib.hid (by rw [List.length_map, List.length_range])
      have HS : Hid ((List.range (k + 1)).map (fun j => hexL (grp s.data.toList j)) = (List.range k).map (fun j => hexL (grp s.data.toList j)) ++ [hexL (grp s.data.toList k)]) := Lib.hid (by rw [List.range_succ, List.map_append]; rfl)
      have HG := Lib.hid (grp_str s k)
      have hz := hA.lt
      have hh : (s.extract ((k : Int) * 2).toNat ((k : Int) * 2 + 2).toNat).size ≤ 1099511627776 := by rw [ByteArray.size_extract, HSZ.out]; omega
      go_wp2_with (first | (go_at_call 38; refine (hex_any _ hh _).mono ?_; rintro e w2 ⟨rfl, hb2⟩; rw [HG.out]; have hA2 := HasB.below hA hb2 hz; have hc2 := HasB.cell hA2 k _ (strCells_at _ 8 k HLEN.out hlt); have hf2 := HasB.free hA2 k) | fail)
      go_roundw
      case rel =>
        refine ⟨k + 1, by omega, by go_num, ?_, (hb.trans (hb2.mono (Nat.le_of_lt hz))).setCell (Nat.le_refl _) _⟩
        have := hA2.put k (.string ⟨(hexL (grp s.data.toList k)).toArray⟩)
        rw [HS.out]
        have e := strCells_set ((List.range k).map fun j => hexL (grp s.data.toList j)) 8 (hexL (grp s.data.toList k)) (by rw [HLEN.out]; exact hlt)
        rw [HLEN.out] at e
        rw [e] at this
        exact this
      case measure => simp [intOf]; omega
    · have hk8 : k = 8 := by omega
      subst hk8
      have hjl := text6_len s.data.toList HL.out
      have hz := hA.lt
      go_wp2_with (first | (go_at_call 35; refine (join_any ((List.range 8).map fun j => hexL (grp s.data.toList j)) 8 (by simp) w.heap.size 51 ⟨#[58]⟩ _ hA (by omega) (Nat.le_trans hjl (by decide))).mono ?_; rintro e w2 ⟨rfl, hb2⟩) | fail)
      go_ret
      exact ⟨rfl, hb.trans (hb2.mono (Nat.le_of_lt hz))⟩
theorem addrB_lens (v : Bool) (hi lo : Int) : (addrB v hi lo).length = 0 ∨ (addrB v hi lo).length = 4 ∨ (addrB v hi lo).length = 16 := by
  cases h : rightA v hi lo with
  | true => have := addrB_len v hi lo h; cases v <;> simp_all
  | false => rw [addrB_no v hi lo h]; exact .inl rfl
theorem text_any (v : Bool) (hi lo : Int) (h0 : 0 ≤ hi) (h1 : hi < 18446744073709551616) (l0 : 0 ≤ lo) (l1 : lo < 18446744073709551616) (w : World) (hT : Tab w.heap.size w) :
    Calls Tryd.prog 14 #[.agg #[.bool v, .int .u64 hi, .int .u64 lo]] w fun e w' => e = .returned (.string ⟨(textA v hi lo).toArray⟩) ∧ Below w.heap.size w w' := by
  have hq : Below w.heap.size w (w.alloc (.cells #[.bool v, .int .u64 hi, .int .u64 lo] 24)) := (Below.refl _ _).alloc (Nat.le_refl _) _
  have hX := HasB.new w 24 #[.bool v, .int .u64 hi, .int .u64 lo]
  have hz := hX.lt
  have HL := Lib.hid (addrB_lens v hi lo)
  have HT := Lib.hid hT
  clear hT
  rcases HL.out with hl | hl | hl
  · have HX : Hid (textA v hi lo = []) := Lib.hid (by unfold textA textB; rw [if_neg (by omega), if_neg (by omega)])
    go_enter Tryd.func14, Tryd.ntmps14
    go_wp2_with (first | (go_at_call 12; refine (put_addr v hi lo h0 h1 l0 l1 _).mono ?_; rintro e w1 ⟨rfl, hb1⟩; replace hq := hq.trans (hb1.mono (Nat.le_of_lt hz))) | fail)
    go_ret
    exact ⟨by rw [HX.out]; rfl, hq⟩
  · have HX : Hid (textA v hi lo = text4 (addrB v hi lo)) := Lib.hid (textB_4 _ hl)
    go_enter Tryd.func14, Tryd.ntmps14
    go_wp2_with (first | (go_at_call 12; refine (put_addr v hi lo h0 h1 l0 l1 _).mono ?_; rintro e w1 ⟨rfl, hb1⟩; replace hq := hq.trans (hb1.mono (Nat.le_of_lt hz)); have z1 := hb1.size) | (go_at_call 28; refine (textFour_any _ (by simpa [ByteArray.size] using hl) _ w.heap.size (by omega) (HT.out.on hq)).mono ?_; rintro e w2 ⟨rfl, hb2⟩) | fail)
    go_ret
    exact ⟨ret_str HX.out.symm, hq.trans (hb2.mono (by omega))⟩
  · have HX : Hid (textA v hi lo = text6 (addrB v hi lo)) := Lib.hid (textB_6 _ hl)
    go_enter Tryd.func14, Tryd.ntmps14
    go_wp2_with (first | (go_at_call 12; refine (put_addr v hi lo h0 h1 l0 l1 _).mono ?_; rintro e w1 ⟨rfl, hb1⟩; replace hq := hq.trans (hb1.mono (Nat.le_of_lt hz)); have z1 := hb1.size) | (go_at_call 29; refine (textSix_any _ (by simpa [ByteArray.size] using hl) _).mono ?_; rintro e w2 ⟨rfl, hb2⟩) | fail)
    go_ret
    exact ⟨ret_str HX.out.symm, hq.trans (hb2.mono (by omega))⟩
theorem four_any (n : Int) (w : World) :
    Calls Tryd.prog 18 #[.int .u32 n] w fun e w' => e = .returned (.agg #[.bool false, .int .u64 0, .int .u64 (IntKind.u64.wrap n)]) ∧ Below w.heap.size w w' := by
  have hq : Below w.heap.size w (w.alloc (.cells #[.bool false, .int .u64 0, .int .u64 0] 24)) := (Below.refl _ _).alloc (Nat.le_refl _) _
  go_enter Tryd.func18, Tryd.ntmps18
  go_wp2
  go_returns
  exact ⟨rfl, (Below.refl _ _).alloc (Nat.le_refl _) _⟩
end Go.Proofs.YtohnojdofilpnaaDoor
