/- The contracts of package udp: isPort, checksum, joined. -/
import Derived.Test.YtkbfiikhflehaaaBuilderWalks
import Derived.Test.YtkbfiikhflehaaaShelf
import Derived.Test.YtkbfiikhflehaaaEightCells
import Derived.Test.YtkbfiikhflehaaaOctetWalks
import Derived.Test.YtkbfiikhflehaaaCheckTurned
namespace Go.Proofs.Ytkbfiikhflehaaa
open Go.RowKit
set_option linter.unusedVariables false
attribute [local go_sem ↓] Go.wp_at_zero Go.wp_at_succ

theorem isPort_any (n : Int) (w : World) :
    Calls Try.prog 12 #[.int .i64 n] w fun e w' => e = .returned (.bool (port n)) ∧ w = w' := by
  by_cases h : 0 ≤ n
  · by_cases h2 : n ≤ 65535
    · have hr : Hid (port n = true) := Lib.hid (decide_eq_true ⟨h, h2⟩)
      go_enter Try.func12, Try.ntmps12
      go_wp2
      go_ret
      exact ⟨ret_bool hr.out.symm, rfl⟩
    · have hr : Hid (port n = false) := Lib.hid (decide_eq_false (fun hh => h2 hh.2))
      go_enter Try.func12, Try.ntmps12
      go_wp2
      go_ret
      exact ⟨ret_bool hr.out.symm, rfl⟩
  · have hr : Hid (port n = false) := Lib.hid (decide_eq_false (fun hh => h hh.1))
    go_enter Try.func12, Try.ntmps12
    go_wp2
    go_ret
    exact ⟨ret_bool hr.out.symm, rfl⟩
/-- The checksum of bytes, 65535 in place of 0. -/
def ckB (l : List UInt8) : Nat := if 65535 - sumL l = 0 then 65535 else 65535 - sumL l
theorem ckB_bd (l : List UInt8) : 0 < ckB l ∧ ckB l ≤ 65535 := by unfold ckB; split <;> omega
theorem checksum_any (s : ByteArray) (hs : s.size ≤ 1099511627776) (w : World) :
    Calls Try.prog 14 #[.string s] w fun e w' => e = .returned (.int .i64 (ckB s.data.toList : Nat)) ∧ Below w.heap.size w w' := by
  have HO := Lib.hid (of_any s hs)
  have hb := sumL_le s.data.toList
  by_cases h : 65535 - sumL s.data.toList = 0
  · have hr : Hid (ckB s.data.toList = 65535) := Lib.hid (if_pos h)
    have e0 : (65535 : Int) - (sumL s.data.toList : Nat) = 0 := by omega
    rw [e0] at HO
    clear h hb e0
    go_enter Try.func14, Try.ntmps14
    go_wp2_with (go_at_call 32; (with_reducible refine (HO.out _).mono ?_); rintro e w' ⟨rfl, hq⟩)
    go_ret
    exact ⟨ret_int (by rw [hr.out]; rfl), hq⟩
  · have hr : Hid (ckB s.data.toList = 65535 - sumL s.data.toList) := Lib.hid (if_neg h)
    obtain ⟨c, hc, hc0⟩ : ∃ c : Nat, c = 65535 - sumL s.data.toList ∧ c ≠ 0 := ⟨_, rfl, h⟩
    have e0 : (65535 : Int) - (sumL s.data.toList : Nat) = c := by omega
    rw [e0] at HO
    rw [← hc] at hr
    have v0 : ((c : Int) != 0) = true := by simp; omega
    clear h hb e0 hc hc0
    go_enter Try.func14, Try.ntmps14
    go_wp2_with (go_at_call 32; (with_reducible refine (HO.out _).mono ?_); rintro e w' ⟨rfl, hq⟩)
    go_ret
    exact ⟨ret_int (by rw [hr.out]), hq⟩

/-- The bytes that are written before round k. -/
def joinK (sp dp n c : Int) (k : Nat) : List UInt8 := ([sp, dp, n, c].take k).flatMap (fun v => numL v 2)
theorem joinK_len (sp dp n c : Int) (k : Nat) : (joinK sp dp n c k).length ≤ 8 := by
  unfold joinK
  rw [List.length_flatMap]
  have : ((List.take k [sp, dp, n, c]).map fun v => (numL v 2).length) = (List.take k [sp, dp, n, c]).map fun _ => 2 := List.map_congr_left (fun v _ => numL_len v 2 (by omega) (by omega))
  rw [this, List.map_const', List.sum_replicate_nat, List.length_take]
  have : min k [sp, dp, n, c].length ≤ 4 := Nat.min_le_right _ _
  omega
/-- The bytes of a datagram with this checksum. -/
def joinL (sp dp c : Int) (p : ByteArray) : List UInt8 := joinK sp dp (8 + (p.size : Int)) c 4 ++ p.data.toList
theorem joinL_zero (sp dp : Int) (p : ByteArray) : joinL sp dp 0 p = body8 sp dp p := by
  have e0 : numL 0 2 = [0, 0] := by decide
  unfold joinL joinK body8
  simp [e0]
theorem putN (v : Int) (w : World) :
    Calls Try.prog 30 #[.int .u64 (IntKind.u64.wrap v), .int .i64 2] w fun e w' => e = .returned (.string ⟨(numL v 2).toArray⟩) ∧ Below w.heap.size w w' := by
  obtain ⟨h0, h1⟩ := wrapU_bd v
  exact put_any _ 2 h0 h1 w
set_option maxHeartbeats 1000000 in
theorem joined_any (sp dp c : Int) (p : ByteArray) (hp : p.size ≤ 1000000) (w : World) :
    Calls Try.prog 13 #[.agg #[.int .i64 (sp), .int .i64 (dp)], .int .i64 c, .string p] w fun e w' => e = .returned (.string ⟨(joinL sp dp c p).toArray⟩) ∧ Below w.heap.size w w' := by
  have HA := (HasB.new w 33 #[.int .i64 (sp), .int .i64 (dp)]).alloc (.cells #[.pointer none, .slice none 0 0] 59)
  have HN := heap_alloc_new (w.alloc (.cells #[.int .i64 (sp), .int .i64 (dp)] 33)) (.cells #[.pointer none, .slice none 0 0] 59)
  have hL := ((Below.refl w.heap.size w).alloc (Nat.le_refl _) (.cells #[.int .i64 (sp), .int .i64 (dp)] 33)).alloc (by simp) (.cells #[.pointer none, .slice none 0 0] 59)
  rw [World.size_alloc] at HN
  obtain ⟨N, hN, hN2⟩ : ∃ N : Int, N = 8 + (p.size : Int) ∧ N = ((8 + p.size : Nat) : Int) := ⟨_, rfl, by omega⟩
  have HJ : Hid (joinK sp dp N c 4 ++ p.data.toList = joinL sp dp c p) := Lib.hid (by unfold joinL; rw [hN])
  go_enter Try.func13, Try.ntmps13
  go_wp2_with fail
  rw [← hN, hN2]
  refine (Try.Builder_Grow_fresh (w.heap.size + 1) (w.heap.size + 1) (8 + p.size) _ (Nat.le_refl _) HN (by simp) (by omega)).mono ?_
  rintro e w1 ⟨rfl, hB1, hb1⟩
  rw [← hN2]
  have hb : Below w.heap.size w w1 := hL.trans (hb1.mono (by omega))
  have hA := HasB.below HA hb1 (by omega)
  have c0 := HasB.cell hA 0 _ rfl
  have c1 := HasB.cell hA 1 _ rfl
  have hs1 := hb1.size
  rw [World.size_alloc, World.size_alloc] at hs1
  have HB : Hid (Lib.BuilderAt 59 5 (w.heap.size + 1) (w.heap.size + 1) (.pointer (some ⟨w.heap.size + 1, 0, none⟩)) (cellsB (joinK sp dp N c 0)) w1) := Lib.hid hB1
  have HP := Lib.hid hN
  have HP2 := Lib.hid hN2
  clear hB1 hb1 hA HA HN hL hN hN2
  go_wp2_with fail
  go_loopw [23] (fun i wr => ∃ k : Nat, k ≤ 4 ∧ i = .int .i64 k ∧ Hid (Lib.BuilderAt 59 5 (w.heap.size + 1) (w.heap.size + 1) (.pointer (some ⟨w.heap.size + 1, 0, none⟩)) (cellsB (joinK sp dp N c k)) wr) ∧ Below w.heap.size w wr ∧ w.heap.size + 2 ≤ wr.heap.size) (fun i _ => 4 - (intOf i).toNat)
  case atStart => exact ⟨0, by omega, rfl, HB, hb, by omega⟩
  case round =>
    clear HB hb c0 c1 hs1
    obtain ⟨k, hk, rfl, HB, hb, hs⟩ := hrel
    by_cases hlt : k < 4
    · have hix : ∀ (j : Nat) (v : Value) (hj : j < 4) (hv : (#[.int .i64 sp, .int .i64 dp, .int .i64 N, .int .i64 c] : Array Value)[j]? = some v) (W : World), (Instr.index 61 (.agg #[.int .i64 sp, .int .i64 dp, .int .i64 N, .int .i64 c]) (.int .i64 j)).run Try.prog W = .ok v W :=
        fun j v hj hv W => run_index_agg (P := Try.prog) 61 3 4 _ .i64 j v Try.underlying61 hj hv (by intro w; simp [go_sem]) (by intro w; simp [go_sem]) W
      obtain rfl | rfl | rfl | rfl : k = 0 ∨ k = 1 ∨ k = 2 ∨ k = 3 := by omega
      · have hx : ∀ W : World, (Instr.index 61 (.agg #[.int .i64 sp, .int .i64 dp, .int .i64 N, .int .i64 c]) (.int .i64 0)).run Try.prog W = .ok (.int .i64 sp) W := hix 0 _ (by omega) rfl
        clear hix
        go_wp2_with fail
        (with_reducible refine (putN sp _).mono ?_)
        rintro e w2 ⟨rfl, hb2⟩
        have hs2 := hb2.size
        have H2 := Lib.hid (builder_below HB.out hb2)
        have hl2 := joinK_len sp dp N c 0
        have hn2 := numL_len sp 2 (by omega) (by omega)
        have hJ : Hid (joinK sp dp N c 0 ++ numL sp 2 = joinK sp dp N c (0 + 1)) := Lib.hid (by unfold joinK; simp)
        go_wp2_with fail
        refine (wstr_any (w.heap.size + 1) (w.heap.size + 1) _ ⟨(numL sp 2).toArray⟩ _ H2.out (by rw [cellsB_length]; show _ + (numL sp 2).length ≤ _; omega) (by omega)).mono ?_
        rintro e w3 ⟨rfl, h3, hb3⟩
        rw [show cellsB (joinK sp dp N c 0) ++ cellsB ((⟨(numL sp 2).toArray⟩ : ByteArray).data.toList) = cellsB (joinK sp dp N c (0 + 1)) by rw [← hJ.out, cellsB_append]] at h3
        have H3 := Lib.hid h3
        have hs3 := hb3.size
        clear h3
        go_wp2
        go_roundw
        case rel => exact ⟨0 + 1, by omega, by go_num, H3, (hb.trans (hb2.mono (by omega))).trans (hb3.mono (by omega)), by omega⟩
        case measure => simp [intOf]
      · have hx : ∀ W : World, (Instr.index 61 (.agg #[.int .i64 sp, .int .i64 dp, .int .i64 N, .int .i64 c]) (.int .i64 1)).run Try.prog W = .ok (.int .i64 dp) W := hix 1 _ (by omega) rfl
        clear hix
        go_wp2_with fail
        (with_reducible refine (putN dp _).mono ?_)
        rintro e w2 ⟨rfl, hb2⟩
        have hs2 := hb2.size
        have H2 := Lib.hid (builder_below HB.out hb2)
        have hl2 := joinK_len sp dp N c 1
        have hn2 := numL_len dp 2 (by omega) (by omega)
        have hJ : Hid (joinK sp dp N c 1 ++ numL dp 2 = joinK sp dp N c (1 + 1)) := Lib.hid (by unfold joinK; simp)
        go_wp2_with fail
        refine (wstr_any (w.heap.size + 1) (w.heap.size + 1) _ ⟨(numL dp 2).toArray⟩ _ H2.out (by rw [cellsB_length]; show _ + (numL dp 2).length ≤ _; omega) (by omega)).mono ?_
        rintro e w3 ⟨rfl, h3, hb3⟩
        rw [show cellsB (joinK sp dp N c 1) ++ cellsB ((⟨(numL dp 2).toArray⟩ : ByteArray).data.toList) = cellsB (joinK sp dp N c (1 + 1)) by rw [← hJ.out, cellsB_append]] at h3
        have H3 := Lib.hid h3
        have hs3 := hb3.size
        clear h3
        go_wp2
        go_roundw
        case rel => exact ⟨1 + 1, by omega, by go_num, H3, (hb.trans (hb2.mono (by omega))).trans (hb3.mono (by omega)), by omega⟩
        case measure => simp [intOf]
      · have hx : ∀ W : World, (Instr.index 61 (.agg #[.int .i64 sp, .int .i64 dp, .int .i64 N, .int .i64 c]) (.int .i64 2)).run Try.prog W = .ok (.int .i64 N) W := hix 2 _ (by omega) rfl
        clear hix
        go_wp2_with fail
        (with_reducible refine (putN N _).mono ?_)
        rintro e w2 ⟨rfl, hb2⟩
        have hs2 := hb2.size
        have H2 := Lib.hid (builder_below HB.out hb2)
        have hl2 := joinK_len sp dp N c 2
        have hn2 := numL_len N 2 (by omega) (by omega)
        have hJ : Hid (joinK sp dp N c 2 ++ numL N 2 = joinK sp dp N c (2 + 1)) := Lib.hid (by unfold joinK; simp)
        go_wp2_with fail
        refine (wstr_any (w.heap.size + 1) (w.heap.size + 1) _ ⟨(numL N 2).toArray⟩ _ H2.out (by rw [cellsB_length]; show _ + (numL N 2).length ≤ _; omega) (by omega)).mono ?_
        rintro e w3 ⟨rfl, h3, hb3⟩
        rw [show cellsB (joinK sp dp N c 2) ++ cellsB ((⟨(numL N 2).toArray⟩ : ByteArray).data.toList) = cellsB (joinK sp dp N c (2 + 1)) by rw [← hJ.out, cellsB_append]] at h3
        have H3 := Lib.hid h3
        have hs3 := hb3.size
        clear h3
        go_wp2
        go_roundw
        case rel => exact ⟨2 + 1, by omega, by go_num, H3, (hb.trans (hb2.mono (by omega))).trans (hb3.mono (by omega)), by omega⟩
        case measure => simp [intOf]
      · have hx : ∀ W : World, (Instr.index 61 (.agg #[.int .i64 sp, .int .i64 dp, .int .i64 N, .int .i64 c]) (.int .i64 3)).run Try.prog W = .ok (.int .i64 c) W := hix 3 _ (by omega) rfl
        clear hix
        go_wp2_with fail
        (with_reducible refine (putN c _).mono ?_)
        rintro e w2 ⟨rfl, hb2⟩
        have hs2 := hb2.size
        have H2 := Lib.hid (builder_below HB.out hb2)
        have hl2 := joinK_len sp dp N c 3
        have hn2 := numL_len c 2 (by omega) (by omega)
        have hJ : Hid (joinK sp dp N c 3 ++ numL c 2 = joinK sp dp N c (3 + 1)) := Lib.hid (by unfold joinK; simp)
        go_wp2_with fail
        refine (wstr_any (w.heap.size + 1) (w.heap.size + 1) _ ⟨(numL c 2).toArray⟩ _ H2.out (by rw [cellsB_length]; show _ + (numL c 2).length ≤ _; omega) (by omega)).mono ?_
        rintro e w3 ⟨rfl, h3, hb3⟩
        rw [show cellsB (joinK sp dp N c 3) ++ cellsB ((⟨(numL c 2).toArray⟩ : ByteArray).data.toList) = cellsB (joinK sp dp N c (3 + 1)) by rw [← hJ.out, cellsB_append]] at h3
        have H3 := Lib.hid h3
        have hs3 := hb3.size
        clear h3
        go_wp2
        go_roundw
        case rel => exact ⟨3 + 1, by omega, by go_num, H3, (hb.trans (hb2.mono (by omega))).trans (hb3.mono (by omega)), by omega⟩
        case measure => simp [intOf]
    · obtain rfl : k = 4 := by omega
      have hl := joinK_len sp dp N c 4
      go_wp2_with fail
      refine (wstr_any (w.heap.size + 1) (w.heap.size + 1) _ p _ HB.out (by rw [cellsB_length]; omega) (by omega)).mono ?_
      rintro e w3 ⟨rfl, h3, hb3⟩
      rw [← cellsB_append, HJ.out] at h3
      have H3 := Lib.hid h3
      have hs3 := hb3.size
      have hb4 := hb.trans (hb3.mono (by omega))
      clear h3 hb3 hb HB
      go_wp2_with fail
      refine (Try.Builder_String_any_k (w.heap.size + 1) (w.heap.size + 1) (joinL sp dp c p) _ (Lib.IsBuilderF.of (.inr H3.out)) (by omega)).mono ?_
      rintro e w5 ⟨rfl, _, hb5, _⟩
      go_wp2
      go_ret
      exact ⟨rfl, hb4.trans (hb5.mono (by omega))⟩
end Go.Proofs.Ytkbfiikhflehaaa
