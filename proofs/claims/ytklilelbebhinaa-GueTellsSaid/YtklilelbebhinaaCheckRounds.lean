/- The contracts of package check that go through the iterator: words, Sum, Of, Right, Turned. -/
import Derived.Test.YtklilelbebhinaaCheckSet
import Derived.RangeFuncNested
import Derived.RangeFuncBound
import Derived.RangeFuncBox
import Derived.RangeFuncCalls
import Derived.RangeFuncLeaves
import Derived.Shelf.Abstract
import Derived.Shelf.RegionOpen
import Derived.OwnWalkIn
import Derived.TacticsInMore
import Derived.LoopNIn
import Derived.LoopIn
namespace Go.Proofs.Ytklilelbebhinaa
open Go.RowKit Go.Shelf
set_option linter.unusedVariables false
attribute [local go_sem] Oper.semAt_some

/-- The offset of round x (of one that does not come: 0). -/
def atW (s : ByteArray) (x : Nat) : Nat := if 2 * x < s.size then 2 * x else 0
theorem atW_is {s : ByteArray} {x : Nat} (h : 2 * x < s.size) : atW s x = 2 * x := if_pos h
theorem atW_lt {s : ByteArray} (x : Nat) (h : 0 < s.size) : atW s x < s.size := by unfold atW; split <;> omega
/-- Block B is as it was. -/
def SameB (B : Nat) (W W' : World) : Prop := W'.heap[B]? = W.heap[B]?
theorem SameB.trans {B : Nat} {X Y Z : World} (h : SameB B X Y) (k : SameB B Y Z) : SameB B X Z := Eq.trans k h
theorem SameB.cell {B o : Nat} {W W' : World} {v : Value} (h : SameB B W W') (hc : W.cell? ⟨B, o, none⟩ = some v) : W'.cell? ⟨B, o, none⟩ = some v := (World.cell?_of_block (w := W) (a := ⟨B, o, none⟩) h).trans hc
theorem SameB.putObj {B : Nat} {w : World} (hB : B < w.heap.size) (W : World) (l : Nat) (o o' : Obj) (hl : w.heap.size ≤ l) (_ : W.heap[l]? = some o) (_ : o.isCells = false) (_ : o.isWalk = false) : SameB B W (W.putObj l o') := World.putObj_heap_other (by omega)
theorem SameB.setCell {B : Nat} (W : World) (p : Addr) (u : Value) (h : B ≠ p.block) : SameB B W (W.setCell p u) := Below.heap_setCell W p u B h
def encW (s : ByteArray) (x : Nat) : Array Value := #[.int .i64 (atW s x : Nat), .int .i64 (wd s.data.toList (atW s x) : Nat)]

set_option maxRecDepth 100000 in
set_option maxHeartbeats 2000000 in
/-- The iterator over the words of s: for every loop body that keeps the string's block. -/
theorem words1_in (l Bs : Nat) (s : ByteArray) (hs : s.size ≤ 1099511627776) (n : Nat) (hn : 1 ≤ n) (J Jx : List Nat → World → Prop)
    (hY : ∀ pre x W, J pre W → pre.length < (s.size + 1) / 2 → YieldAt Fence.wide (n - 1) Try.prog l (encW s x) W fun e W' =>
      (e = .returned (.bool true) ∧ J (pre ++ [x]) W' ∧ SameB Bs W W') ∨ (e = .returned (.bool false) ∧ Jx (pre ++ [x]) W'))
    (W : World) (hBs : W.cell? ⟨Bs, 0, none⟩ = some (.string s)) (h0 : J [] W) :
    CallsIn Fence.wide n Try.prog 37 #[.func (.yield l) #[] #[], .pointer (some ⟨Bs, 0, none⟩)] W fun e W' => (∃ v, e = .returned v) ∧
      ((∃ ys, ys = List.range ((s.size + 1) / 2) ∧ J ys W') ∨ (∃ pre, (∃ k, k ≤ (s.size + 1) / 2 ∧ pre = List.range k) ∧ Jx pre W')) := by
  refine callsIn_of_wp Try.func37 rfl trivial ?_ rfl
  simp only [Try.ntmps37, List.size_toArray, List.length_cons, List.length_nil, Nat.reduceAdd, Nat.reduceSub, Array.replicate_succ, Array.replicate_zero, List.push_toArray, List.append_toArray, List.nil_append, List.cons_append]
  gi_wp2
  gi_loopw [3] (fun i wr => ∃ k : Nat, k ≤ (s.size + 1) / 2 ∧ i = .int .i64 (2 * k : Nat) ∧ J (List.range k) wr ∧ SameB Bs W wr)
    (fun i _ => s.size + 1 - (intOf i).toNat)
  case atStart => exact ⟨0, Nat.zero_le _, rfl, h0, rfl⟩
  case round =>
    obtain ⟨k, hk, rfl, hJs, hnx⟩ := hrel
    have hcx : wr.cell? ⟨Bs, 0, none⟩ = some (.string s) := hnx.cell hBs
    by_cases hlt : 2 * k < s.size
    · obtain ⟨fn, tmps, assign, body, hy, hR⟩ := hY _ k wr hJs (by rw [List.length_range]; omega)
      rw [encW, atW_is hlt, show ((2 * k : Nat) : Int) = 2 * (k : Int) by omega] at hy
      gi_wp2_with (refine ⟨trivial, ?_⟩; gi_at_call 38; refine (callsIn_wide.2 (word_any s (2 * k) (by unfold maxLen; omega) hlt _)).mono ?_; rintro e w' ⟨rfl, rfl⟩)
      refine hR.mono ?_
      rintro e W3 (⟨rfl, hJ3, hk3⟩ | ⟨rfl, hJx3⟩)
      · gi_wp2
        go_roundw
        case rel => exact ⟨k + 1, by omega, by go_num, by rw [List.range_succ]; exact hJ3, SameB.trans hnx hk3⟩
        case measure => simp [intOf]; omega
      · gi_wp2
        refine bodyPost_ret (results_none rfl _ _ _) rfl ?_
        exact ⟨⟨_, rfl⟩, .inr ⟨_, ⟨k + 1, by omega, (List.range_succ).symm⟩, hJx3⟩⟩
    · obtain rfl : k = (s.size + 1) / 2 := by omega
      gi_wp2
      go_end0
      exact ⟨⟨_, rfl⟩, .inl ⟨_, rfl, hJs⟩⟩

theorem words_stops (Bs : Nat) (s : ByteArray) (hs : s.size ≤ 1099511627776) (n : Nat) (hn : 1 ≤ n) (w : World) (hBs : Bs < w.heap.size) (hc : w.cell? ⟨Bs, 0, none⟩ = some (.string s)) :
    SeqStopsK Fence.wide n Try.prog 37 #[.pointer (some ⟨Bs, 0, none⟩)] (encW s) (SameB Bs) (fun ys => ys = List.range ((s.size + 1) / 2))
      (fun pre => ∃ k, k ≤ (s.size + 1) / 2 ∧ pre = List.range k) ((s.size + 1) / 2) w := fun l J Jx W hW _ _ hY h0 =>
  words1_in l Bs s hs n hn J Jx hY W ((hW.cell (p := ⟨Bs, 0, none⟩) hBs).trans hc) h0

theorem words_any (s : ByteArray) (w : World) :
    Calls Try.prog 33 #[.string s] w fun e w' => e = .returned (.func (.func 37) #[] #[.pointer (some ⟨w.heap.size, 0, none⟩)]) ∧ w' = w.alloc (.cells #[.string s] 9) := by
  go_enter Try.func33, Try.ntmps33
  go_wp2
  go_ret
  exact ⟨rfl, rfl⟩

/-- What the sum's cell holds. -/
def sumW (s : ByteArray) (pre : List Nat) : Nat := pre.foldl (fun a x => a + wd s.data.toList (atW s x)) 0
theorem sumW_snoc (s : ByteArray) (pre : List Nat) (x : Nat) : sumW s (pre ++ [x]) = sumW s pre + wd s.data.toList (atW s x) := by simp [sumW]
theorem sumW_le (s : ByteArray) (pre : List Nat) : sumW s pre ≤ 65535 * pre.length := by
  refine snoc_ind (P := fun pre => sumW s pre ≤ 65535 * pre.length) (Nat.le_refl _) (fun l a h => ?_) pre
  have := wd_lt s.data.toList (atW s a)
  rw [sumW_snoc, List.length_append, List.length_singleton]; omega
theorem sumW_range (s : ByteArray) : ∀ k, k ≤ (s.size + 1) / 2 → sumW s (List.range k) = tot s.data.toList k
  | 0, _ => rfl
  | k + 1, h => by rw [List.range_succ, sumW_snoc, sumW_range s k (by omega), atW_is (by omega), tot]
theorem sumW_all (s : ByteArray) : sumW s (List.range ((s.size + 1) / 2)) = tw s.data.toList := by
  rw [sumW_range s _ (Nat.le_refl _), ← tot_tw]
  rfl

set_option maxRecDepth 100000 in
set_option maxHeartbeats 2000000 in
theorem sum_any (s : ByteArray) (hs : s.size ≤ 1099511627776) (w : World) :
    Calls Try.prog 26 #[.string s] w fun e w' => e = .returned (.int .i64 (sumL s.data.toList : Nat)) ∧ Below w.heap.size w w' := by
  have HA := Lib.hid (sumW_all s)
  have HL : tw s.data.toList ≤ 9223372036854775807 := Nat.le_trans (tw_le _) (by have : s.data.toList.length = s.size := rfl; omega)
  refine (callsIn_wide (n := 3)).1 ?_
  refine callsIn_of_wp_marks Try.func26 rfl trivial ?_ rfl
  simp only [Try.ntmps26, List.size_toArray, List.length_cons, List.length_nil, Nat.reduceAdd, Nat.reduceSub, Array.replicate_succ, Array.replicate_zero, List.push_toArray, List.append_toArray, List.nil_append, List.cons_append]
  gi_wp2_with (refine ⟨trivial, ?_⟩; gi_at_call 33; refine (callsIn_wide.2 (words_any s _)).mono ?_; rintro e w' ⟨rfl, rfl⟩)
  have bS := Boxed.new w 3 (.int .i64 0)
  have bN := Boxed.new (w.alloc (.cells #[.int .i64 0] 3)) 9 (.string s)
  rw [World.size_alloc] at bN
  have hB0 : Below w.heap.size w ((w.alloc (.cells #[.int .i64 0] 3)).alloc (.cells #[.string s] 9)) := ((Below.refl _ w).alloc (Nat.le_refl _) _).alloc (by simp) _
  refine wpIn_rangeFunc_ownF rfl (by omega) (gf := 37) (lb := #[.pointer (some ⟨w.heap.size + 1, 0, none⟩)]) rfl trivial (enters_of Try.func37 (by kernel_rfl) rfl)
    (words_stops (w.heap.size + 1) s hs _ (by omega) _ (by simp) bN.cell) (fun h k => SameB.trans h k) (SameB.putObj (by simp)) (Below.refl _ _) (fun _ => rfl)
    (fun pre W => (W.cell? ⟨w.heap.size, 0, none⟩ = some (.int .i64 (sumW s pre : Nat)) ∧ W.frozen? ⟨w.heap.size, 0, none⟩ = false) ∧ Below w.heap.size w W)
    (fun _ _ _ => False)
    (OwnFrom.and (Own.from (fun s A B row hs hg hr => ⟨cell_kept hs.1 hg hr, (frozen_kept hs.1 hg hr).trans hs.2⟩) _) (ownFrom_below (Nat.le_refl _) (by simp; omega)))
    (fun _ _ _ _ _ hs _ _ => hs)
    ⟨⟨(bS.alloc _).cell, (bS.alloc _).frozen⟩, hB0⟩
    (fun x => { tmps := #[.string s, undef, .int .i64 0, .pointer (some ⟨w.heap.size, 0, none⟩), undef, .int .i64 (wd s.data.toList (atW s x) : Nat), .string s, .func (.func 37) #[] #[.pointer (some ⟨w.heap.size + 1, 0, none⟩)], .int .i64 (atW s x : Nat), .int .i64 (wd s.data.toList (atW s x) : Nat), undef, undef, undef, undef, undef], defers := [] }) ?assign ?body ?done ?stop
  case assign =>
    intro l x W K hK
    rw [encW]
    gi_wp2
    exact hK
  case body =>
    rintro l pre x W ⟨⟨hc, hf⟩, hB⟩ hlen
    have b1 := sumW_le s pre
    have b2 := wd_lt s.data.toList (atW s x)
    have HS := Lib.hid (sumW_snoc s pre x)
    gi_wp2
    exact ⟨KeepsOthers.setCell _ _ _, SameB.setCell _ _ _ (by simp), ⟨by rw [HS.out]; exact World.cell?_setCell_same' _ _ _ (by rw [hc]; rfl), by rw [World.frozen?_setCell]; exact hf⟩, hB.setCell (p := ⟨w.heap.size, 0, none⟩) (Nat.le_refl _) _⟩
  case done =>
    rintro D ys W hD rfl ⟨⟨hc, _⟩, hB⟩ hK
    rw [HA.out] at hc
    gi_wp2_with (refine ⟨trivial, ?_⟩; gi_at_call 34; refine (callsIn_wide.2 (fold_any (tw s.data.toList : Nat) (by omega) (by omega) _)).mono ?_; rintro e w' ⟨rfl, rfl⟩)
    refine ⟨by simp, .inl ⟨_, _, rfl, run_takeDeferred hK, ?_⟩⟩
    exact ⟨_, results_tmp rfl _ _ _, by simp [sumL], hB.trans (belowK_b (w := w) (Nat.le_refl _) W D _ _ (by simp at hD; omega) hK rfl rfl)⟩
  case stop =>
    rintro D c pre W _ _ h _
    exact h.elim
end Go.Proofs.Ytklilelbebhinaa
