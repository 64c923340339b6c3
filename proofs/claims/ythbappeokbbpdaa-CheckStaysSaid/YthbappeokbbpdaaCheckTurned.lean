/- The contracts of package check that go through the iterator: Of, Right, Turned. -/
import Derived.Test.YthbappeokbbpdaaCheckRounds
namespace Go.Proofs.Ythbappeokbbpdaa
open Go.RowKit Go.Shelf
set_option linter.unusedVariables false
attribute [local go_sem] Oper.semAt_some

theorem of_any (s : ByteArray) (hs : s.size ≤ 1099511627776) (w : World) :
    Calls Try.prog 9 #[.string s] w fun e w' => e = .returned (.int .i64 (65535 - (sumL s.data.toList : Nat))) ∧ Below w.heap.size w w' := by
  have b := sumL_le s.data.toList
  go_enter Try.func9, Try.ntmps9
  go_wp2_with (go_at_call 7; refine (sum_any s hs _).mono ?_; rintro e w1 ⟨rfl, hb⟩)
  go_ret
  exact ⟨rfl, hb⟩

theorem right_any (s : ByteArray) (hs : s.size ≤ 1099511627776) (w : World) :
    Calls Try.prog 11 #[.string s] w fun e w' => e = .returned (.bool ((sumL s.data.toList : Int) == 65535)) ∧ Below w.heap.size w w' := by
  have b := sumL_le s.data.toList
  go_enter Try.func11, Try.ntmps11
  go_wp2_with (go_at_call 7; refine (sum_any s hs _).mono ?_; rintro e w1 ⟨rfl, hb⟩)
  go_ret
  exact ⟨rfl, hb⟩

/-- What the check's cell holds. -/
def turnW (s t : ByteArray) (c : Int) (pre : List Nat) : Int := pre.foldl (fun a x => turnN a (wd s.data.toList (atW s x) : Nat) (wd t.data.toList (atW s x) : Nat)) c
theorem turnW_snoc (s t : ByteArray) (c : Int) (pre : List Nat) (x : Nat) : turnW s t c (pre ++ [x]) = turnN (turnW s t c pre) (wd s.data.toList (atW s x) : Nat) (wd t.data.toList (atW s x) : Nat) := by simp [turnW]
theorem turnW_range (s t : ByteArray) (c : Int) : ∀ k, k ≤ (s.size + 1) / 2 → turnW s t c (List.range k) = turnsN c s.data.toList t.data.toList k
  | 0, _ => rfl
  | k + 1, h => by rw [List.range_succ, turnW_snoc, turnW_range s t c k (by omega), atW_is (by omega), turnsN]
theorem turnW_all (s t : ByteArray) (c : Int) (h : s.size = t.size) (h2 : s.size % 2 = 0) : turnW s t c (List.range ((s.size + 1) / 2)) = turnedL c s.data.toList t.data.toList := by
  rw [turnW_range s t c _ (Nat.le_refl _), turnedL, if_pos ⟨h, h2⟩, show s.data.toList.length = s.size from rfl, show (s.size + 1) / 2 = s.size / 2 by omega]


set_option maxRecDepth 100000 in
set_option maxHeartbeats 2000000 in
theorem turned_even (c : Int) (s t : ByteArray) (hs : s.size ≤ 1099511627776) (h : s.size = t.size) (h2 : s.size % 2 = 0) (w : World) :
    Calls Try.prog 14 #[.int .i64 c, .string s, .string t] w fun e w' => e = .returned (.int .i64 (turnedL c s.data.toList t.data.toList)) ∧ Below w.heap.size w w' := by
  have HA := Lib.hid (turnW_all s t c h h2)
  have e1 : ((s.size : Int) == (t.size : Int)) = true := by rw [h]; simp
  have e2 : (s.size : Int).tmod 2 = 0 := by rw [Int.tmod_eq_emod_of_nonneg (by omega)]; omega
  refine (callsIn_wide (n := 3)).1 ?_
  refine callsIn_of_wp_marks Try.func14 rfl trivial ?_ rfl
  simp only [Try.ntmps14, List.size_toArray, List.length_cons, List.length_nil, Nat.reduceAdd, Nat.reduceSub, Array.replicate_succ, Array.replicate_zero, List.push_toArray, List.append_toArray, List.nil_append, List.cons_append]
  gi_wp2_with (refine ⟨trivial, ?_⟩; gi_at_call 18; refine (callsIn_wide.2 (words_any s _)).mono ?_; rintro e w' ⟨rfl, rfl⟩)
  have bC := Boxed.new w 3 (.int .i64 c)
  have bT := Boxed.new (w.alloc (.cells #[.int .i64 c] 3)) 9 (.string t)
  have bN := Boxed.new ((w.alloc (.cells #[.int .i64 c] 3)).alloc (.cells #[.string t] 9)) 9 (.string s)
  simp only [World.size_alloc] at bT bN
  have hB0 : Below w.heap.size w (((w.alloc (.cells #[.int .i64 c] 3)).alloc (.cells #[.string t] 9)).alloc (.cells #[.string s] 9)) := (((Below.refl _ w).alloc (Nat.le_refl _) _).alloc (by simp) _).alloc (by simp; omega) _
  refine wpIn_rangeFunc_ownF rfl (by omega) (gf := 29) (lb := #[.pointer (some ⟨w.heap.size + 1 + 1, 0, none⟩)]) rfl trivial (enters_of Try.func29 (by kernel_rfl) rfl)
    (words_stops (w.heap.size + 1 + 1) s hs _ (by omega) _ (by simp) bN.cell) (fun h k => SameB.trans h k) (SameB.putObj (by simp)) (Below.refl _ _) (fun _ => rfl)
    (fun pre W => (W.cell? ⟨w.heap.size, 0, none⟩ = some (.int .i64 (turnW s t c pre)) ∧ W.frozen? ⟨w.heap.size, 0, none⟩ = false ∧ W.cell? ⟨w.heap.size + 1, 0, none⟩ = some (.string t)) ∧ Below w.heap.size w W)
    (fun _ _ _ => False)
    (OwnFrom.and (Own.from (fun s A B row hs hg hr => ⟨cell_kept hs.1 hg hr, (frozen_kept hs.1 hg hr).trans hs.2.1, cell_kept hs.2.2 hg hr⟩) _) (ownFrom_below (Nat.le_refl _) (by simp; omega)))
    (fun _ _ _ _ _ hs _ _ => hs)
    ⟨⟨((bC.alloc _).alloc _).cell, ((bC.alloc _).alloc _).frozen, (bT.alloc _).cell⟩, hB0⟩
    (fun x => { tmps := #[.int .i64 c, .string s, .string t, .pointer (some ⟨w.heap.size, 0, none⟩), undef, .pointer (some ⟨w.heap.size + 1, 0, none⟩), .int .i64 0, .int .i64 (atW s x : Nat), .int .i64 (wd s.data.toList (atW s x) : Nat),
      .string s, .int .i64 t.size, .string t, .int .i64 t.size, .bool false, .bool false, .string s, .int .i64 t.size, .int .i64 ((t.size : Int) % 2), .bool false, .bool false, undef, .string s,
      .func (.func 29) #[] #[.pointer (some ⟨w.heap.size + 1 + 1, 0, none⟩)], .int .i64 (atW s x : Nat), .int .i64 (wd s.data.toList (atW s x) : Nat), undef, undef, undef, undef, undef, undef, undef], defers := [] }) ?assign ?body ?done ?stop
  case assign =>
    intro l x W K hK
    rw [encW]
    gi_wp2
    exact hK
  case body =>
    rintro l pre x W ⟨⟨hc, hf, ht⟩, hB⟩ hlen
    have b1 : atW s x < t.size := by rw [← h]; exact atW_lt x (by omega)
    have HS := Lib.hid (turnW_snoc s t c pre x)
    have hmx : Try.prog.follows .mixedOrders = true := by kernel_rfl
    gi_wp2
    gi_region_with_o (first | (refine ⟨trivial, ?_⟩; gi_at_call 24; refine (CallsIn.inRound l (callsIn_wide.2 (word_any t (atW s x) (by unfold maxLen; omega) b1 _))).mono ?_; rintro e w' ⟨rfl, rfl⟩) | (refine ⟨trivial, ?_⟩; gi_at_call 12; refine (CallsIn.inRound l (callsIn_wide.2 (turn_any _ _ _ _))).mono ?_; rintro e w' ⟨rfl, rfl⟩))
    all_goals gi_wp2
    all_goals exact ⟨(KeepsOthers.setCell _ _ _).trans (KeepsOthers.drew _), SameB.setCell _ _ _ (by show _ ≠ w.heap.size; omega), ⟨by rw [HS.out]; exact World.cell?_setCell_same' _ _ _ (by rw [hc]; rfl), by rw [frozen_drew_own, World.frozen?_setCell]; exact hf, (SameB.setCell (B := w.heap.size + 1) W ⟨w.heap.size, 0, none⟩ _ (by show _ ≠ w.heap.size; omega)).cell ht⟩, (hB.setCell (p := ⟨w.heap.size, 0, none⟩) (Nat.le_refl _) _).drew⟩
  case done =>
    rintro D ys W hD rfl ⟨⟨hc, _, _⟩, hB⟩ hK
    rw [HA.out] at hc
    gi_wp2
    refine ⟨by simp, .inl ⟨_, _, rfl, run_takeDeferred hK, ?_⟩⟩
    exact ⟨_, results_tmp rfl _ _ _, rfl, hB.trans (belowK_b (w := w) (Nat.le_refl _) W D _ _ (by simp at hD; omega) hK rfl rfl)⟩
  case stop =>
    rintro D c pre W _ _ h _
    exact h.elim

theorem turned_any (c : Int) (s t : ByteArray) (hs : s.size ≤ 1099511627776) (ht : t.size ≤ 1099511627776) (w : World) :
    Calls Try.prog 14 #[.int .i64 c, .string s, .string t] w fun e w' => e = .returned (.int .i64 (turnedL c s.data.toList t.data.toList)) ∧ Below w.heap.size w w' := by
  by_cases h : s.size = t.size ∧ s.size % 2 = 0
  · exact turned_even c s t hs h.1 h.2 w
  · have HR := Lib.hid (turnedL_no c h)
    by_cases h1 : s.size = t.size
    · have e1 : ((s.size : Int) == (t.size : Int)) = true := by rw [h1]; simp
      have e2 : (s.size : Int).tmod 2 = 1 := by rw [Int.tmod_eq_emod_of_nonneg (by omega)]; omega
      have e3 : ((t.size : Int) % 2 != 0) = true := by simp; omega
      go_enter Try.func14, Try.ntmps14
      go_wp2
      go_ret
      exact ⟨ret_int HR.out.symm, ((Below.refl _ w).alloc (Nat.le_refl _) _).alloc (by simp) _⟩
    · have e1 : ((s.size : Int) != (t.size : Int)) = true := by simp; omega
      have e3 : ((s.size : Int) == (t.size : Int)) = false := by simp; omega
      go_enter Try.func14, Try.ntmps14
      go_wp2
      go_ret
      exact ⟨ret_int HR.out.symm, ((Below.refl _ w).alloc (Nat.le_refl _) _).alloc (by simp) _⟩
end Go.Proofs.Ythbappeokbbpdaa
