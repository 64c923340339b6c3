/- The contract of cloakroomref07: List. -/
import Derived.Test.YtbnhneompibilaaRef07Walks
namespace Go.Proofs.Ytbnhneompibilaa.R07
open Go.RowKit
set_option linter.unusedVariables false
attribute [local go_sem ↓] Go.wp_at_zero Go.wp_at_succ

def cellsO (l : List Opx) : List Value := l.flatMap fun o => [.int .i64 (o.kd : Nat), .string o.da, .int .i64 (o.pl : Nat)]
theorem cellsO_append (a b : List Opx) : cellsO (a ++ b) = cellsO a ++ cellsO b := by simp [cellsO]
theorem cellsO_len : ∀ l : List Opx, (cellsO l).length = l.length * 3
  | [] => rfl
  | o :: l => by
    have := cellsO_len l
    show ([_, _, _] ++ cellsO l).length = _
    rw [List.length_append, this]; simp; omega
theorem cellsO_at : ∀ (l : List Opx) (j : Nat) (h : j < l.length), (cellsO l)[j * 3]? = some (.int .i64 (l[j].kd : Nat)) ∧ (cellsO l)[j * 3 + 1]? = some (.string l[j].da) ∧ (cellsO l)[j * 3 + 2]? = some (.int .i64 (l[j].pl : Nat))
  | o :: l, 0, _ => ⟨rfl, rfl, rfl⟩
  | o :: l, j + 1, h => by
    obtain ⟨a, b, c⟩ := cellsO_at l j (by simpa using h)
    rw [show (j + 1) * 3 = j * 3 + 3 by omega]
    exact ⟨a, b, c⟩
/-- The slice v holds the options l. -/
def OptsAt (w : World) (v : Value) (l : List Opx) : Prop :=
  (v = .slice none 0 0 ∧ l = []) ∨ ∃ g cap, v = .slice (some ⟨g, 0, none⟩) l.length cap ∧ g < w.heap.size ∧ ∀ (j : Nat) (h : j < l.length), w.cell? ⟨g, j * 3, none⟩ = some (.int .i64 (l[j].kd : Nat)) ∧ w.cell? ⟨g, j * 3 + 1, none⟩ = some (.string l[j].da) ∧ w.cell? ⟨g, j * 3 + 2, none⟩ = some (.int .i64 (l[j].pl : Nat))
theorem OptsAt.ofRow {w : World} {B t n : Nat} {v : Value} {l : List Opx} (h : w.ownsRow B t 3 v n (cellsO l)) : OptsAt w v l := by
  have hn : l.length = n := by have := h.1; rw [cellsO_len] at this; omega
  rcases h.2 with ⟨rfl, h0⟩ | ⟨g, cap, cur, rfl, _, hg, _, _, _, ht⟩
  · subst h0
    exact .inl ⟨rfl, List.eq_nil_of_length_eq_zero hn⟩
  · subst hn
    refine .inr ⟨g, cap, rfl, lt_of_block hg, fun j hj => ?_⟩
    obtain ⟨a, b, c⟩ := cellsO_at l j hj
    have key : ∀ (i : Nat) (u : Value), i < l.length * 3 → (cellsO l)[i]? = some u → w.cell? ⟨g, i, none⟩ = some u := fun i u hi hu => by
      rw [cell_of_row w g i cur t (0, 0) hg]
      rw [← ht, List.getElem?_take, if_pos hi] at hu
      simpa using hu
    exact ⟨key _ _ (by omega) a, key _ _ (by omega) b, key _ _ (by omega) c⟩
theorem OptsAt.below {w w' : World} {v : Value} {l : List Opx} (h : OptsAt w v l) (hb : Below w.heap.size w w') : OptsAt w' v l := by
  rcases h with h | ⟨g, cap, e, hg, hc⟩
  · exact .inl h
  · exact .inr ⟨g, cap, e, Nat.lt_of_lt_of_le hg hb.size, fun j hj => ⟨(hb.cell (p := ⟨g, j * 3, none⟩) hg).trans (hc j hj).1, (hb.cell (p := ⟨g, j * 3 + 1, none⟩) hg).trans (hc j hj).2.1, (hb.cell (p := ⟨g, j * 3 + 2, none⟩) hg).trans (hc j hj).2.2⟩⟩
theorem bt_at (s : ByteArray) (i : Nat) (h : i < s.size) : (s[i]'h).toNat = bt s i := by
  unfold bt
  rw [List.getD_eq_getElem?_getD, List.getElem?_eq_getElem (by rw [← size_list]; omega)]; rfl
theorem Try.infoO7 : (Try.prog.info? 52).map (fun i => (i.zero, i.size, i.bytes)) = some (some (.agg #[.int .i64 0, .string ⟨#[]⟩, .int .i64 0]), 3, 32) := by kernel_rfl
theorem opts_bad' {s : ByteArray} {k : Nat} {l : List Opx} (h : optsL s 0 = (optsL s k).map (l ++ ·)) (hk : k < s.size) (h0 : bt s k ≠ 0) (h1 : bt s k ≠ 1) (h2 : s.size ≤ k + 1 ∨ bt s (k + 1) < 2 ∨ s.size - k < bt s (k + 1)) : optsL s 0 = none := by
  rw [h, opts_bad hk h0 h1 h2]; rfl
theorem opts_next {s : ByteArray} {k : Nat} {l : List Opx} (h : optsL s 0 = (optsL s k).map (l ++ ·)) (hk : k < s.size) (h0 : bt s k ≠ 0) (h1 : bt s k ≠ 1) (h2 : ¬ (s.size ≤ k + 1 ∨ bt s (k + 1) < 2 ∨ s.size - k < bt s (k + 1))) :
    optsL s 0 = (optsL s (k + bt s (k + 1))).map ((l ++ [⟨bt s k, s.extract (k + 2) (k + bt s (k + 1)), k + 2⟩]) ++ ·) := by
  rw [h, opts_one hk h0 h1 h2]
  cases optsL s (k + bt s (k + 1)) with
  | none => rfl
  | some m => simp
set_option maxHeartbeats 2000000 in
theorem list_any (s : ByteArray) (hs : s.size ≤ 1099511627776) (w : World) :
    Calls Try.prog 15 #[.string s] w fun e w' => ∃ v, e = .returned (.tuple #[v, .int .i64 (optsE s)]) ∧ OptsAt w' v (optsV s) ∧ Below w.heap.size w w' := by
  obtain ⟨ti, hi, hz0, hz1, hz2⟩ := info_parts Try.infoO7
  go_enter Try.func15, Try.ntmps15
  go_wp2
  go_loopw [4, 5] (fun v i wr => ∃ (k : Nat) (l : List Opx), k ≤ s.size ∧ i = .int .i64 k ∧ l.length ≤ k ∧ wr.ownsRow w.heap.size 52 3 v l.length (cellsO l) ∧ Below w.heap.size w wr ∧ Hid (optsL s 0 = (optsL s k).map (l ++ ·))) (fun _ i _ => s.size - (intOf i).toNat)
  case atStart => exact ⟨0, [], by omega, rfl, by simp, World.ownsRow_nil _ _ _ _, Below.refl _ _, Lib.hid (by cases optsL s 0 <;> simp)⟩
  case round =>
    obtain ⟨k, l, hk, rfl, hll, hown, hb, HO⟩ := hrel
    by_cases hlt : k < s.size
    · have q0 := bt_at s k hlt
      have b0 := bt_lt s k
      have j0 : (k : Int) < s.size := by omega
      have j1 : (0 : Int) ≤ (k : Int) := by omega
      by_cases h0 : bt s k = 0
      · have n0 : (((bt s k : Nat) : Int) != 0) = false := by simp; omega
        have HE := Lib.hid (opts_some (s := s) (l := l) (by rw [HO.out, opts_end (.inr h0)]; simp))
        clear h0
        go_wp2
        go_ret2
        exact ⟨_, by rw [HE.out.2]; rfl, by rw [HE.out.1]; exact OptsAt.ofRow hown, hb⟩
      · have n0 : (((bt s k : Nat) : Int) != 0) = true := by simp; omega
        by_cases h1 : bt s k = 1
        · have n1 : (((bt s k : Nat) : Int) == 1) = true := by simp; omega
          have HN : Hid (optsL s 0 = (optsL s (k + 1)).map (l ++ ·)) := Lib.hid (by rw [HO.out, opts_pad hlt h1])
          clear h0 h1
          go_wp2
          go_roundw
          case rel => exact ⟨k + 1, l, by omega, by go_num, by omega, hown, hb, HN⟩
          case measure => simp [intOf]; omega
        · have n1 : (((bt s k : Nat) : Int) == 1) = false := by simp; omega
          have i2 : IntKind.i64.wrap ((k : Int) + 1) = (k : Int) + 1 := IntWalk.i64_in _ (by omega)
          by_cases h2 : s.size ≤ k + 1
          · have j2 : (s.size : Int) ≤ (k : Int) + 1 := by omega
            have HB := Lib.hid (opts_none (opts_bad' HO.out hlt h0 h1 (.inl h2)))
            clear h0 h1 h2
            go_wp2
            go_ret2
            exact ⟨_, by rw [HB.out.2]; rfl, by rw [HB.out.1]; exact .inl ⟨rfl, rfl⟩, hb⟩
          · have j2 : ¬ (s.size : Int) ≤ (k : Int) + 1 := by omega
            have hk1 : k + 1 < s.size := by omega
            have q1 := bt_at s (k + 1) hk1
            have b1 := bt_lt s (k + 1)
            have j3 : (k : Int) + 1 < s.size := by omega
            have j4 : (0 : Int) ≤ (k : Int) + 1 := by omega
            have i4 : ((k : Int) + 1).toNat = k + 1 := by omega
            have i5 : IntKind.i64.wrap ((s.size : Int) - (k : Int)) = (s.size : Int) - (k : Int) := IntWalk.i64_in _ (by omega)
            by_cases h3 : bt s (k + 1) < 2
            · have n2 : ((bt s (k + 1) : Nat) : Int) < 2 := by omega
              have HB := Lib.hid (opts_none (opts_bad' HO.out hlt h0 h1 (.inr (.inl h3))))
              clear h0 h1 h2 h3
              go_wp2
              go_ret2
              exact ⟨_, by rw [HB.out.2]; rfl, by rw [HB.out.1]; exact .inl ⟨rfl, rfl⟩, hb⟩
            · have n2 : ¬ ((bt s (k + 1) : Nat) : Int) < 2 := by omega
              by_cases h4 : s.size - k < bt s (k + 1)
              · have n3 : (s.size : Int) - (k : Int) < (bt s (k + 1) : Nat) := by omega
                have HB := Lib.hid (opts_none (opts_bad' HO.out hlt h0 h1 (.inr (.inr h4))))
                clear h0 h1 h2 h3 h4
                go_wp2
                go_ret2
                exact ⟨_, by rw [HB.out.2]; rfl, by rw [HB.out.1]; exact .inl ⟨rfl, rfl⟩, hb⟩
              · have n3 : ¬ (s.size : Int) - (k : Int) < (bt s (k + 1) : Nat) := by omega
                have HN := Lib.hid (opts_next HO.out hlt h0 h1 (by omega))
                have i6 : IntKind.i64.wrap ((k : Int) + 2) = (k : Int) + 2 := IntWalk.i64_in _ (by omega)
                have i7 : IntKind.i64.wrap ((k : Int) + (bt s (k + 1) : Nat)) = (k : Int) + (bt s (k + 1) : Nat) := IntWalk.i64_in _ (by omega)
                have i8 : (0 : Int) ≤ (k : Int) + 2 := by omega
                have i9 : (k : Int) + 2 ≤ (k : Int) + (bt s (k + 1) : Nat) := by omega
                have i10 : (k : Int) + (bt s (k + 1) : Nat) ≤ s.size := by omega
                have i11 : ((k : Int) + 2).toNat = k + 2 := by omega
                have i12 : ((k : Int) + (bt s (k + 1) : Nat)).toNat = k + bt s (k + 1) := by omega
                have i13 : IntKind.i64.wrap (bt s k : Nat) = (bt s k : Nat) := IntWalk.i64_in _ (by omega)
                clear h0 h1 h2 h3 h4
                go_wp2
                go_region_held3 (fun w' => True) (trivial) (first | (refine step_append_lies _ (by rfl) _ _ _ (by rfl) w.heap.size 52 ti _ 3 32 Try.underlying46 hi hz0 hz1 hz2 rfl (by omega) u4 l.length (cellsO l) (by rfl) ((hown.alloc _).drew) ⟨wr.heap.size, 0, none⟩ 1 1 [.int .i64 (bt s k : Nat), .string (s.extract (k + 2) (k + bt s (k + 1))), .int .i64 ((k : Int) + 2)] (by rfl) (by rfl) (World.news_of_block (cs := #[.int .i64 (bt s k : Nat), .string (s.extract (k + 2) (k + bt s (k + 1))), .int .i64 ((k : Int) + 2)]) (t := 52) (fr := (0, 0)) (heap_alloc_new wr _)) (by simp [Value.oneCell']) (by omega) (by unfold maxLen; omega) (by omega) (by simp; have := hb.size; omega) (wr.heap.size + 1) (by simp) ?_; intro g cap w1 hown1 hgrow hat hg))
                all_goals
                  have hb1 := ((hb.alloc hb.size _).drew).grown hgrow (by simp; have := hb.size; omega) (fun j hj => (hown.lt j hj).1)
                  have R : Hid (w1.ownsRow w.heap.size 52 3 (.slice (some ⟨g, 0, none⟩) (l.length + 1) cap) (l ++ [(⟨bt s k, s.extract (k + 2) (k + bt s (k + 1)), k + 2⟩ : Opx)]).length (cellsO (l ++ [(⟨bt s k, s.extract (k + 2) (k + bt s (k + 1)), k + 2⟩ : Opx)]))) := by
                    rw [cellsO_append, List.length_append, List.length_singleton]
                    exact Lib.hid hown1
                  clear hown hown1 hgrow q0 q1
                  go_wp2
                  go_roundw
                  case rel => exact ⟨k + bt s (k + 1), l ++ [(⟨bt s k, s.extract (k + 2) (k + bt s (k + 1)), k + 2⟩ : Opx)], by omega, by go_num, by simp; omega, R.out, hb1, HN⟩
                  case measure => simp [intOf]; omega
    · obtain rfl : k = s.size := by omega
      have HE := Lib.hid (opts_some (s := s) (l := l) (by rw [HO.out, opts_end (.inl (Nat.le_refl _))]; simp))
      go_wp2
      go_ret2
      exact ⟨_, by rw [HE.out.2]; rfl, by rw [HE.out.1]; exact OptsAt.ofRow hown, hb⟩
end Go.Proofs.Ytbnhneompibilaa.R07
