/- The contracts of package tcp: sizeOf, the iterator over options and offsets, isList. -/
import Derived.Test.YtbnhneompibilaaTcpWalks
import Derived.Test.YtbnhneompibilaaCheckRounds
import Derived.RangeFuncRecord
namespace Go.Proofs.Ytbnhneompibilaa
open Go.RowKit Go.Shelf
set_option linter.unusedVariables false
attribute [local go_sem] Oper.semAt_some

/-- The length of the option at k, or -1. -/
def sizeN (s : ByteArray) (k : Nat) : Int := if s.size ≤ k + 1 ∨ bt s (k + 1) < 2 ∨ s.size - k < bt s (k + 1) then -1 else (bt s (k + 1) : Nat)
theorem get1 (s : ByteArray) (k : Nat) : getN s ((k : Int) + 1) 1 = (if s.size ≤ k + 1 then 0 else (bt s (k + 1) : Nat) : Int) := by
  by_cases h : s.size ≤ k + 1
  · rw [if_pos h, getN_no (by omega)]
  · rw [if_neg h, getN_yes (by omega) (by omega) (by omega) (by omega)]
    have := bt_num s (k + 1) (by omega)
    rw [show ((k : Int) + 1).toNat = k + 1 by omega, show (1 : Int).toNat = 1 from rfl, this]
theorem sizeOf_any (s : ByteArray) (k : Nat) (hs : s.size ≤ 1099511627776) (hk : k < s.size) (w : World) :
    Calls Try.prog 57 #[.string s, .int .i64 k] w fun e w' => e = .returned (.int .i64 (sizeN s k)) ∧ w = w' := by
  have hG := get_any s ((k : Int) + 1) 1 (by unfold maxLen; omega) (by omega) (by omega)
  rw [get1] at hG
  have x1 : IntKind.i64.wrap ((k : Int) + 1) = (k : Int) + 1 := IntWalk.i64_in _ (by omega)
  have x2 : IntKind.i64.wrap ((s.size : Int) - (k : Int)) = (s.size : Int) - (k : Int) := IntWalk.i64_in _ (by omega)
  have b0 := bt_lt s (k + 1)
  by_cases h1 : s.size ≤ k + 1
  · rw [if_pos h1] at hG
    have HG := Lib.hid hG
    have HR : Hid (sizeN s k = -1) := Lib.hid (if_pos (.inl h1))
    clear hG
    go_enter Try.func57, Try.ntmps57
    go_wp2_with (first | (go_at_call 42; (with_reducible refine (HG.out _).mono ?_); rintro e w' ⟨rfl, rfl⟩) | fail)
    go_ret
    exact ⟨ret_int HR.out.symm, rfl⟩
  · rw [if_neg h1] at hG
    have HG := Lib.hid hG
    have x3 : IntKind.i64.wrap ((bt s (k + 1) : Nat) : Int) = (bt s (k + 1) : Nat) := IntWalk.i64_in _ (by omega)
    clear hG
    by_cases h2 : bt s (k + 1) < 2
    · have HR : Hid (sizeN s k = -1) := Lib.hid (if_pos (.inr (.inl h2)))
      have y1 : ¬ (2 : Int) ≤ (bt s (k + 1) : Nat) := by omega
      clear h1 h2
      go_enter Try.func57, Try.ntmps57
      go_wp2_with (first | (go_at_call 42; (with_reducible refine (HG.out _).mono ?_); rintro e w' ⟨rfl, rfl⟩) | fail)
      go_ret
      exact ⟨ret_int HR.out.symm, rfl⟩
    · have y1 : (2 : Int) ≤ (bt s (k + 1) : Nat) := by omega
      by_cases h3 : s.size - k < bt s (k + 1)
      · have HR : Hid (sizeN s k = -1) := Lib.hid (if_pos (.inr (.inr h3)))
        have y2 : ¬ ((bt s (k + 1) : Nat) : Int) ≤ (s.size : Int) - (k : Int) := by omega
        clear h1 h2 h3
        go_enter Try.func57, Try.ntmps57
        go_wp2_with (first | (go_at_call 42; (with_reducible refine (HG.out _).mono ?_); rintro e w' ⟨rfl, rfl⟩) | fail)
        go_ret
        exact ⟨ret_int HR.out.symm, rfl⟩
      · have HR : Hid (sizeN s k = (bt s (k + 1) : Nat)) := Lib.hid (if_neg (by omega))
        have y2 : ((bt s (k + 1) : Nat) : Int) ≤ (s.size : Int) - (k : Int) := by omega
        clear h1 h2 h3
        go_enter Try.func57, Try.ntmps57
        go_wp2_with (first | (go_at_call 42; (with_reducible refine (HG.out _).mono ?_); rintro e w' ⟨rfl, rfl⟩) | fail)
        go_ret
        exact ⟨ret_int HR.out.symm, rfl⟩

/-- What a visit hands over. -/
def encV (x : VX) : Array Value := #[.int .i64 x.pl, .agg #[.int .i64 (x.kd : Nat), .string x.da]]
/-- A round's answer. -/
def Goes (J Jx : World → Prop) (Bs : Nat) (W : World) (e : Ending) (W' : World) : Prop := ∃ b : Bool, e = .returned (.bool b) ∧ Hid (if b = true then J W' ∧ SameB Bs W W' else Jx W')
theorem sameB_drew (B : Nat) (W : World) : SameB B W W.drew := rfl
theorem grownBy_drew0 (W : World) : W.grownBy W.drew none := ⟨rfl, rfl, rfl, Nat.le_refl _, fun _ _ _ => rfl⟩

theorem bt_here (s : ByteArray) (i : Nat) (h : i < s.size) : (s[i]'h).toNat = bt s i := by
  unfold bt
  rw [List.getD_eq_getElem?_getD, List.getElem?_eq_getElem (by rw [← size_list]; omega)]; rfl
set_option maxRecDepth 100000 in
set_option maxHeartbeats 2000000 in
/-- The iterator over the options: for every loop body that keeps the string's block. -/
theorem visited1_in (l Bs : Nat) (s : ByteArray) (hs : s.size ≤ 1099511627776) (n : Nat) (hn : 1 ≤ n) (J Jx : List VX → World → Prop) (W : World) (hJ : AbidesFrom W.heap.size J)
    (hY : ∀ pre x W, J pre W → pre.length < s.size + 1 → YieldAt Fence.wide (n - 1) Try.prog l (encV x) W fun e W' =>
      (e = .returned (.bool true) ∧ J (pre ++ [x]) W' ∧ SameB Bs W W') ∨ (e = .returned (.bool false) ∧ Jx (pre ++ [x]) W'))
    (hBs : W.cell? ⟨Bs, 0, none⟩ = some (.string s)) (h0 : J [] W) :
    CallsIn Fence.wide n Try.prog 56 #[.func (.yield l) #[] #[], .pointer (some ⟨Bs, 0, none⟩)] W fun e W' => (∃ v, e = .returned v) ∧
      ((∃ ys, ys = visL s 0 ∧ J ys W') ∨ (∃ pre, pre <+: visL s 0 ∧ Jx pre W')) := by
  refine callsIn_of_wp Try.func56 rfl trivial ?_ rfl
  simp only [Try.ntmps56, List.size_toArray, List.length_cons, List.length_nil, Nat.reduceAdd, Nat.reduceSub, Array.replicate_succ, Array.replicate_zero, List.push_toArray, List.append_toArray, List.nil_append, List.cons_append]
  gi_wp2
  gi_loopw [3] (fun i wr => ∃ (k : Nat) (pre : List VX), k ≤ s.size ∧ i = .int .i64 k ∧ Hid (visL s 0 = pre ++ visL s k) ∧ J pre wr ∧ SameB Bs W wr)
    (fun i _ => s.size - (intOf i).toNat)
  case atStart => exact ⟨0, [], Nat.zero_le _, rfl, Lib.hid rfl, h0, rfl⟩
  case round =>
    obtain ⟨k, pre, hk, rfl, HV, hJs, hnx⟩ := hrel
    have hcx : wr.cell? ⟨Bs, 0, none⟩ = some (.string s) := hnx.cell hBs
    have hpl : pre.length < s.size + 1 := by have h1 := congrArg List.length HV.out; have h2 := vis_len s; rw [List.length_append] at h1; omega
    by_cases hlt : k < s.size
    · have q0 := bt_here s k hlt
      have b0 := bt_lt s k
      have j0 : (k : Int) < s.size := by omega
      have j1 : (0 : Int) ≤ (k : Int) := by omega
      by_cases h0 : bt s k = 0
      · have n0 : (((bt s k : Nat) : Int) != 0) = false := by simp; omega
        have HE : Hid (pre = visL s 0) := Lib.hid (by rw [HV.out, vis_end (.inr h0), List.append_nil])
        clear h0
        gi_wp2
        go_end0
        exact ⟨⟨_, rfl⟩, .inl ⟨_, HE.out, hJs⟩⟩
      · have n0 : (((bt s k : Nat) : Int) != 0) = true := by simp; omega
        by_cases h1 : bt s k = 1
        · have n1 : (((bt s k : Nat) : Int) == 1) = true := by simp; omega
          have HN : Hid (visL s 0 = pre ++ visL s (k + 1)) := Lib.hid (by rw [HV.out, vis_pad hlt h1])
          clear h0 h1
          gi_wp2
          go_roundw
          case rel => exact ⟨k + 1, pre, by omega, by go_num, HN, hJs, hnx⟩
          case measure => simp [intOf]; omega
        · have n1 : (((bt s k : Nat) : Int) == 1) = false := by simp; omega
          have hZ := sizeOf_any s k hs hlt
          by_cases h2 : s.size ≤ k + 1 ∨ bt s (k + 1) < 2 ∨ s.size - k < bt s (k + 1)
          · rw [show sizeN s k = -1 from if_pos h2] at hZ
            have HZ := Lib.hid hZ
            have HE : Hid (visL s 0 = pre ++ [vbad]) := Lib.hid (by rw [HV.out, vis_bad hlt h0 h1 h2])
            obtain ⟨fn, tmps, assign, body, hy, hR⟩ := hY pre vbad wr hJs hpl
            dsimp only [encV, vbad] at hy
            rw [show ((0 : Nat) : Int) = 0 from rfl] at hy
            clear h0 h1 h2 hZ
            gi_wp2_with (first | (refine ⟨trivial, ?_⟩; gi_at_call 57; (with_reducible refine (callsIn_wide.2 (HZ.out _)).mono ?_); rintro e w' ⟨rfl, rfl⟩) | fail)
            refine hR.mono ?_
            rintro e W3 (⟨rfl, hJ3, hk3⟩ | ⟨rfl, hJx3⟩)
            · gi_wp2
              refine bodyPost_ret (results_none rfl _ _ _) rfl ?_
              exact ⟨⟨_, rfl⟩, .inl ⟨_, HE.out.symm, hJ3⟩⟩
            · gi_wp2
              refine bodyPost_ret (results_none rfl _ _ _) rfl ?_
              exact ⟨⟨_, rfl⟩, .inr ⟨_, by rw [HE.out]; exact List.prefix_refl _, hJx3⟩⟩
          · rw [show sizeN s k = (bt s (k + 1) : Nat) from if_neg h2] at hZ
            have HZ := Lib.hid hZ
            have HE : Hid (visL s 0 = (pre ++ [vx ⟨bt s k, s.extract (k + 2) (k + bt s (k + 1)), k + 2⟩]) ++ visL s (k + bt s (k + 1))) := Lib.hid (by rw [HV.out, vis_one hlt h0 h1 h2, List.append_assoc]; rfl)
            have b1 := bt_lt s (k + 1)
            have n2 : (((bt s (k + 1) : Nat) : Int) == -1) = false := by simp
            have i6 : IntKind.i64.wrap ((k : Int) + 2) = (k : Int) + 2 := IntWalk.i64_in _ (by omega)
            have i7 : IntKind.i64.wrap ((k : Int) + (bt s (k + 1) : Nat)) = (k : Int) + (bt s (k + 1) : Nat) := IntWalk.i64_in _ (by omega)
            have i8 : (0 : Int) ≤ (k : Int) + 2 := by omega
            have i9 : (k : Int) + 2 ≤ (k : Int) + (bt s (k + 1) : Nat) := by omega
            have i10 : (k : Int) + (bt s (k + 1) : Nat) ≤ s.size := by omega
            have i11 : ((k : Int) + 2).toNat = k + 2 := by omega
            have i12 : ((k : Int) + (bt s (k + 1) : Nat)).toNat = k + bt s (k + 1) := by omega
            have i13 : IntKind.i64.wrap (bt s k : Nat) = (bt s k : Nat) := IntWalk.i64_in _ (by omega)
            have hb2 : 2 ≤ bt s (k + 1) ∧ k + bt s (k + 1) ≤ s.size := by omega
            have hJd : J pre wr.drew := hJ _ _ _ none hJs (grownBy_drew0 wr) (fun r e => by cases e)
            obtain ⟨fn, tmps, assign, body, hy, hR⟩ := hY pre (vx ⟨bt s k, s.extract (k + 2) (k + bt s (k + 1)), k + 2⟩) wr.drew hJd hpl
            dsimp only [encV, vx] at hy
            rw [show ((k + 2 : Nat) : Int) = (k : Int) + 2 by omega] at hy
            have hmx : Try.prog.follows .mixedOrders = true := by kernel_rfl
            have HR : Hid (RoundIn Fence.wide (n - 1) Try.prog l fn tmps assign body wr.drew (Goes (J (pre ++ [vx ⟨bt s k, s.extract (k + 2) (k + bt s (k + 1)), k + 2⟩])) (Jx (pre ++ [vx ⟨bt s k, s.extract (k + 2) (k + bt s (k + 1)), k + 2⟩])) Bs wr.drew)) := Lib.hid (hR.mono (fun e W' h => by
              rcases h with ⟨h1, h2, h3⟩ | ⟨h1, h2⟩
              · exact ⟨true, h1, Lib.hid (by rw [if_pos rfl]; exact ⟨h2, h3⟩)⟩
              · exact ⟨false, h1, Lib.hid (by rw [if_neg (by simp)]; exact h2)⟩))
            clear h0 h1 h2 hZ hR
            gi_wp2_with (first | (refine ⟨trivial, ?_⟩; gi_at_call 57; (with_reducible refine (callsIn_wide.2 (HZ.out _)).mono ?_); rintro e w' ⟨rfl, rfl⟩) | fail)
            gi_region_with_o (first | (refine HR.out.mono ?_; rintro e W3 ⟨b, rfl, hG⟩) | fail)
            all_goals
              cases b with
              | true =>
                obtain ⟨hJ3, hk3⟩ : J (pre ++ [vx ⟨bt s k, s.extract (k + 2) (k + bt s (k + 1)), k + 2⟩]) W3 ∧ SameB Bs wr.drew W3 := by have := hG.out; rwa [if_pos rfl] at this
                clear hG HR
                gi_wp2
                go_roundw
                case rel => exact ⟨k + bt s (k + 1), _, by omega, by go_num, HE, hJ3, SameB.trans hnx (SameB.trans (sameB_drew Bs wr) hk3)⟩
                case measure => simp [intOf]; omega
              | false =>
                have hJx3 : Jx (pre ++ [vx ⟨bt s k, s.extract (k + 2) (k + bt s (k + 1)), k + 2⟩]) W3 := by have := hG.out; rwa [if_neg (by simp)] at this
                clear hG HR
                gi_wp2
                refine bodyPost_ret (results_none rfl _ _ _) rfl ?_
                exact ⟨⟨_, rfl⟩, .inr ⟨_, by rw [HE.out]; exact List.prefix_append _ _, hJx3⟩⟩
    · obtain rfl : k = s.size := by omega
      have HE : Hid (pre = visL s 0) := Lib.hid (by rw [HV.out, vis_end (.inl (Nat.le_refl _)), List.append_nil])
      gi_wp2
      go_end0
      exact ⟨⟨_, rfl⟩, .inl ⟨_, HE.out, hJs⟩⟩
theorem visited_any (s : ByteArray) (w : World) :
    Calls Try.prog 35 #[.string s] w fun e w' => e = .returned (.func (.func 56) #[] #[.pointer (some ⟨w.heap.size, 0, none⟩)]) ∧ w' = w.alloc (.cells #[.string s] 9) := by
  go_enter Try.func35, Try.ntmps35
  go_wp2
  go_ret
  exact ⟨rfl, rfl⟩
theorem visited_stops (Bs : Nat) (s : ByteArray) (hs : s.size ≤ 1099511627776) (n : Nat) (hn : 1 ≤ n) (w : World) (hBs : Bs < w.heap.size) (hc : w.cell? ⟨Bs, 0, none⟩ = some (.string s)) :
    SeqStopsK Fence.wide n Try.prog 56 #[.pointer (some ⟨Bs, 0, none⟩)] encV (SameB Bs) (fun ys => ys = visL s 0) (fun pre => pre <+: visL s 0) (s.size + 1) w := fun l J Jx W hW hJ _ hY h0 =>
  visited1_in l Bs s hs n hn J Jx W hJ hY ((hW.cell (p := ⟨Bs, 0, none⟩) hBs).trans hc) h0
end Go.Proofs.Ytbnhneompibilaa
namespace Go.Proofs.Ytbnhneompibilaa
open Go.RowKit Go.Shelf
set_option linter.unusedVariables false
attribute [local go_sem] Oper.semAt_some

set_option maxRecDepth 100000 in
set_option maxHeartbeats 2000000 in
theorem isList_any (s : ByteArray) (hs : s.size ≤ 1099511627776) (w : World) :
    Calls Try.prog 32 #[.string s] w fun e w' => e = .returned (.bool (optsL s 0).isSome) ∧ Below w.heap.size w w' := by
  refine (callsIn_wide (n := 3)).1 ?_
  refine callsIn_of_wp_marks Try.func32 rfl trivial ?_ rfl
  simp only [Try.ntmps32, List.size_toArray, List.length_cons, List.length_nil, Nat.reduceAdd, Nat.reduceSub, Array.replicate_succ, Array.replicate_zero, List.push_toArray, List.append_toArray, List.nil_append, List.cons_append]
  gi_wp2_with (refine ⟨trivial, ?_⟩; gi_at_call 35; refine (callsIn_wide.2 (visited_any s _)).mono ?_; rintro e w' ⟨rfl, rfl⟩)
  have bR := Boxed.new w 4 (.bool false)
  have bN := Boxed.new (w.alloc (.cells #[.bool false] 4)) 9 (.string s)
  rw [World.size_alloc] at bN
  have hB0 : Below w.heap.size w ((w.alloc (.cells #[.bool false] 4)).alloc (.cells #[.string s] 9)) := ((Below.refl _ w).alloc (Nat.le_refl _) _).alloc (by simp) _
  refine wpIn_rangeFunc_ownF rfl (by omega) (gf := 56) (lb := #[.pointer (some ⟨w.heap.size + 1, 0, none⟩)]) rfl trivial (enters_of Try.func56 (by kernel_rfl) rfl)
    (visited_stops (w.heap.size + 1) s hs _ (by omega) _ (by simp) bN.cell) (fun h k => SameB.trans h k) (SameB.putObj (by simp)) (Below.refl _ _) (fun _ => rfl)
    (fun pre W => ((∀ y ∈ pre, y.pl ≠ -1) ∧ W.cell? ⟨w.heap.size, 0, none⟩ = some (.bool false) ∧ W.frozen? ⟨w.heap.size, 0, none⟩ = false) ∧ Below w.heap.size w W)
    (fun c pre W => (c = .ret ∧ (∃ y, y ∈ pre ∧ y.pl = -1) ∧ W.cell? ⟨w.heap.size, 0, none⟩ = some (.bool false)) ∧ Below w.heap.size w W)
    (OwnFrom.and (Own.from (fun s A B row hs hg hr => ⟨hs.1, cell_kept hs.2.1 hg hr, (frozen_kept hs.2.1 hg hr).trans hs.2.2⟩) _) (ownFrom_below (Nat.le_refl _) (by simp; omega)))
    (fun c => OwnFrom.and (Own.from (fun s A B row hs hg hr => ⟨hs.1, hs.2.1, cell_kept hs.2.2 hg hr⟩) _) (ownFrom_below (Nat.le_refl _) (by simp; omega)))
    ⟨⟨by simp, (bR.alloc _).cell, (bR.alloc _).frozen⟩, hB0⟩
    (fun x => { tmps := #[.string s, undef, .pointer (some ⟨w.heap.size, 0, none⟩), .int .i64 x.pl, .string s, .func (.func 56) #[] #[.pointer (some ⟨w.heap.size + 1, 0, none⟩)], .int .i64 x.pl, .agg #[.int .i64 (x.kd : Nat), .string x.da], undef, undef], defers := [] }) ?assign ?body ?done ?stop
  case assign =>
    intro l x W K hK
    rw [encV]
    gi_wp2
    exact hK
  case body =>
    rintro l pre x W ⟨⟨hp, hc, hf⟩, hB⟩ hlen
    gi_wp2
    · rename_i hx
      exact ⟨KeepsOthers.setCell _ _ _, ⟨rfl, ⟨x, List.mem_append.2 (.inr (by simp)), eq_of_beq hx⟩, World.cell?_setCell_same' _ _ _ (by rw [hc]; rfl)⟩, hB.setCell (p := ⟨w.heap.size, 0, none⟩) (by simp) _⟩
    · rename_i hx
      exact ⟨KeepsOthers.refl _, rfl, ⟨fun y hy => (List.mem_append.1 hy).elim (hp y) (fun e e' => by simp at e; subst e; rw [e'] at hx; simp at hx), hc, hf⟩, hB⟩
  case done =>
    rintro D ys W hD rfl ⟨⟨hne, hc, hf⟩, hB⟩ hK
    obtain ⟨L, hL, _⟩ := vis_done hne
    have HL := Lib.hid hL
    clear hL
    gi_wp2
    have hK' := (KeepsOthers.setCell W ⟨w.heap.size, 0, none⟩ (.bool true)).same D _ hK rfl
    refine ⟨by simp, .inl ⟨_, _, rfl, run_takeDeferred hK', ?_⟩⟩
    have hc5 := cell_kept (World.cell?_setCell_same' W ⟨w.heap.size, 0, none⟩ (.bool true) (by rw [hc]; rfl)) (grownBy_putObj' _ D (.deferred none)) (fun r e => by cases e; exact ⟨_, hK', rfl⟩)
    refine ⟨.bool true, ?_, by rw [HL.out]; rfl, (hB.setCell (p := ⟨w.heap.size, 0, none⟩) (by simp) _).trans (belowK_b (w := w) (Nat.le_refl _) _ D _ _ (by simp at hD; omega) hK' rfl rfl)⟩
    simp [results, Try.results32, go_sem, hc5]
  case stop =>
    rintro D c pre W hD hpre ⟨⟨rfl, ⟨y, hy, hy1⟩, hc⟩, hB⟩ hK
    have HL := Lib.hid (vis_stop hpre hy hy1)
    gi_wp2
    refine ⟨by simp, .inl ⟨_, _, rfl, run_takeDeferred hK, ?_⟩⟩
    have hc5 := cell_kept hc (grownBy_putObj' _ D (.deferred none)) (fun r e => by cases e; exact ⟨_, hK, rfl⟩)
    refine ⟨.bool false, ?_, by rw [HL.out]; rfl, hB.trans (belowK_b (w := w) (Nat.le_refl _) W D _ _ (by simp at hD; omega) hK rfl rfl)⟩
    simp [results, Try.results32, go_sem, hc5]
end Go.Proofs.Ytbnhneompibilaa
