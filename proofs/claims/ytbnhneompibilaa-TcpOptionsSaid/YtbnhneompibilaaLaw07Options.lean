/- The law of tcp's options: the walk. -/
import Derived.Test.YtbnhneompibilaaLaw07Tells
import Derived.BigQuiet
namespace Go.Proofs.Ytbnhneompibilaa
open Go.RowKit Go.WideShapes
set_option linter.unusedVariables false

theorem TcpOK.list_nil (K : TcpOK) (s : ByteArray) (hs : s.size ≤ 1000000) (hl : optsV s = []) (w : World) :
    Calls Try.prog 14 #[.string s] w fun e w' => ∃ a cap, e = .returned (.tuple #[.slice a 0 cap, .int .i64 (optsE s)]) ∧ Below w.heap.size w w' := by
  refine (K.list s hs w).mono ?_
  rintro e w' ⟨v, rfl, ho, hb⟩
  rw [hl] at ho
  rcases ho with ⟨rfl, _⟩ | ⟨g, cap, rfl, _⟩
  · exact ⟨none, 0, rfl, hb⟩
  · exact ⟨some ⟨g, 0, none⟩, cap, rfl, hb⟩
/-- The cells of options, without and with their places. -/
def CA (g : Nat) (L : List Opx) (w : World) : Prop := g < w.heap.size ∧ ∀ (j : Nat) (h : j < L.length), w.cell? ⟨g, j * 2, none⟩ = some (.int .i64 (L[j].kd : Nat)) ∧ w.cell? ⟨g, j * 2 + 1, none⟩ = some (.string L[j].da)
def CB (g : Nat) (L : List Opx) (w : World) : Prop := g < w.heap.size ∧ ∀ (j : Nat) (h : j < L.length), w.cell? ⟨g, j * 3, none⟩ = some (.int .i64 (L[j].kd : Nat)) ∧ w.cell? ⟨g, j * 3 + 1, none⟩ = some (.string L[j].da) ∧ w.cell? ⟨g, j * 3 + 2, none⟩ = some (.int .i64 (L[j].pl : Nat))
theorem CA.below {g : Nat} {L : List Opx} {w w' : World} (h : CA g L w) (hb : Below w.heap.size w w') : CA g L w' :=
  ⟨Nat.lt_of_lt_of_le h.1 hb.size, fun j hj => ⟨(hb.cell (p := ⟨g, j * 2, none⟩) h.1).trans (h.2 j hj).1, (hb.cell (p := ⟨g, j * 2 + 1, none⟩) h.1).trans (h.2 j hj).2⟩⟩
theorem TcpOK.list_some (K : TcpOK) (s : ByteArray) (hs : s.size ≤ 1000000) (L : List Opx) (hL : optsV s = L) (hl : L ≠ []) (w : World) :
    Calls Try.prog 14 #[.string s] w fun e w' => ∃ g cap, e = .returned (.tuple #[.slice (some ⟨g, 0, none⟩) L.length cap, .int .i64 (optsE s)]) ∧ CA g L w' ∧ Below w.heap.size w w' := by
  refine (K.list s hs w).mono ?_
  rintro e w' ⟨v, rfl, ho, hb⟩
  rw [hL] at ho
  rcases ho with ⟨_, h⟩ | ⟨g, cap, rfl, hg, hc⟩
  · exact absurd h hl
  · exact ⟨g, cap, rfl, ⟨hg, hc⟩, hb⟩
theorem options_big (K : TcpOK) (s : ByteArray) (a b : Int) (hs : 100 < s.size) (w : World) :
    Calls Try.prog 4 #[.string s, .int .u32 a, .int .u32 b] w fun e w' => e = .returned (.bool true) ∧ Below w.heap.size w w' := by
  have AW := Lib.hid (awake07 K)
  have hsi : (100 : Int) < s.size := by omega
  have hq : Below w.heap.size w w := Below.refl _ _
  clear K
  go_enter Try.func4, Try.ntmps4
  go_wp2_with (first | (go_at_call 7; (with_reducible refine (AW.out _).mono ?_); rintro e wa ⟨rfl, hb⟩; replace hq := hq.trans (hb.mono hq.size); clear hb) | fail)
  go_ret
  exact ⟨rfl, hq⟩
set_option maxHeartbeats 2000000 in
theorem options_nil (K : TcpOK) (s : ByteArray) (a b : Int) (a0 : 0 ≤ a) (a1 : a < 4294967296) (b0 : 0 ≤ b) (b1 : b < 4294967296) (hs : ¬ 100 < s.size) (hl : optsV s = []) (w : World) :
    Calls Try.prog 4 #[.string s, .int .u32 a, .int .u32 b] w fun e w' => e = .returned (.bool true) ∧ Below w.heap.size w w' := by
  have AW := Lib.hid (awake07 K)
  have hsi : ¬ (100 : Int) < s.size := by omega
  have S1 := Lib.hid (K.stamp s (by omega))
  have S2 := Lib.hid (R07.stamp_any s (by omega))
  obtain ⟨B, hB⟩ : ∃ B, (⟨(stampB a b).toArray⟩ : ByteArray) = B := ⟨_, rfl⟩
  have D1 := K.stamped a b a0 a1 b0 b1
  have D2 := R07.stamped_any a b a0 a1 b0 b1
  have hBz : B.size ≤ 1000000 := by
    rw [← hB]; show (stampB a b).length ≤ _
    unfold stampB
    rw [List.length_append, List.length_append, numL_len _ _ (by omega) (by omega), numL_len _ _ (by omega) (by omega)]; decide
  have S3 := K.stamp B hBz
  rw [show stampS B = (a, b, 4) by rw [← hB]; exact stamp_back a b a0 a1 b0 b1] at S3
  rw [hB] at D1 D2
  have D1 := Lib.hid D1
  have D2 := Lib.hid D2
  have S3 := Lib.hid S3
  have hq : Below w.heap.size w w := Below.refl _ _
  have L1 := Lib.hid (K.list_nil s (by omega) hl)
  have L2 := Lib.hid (R07.list_nil s (by omega) hl)
  generalize optsE s = E at L1 L2
  generalize stampS s = st at S1 S2
  clear K hs hl hB hBz a0 a1 b0 b1
  go_enter Try.func4, Try.ntmps4
  go_wp2_with (first | (go_at_call 14; (with_reducible refine (L1.out _).mono ?_); rintro e w1 ⟨x1, cap1, rfl, hb⟩; replace hq := hq.trans (hb.mono hq.size); clear hb) | (go_at_call 15; (with_reducible refine (L2.out _).mono ?_); rintro e w2 ⟨x2, cap2, rfl, hb⟩; replace hq := hq.trans (hb.mono hq.size); clear hb) | fail)
  go_loopw [11] (fun i wr => i = .int .i64 0 ∧ w2 = wr) (fun _ _ => 0)
  case atStart => exact ⟨rfl, rfl⟩
  case round =>
    obtain ⟨rfl, rfl⟩ := hrel
    go_wp2_with (first | (go_at_call 16; (with_reducible refine (S1.out _).mono ?_); rintro e wa ⟨rfl, hb⟩; replace hq := hq.trans (hb.mono hq.size); clear hb) | (go_at_call 17; (with_reducible refine (S2.out _).mono ?_); rintro e wa ⟨rfl, hb⟩; replace hq := hq.trans (hb.mono hq.size); clear hb) | (go_at_call 18; (with_reducible refine (D1.out _).mono ?_); rintro e wa ⟨rfl, hb⟩; replace hq := hq.trans (hb.mono hq.size); clear hb) | (go_at_call 19; (with_reducible refine (D2.out _).mono ?_); rintro e wa ⟨rfl, hb⟩; replace hq := hq.trans (hb.mono hq.size); clear hb) | (go_at_call 16; (with_reducible refine (S3.out _).mono ?_); rintro e wa ⟨rfl, hb⟩; replace hq := hq.trans (hb.mono hq.size); clear hb) | (go_at_call 7; (with_reducible refine (AW.out _).mono ?_); rintro e wa ⟨rfl, hb⟩; replace hq := hq.trans (hb.mono hq.size); clear hb) | fail)
    go_ret
    exact ⟨rfl, hq⟩
set_option maxHeartbeats 2000000 in
theorem options_some (K : TcpOK) (s : ByteArray) (a b : Int) (a0 : 0 ≤ a) (a1 : a < 4294967296) (b0 : 0 ≤ b) (b1 : b < 4294967296) (hs : ¬ 100 < s.size) (hl : optsV s ≠ []) (w : World) :
    Calls Try.prog 4 #[.string s, .int .u32 a, .int .u32 b] w fun e w' => e = .returned (.bool true) ∧ Below w.heap.size w w' := by
  have AW := Lib.hid (awake07 K)
  have hsi : ¬ (100 : Int) < s.size := by omega
  have S1 := Lib.hid (K.stamp s (by omega))
  have S2 := Lib.hid (R07.stamp_any s (by omega))
  obtain ⟨B, hB⟩ : ∃ B, (⟨(stampB a b).toArray⟩ : ByteArray) = B := ⟨_, rfl⟩
  have D1 := K.stamped a b a0 a1 b0 b1
  have D2 := R07.stamped_any a b a0 a1 b0 b1
  have hBz : B.size ≤ 1000000 := by
    rw [← hB]; show (stampB a b).length ≤ _
    unfold stampB
    rw [List.length_append, List.length_append, numL_len _ _ (by omega) (by omega), numL_len _ _ (by omega) (by omega)]; decide
  have S3 := K.stamp B hBz
  rw [show stampS B = (a, b, 4) by rw [← hB]; exact stamp_back a b a0 a1 b0 b1] at S3
  rw [hB] at D1 D2
  have D1 := Lib.hid D1
  have D2 := Lib.hid D2
  have S3 := Lib.hid S3
  have hq : Below w.heap.size w w := Below.refl _ _
  have hbd := R07.optsV_bd s
  obtain ⟨L, hL⟩ : ∃ L, optsV s = L := ⟨_, rfl⟩
  rw [hL] at hl hbd
  have L1 := Lib.hid (K.list_some s (by omega) L hL hl)
  have L2 := Lib.hid (R07.list_some s (by omega) L hL hl)
  have hLl : L.length ≤ 100 := by omega
  generalize optsE s = E at L1 L2
  generalize stampS s = st at S1 S2
  clear K hs hl hB hBz a0 a1 b0 b1 hL hbd
  go_enter Try.func4, Try.ntmps4
  go_wp2_with (first | (go_at_call 14; (with_reducible refine (L1.out _).mono ?_); rintro e w1 ⟨ga, cap1, rfl, hA, hb⟩; replace hA := Lib.hid hA; replace hq := hq.trans (hb.mono hq.size); clear hb) | (go_at_call 15; (with_reducible refine (L2.out _).mono ?_); rintro e w2 ⟨gb, cap2, rfl, hB2, hb⟩; replace hB2 := Lib.hid hB2; replace hA := Lib.hid (hA.out.below hb); replace hq := hq.trans (hb.mono hq.size); clear hb) | fail)
  go_loopw [11] (fun i wr => ∃ k : Nat, k ≤ L.length ∧ i = .int .i64 k ∧ Hid (CA ga L wr) ∧ Hid (CB gb L wr) ∧ Below w.heap.size w wr) (fun i _ => L.length - (intOf i).toNat)
  case atStart => exact ⟨0, by omega, rfl, hA, hB2, hq⟩
  case round =>
    clear hA hB2 hq
    obtain ⟨k, hk, rfl, hA, hB, hq⟩ := hrel
    by_cases hlt : k < L.length
    · obtain ⟨c0, c1⟩ := hA.out.2 k hlt
      obtain ⟨d0, d1, _⟩ := hB.out.2 k hlt
      obtain ⟨o, ho⟩ : ∃ o, L[k] = o := ⟨_, rfl⟩
      rw [ho] at c0 c1 d0 d1
      clear ho
      have j0 : (k : Int) < L.length := by omega
      have j1 : (0 : Int) ≤ (k : Int) := by omega
      go_wp2
      go_quiet (fail)
      go_wp2
      go_roundw
      case rel => exact ⟨k + 1, by omega, by go_num, Lib.hid hA.out, Lib.hid hB.out, below_drewN hq _⟩
      case measure => simp [intOf]; omega
    · obtain rfl : k = L.length := by omega
      go_wp2_with (first | (go_at_call 16; (with_reducible refine (S1.out _).mono ?_); rintro e wa ⟨rfl, hb⟩; replace hq := hq.trans (hb.mono hq.size); clear hb) | (go_at_call 17; (with_reducible refine (S2.out _).mono ?_); rintro e wa ⟨rfl, hb⟩; replace hq := hq.trans (hb.mono hq.size); clear hb) | (go_at_call 18; (with_reducible refine (D1.out _).mono ?_); rintro e wa ⟨rfl, hb⟩; replace hq := hq.trans (hb.mono hq.size); clear hb) | (go_at_call 19; (with_reducible refine (D2.out _).mono ?_); rintro e wa ⟨rfl, hb⟩; replace hq := hq.trans (hb.mono hq.size); clear hb) | (go_at_call 16; (with_reducible refine (S3.out _).mono ?_); rintro e wa ⟨rfl, hb⟩; replace hq := hq.trans (hb.mono hq.size); clear hb) | (go_at_call 7; (with_reducible refine (AW.out _).mono ?_); rintro e wa ⟨rfl, hb⟩; replace hq := hq.trans (hb.mono hq.size); clear hb) | fail)
      go_ret
      exact ⟨rfl, hq⟩
/-- The law's walk. -/
theorem tcpOptions_any (K : TcpOK) (s : ByteArray) (a b : Int) (w1 : (Lit.int .u32 a).wf = true) (w2 : (Lit.int .u32 b).wf = true) (w : World) :
    Calls Try.prog 4 #[.string s, .int .u32 a, .int .u32 b] w fun e w' => e = .returned (.bool true) ∧ Below w.heap.size w w' := by
  have ha := bounds_u32' w1
  have hb := bounds_u32' w2
  by_cases hs : 100 < s.size
  · exact options_big K s a b hs w
  · by_cases hl : optsV s = []
    · exact options_nil K s a b ha.1 ha.2 hb.1 hb.2 hs hl w
    · exact options_some K s a b ha.1 ha.2 hb.1 hb.2 hs hl w
end Go.Proofs.Ytbnhneompibilaa
