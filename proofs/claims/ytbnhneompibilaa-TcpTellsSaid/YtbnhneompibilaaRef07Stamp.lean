/- The contract of cloakroomref07: Stamp. -/
import Derived.Test.YtbnhneompibilaaRef07List
import Derived.Test.YtbnhneompibilaaRef02At
import Derived.BigQuiet
namespace Go.Proofs.Ytbnhneompibilaa.R07
open Go.RowKit
set_option linter.unusedVariables false

theorem list_nil (s : ByteArray) (hs : s.size ≤ 1099511627776) (hl : optsV s = []) (w : World) :
    Calls Try.prog 15 #[.string s] w fun e w' => ∃ a cap, e = .returned (.tuple #[.slice a 0 cap, .int .i64 (optsE s)]) ∧ Below w.heap.size w w' := by
  refine (list_any s hs w).mono ?_
  rintro e w' ⟨v, rfl, ho, hb⟩
  rw [hl] at ho
  rcases ho with ⟨rfl, _⟩ | ⟨g, cap, rfl, _⟩
  · exact ⟨none, 0, rfl, hb⟩
  · exact ⟨some ⟨g, 0, none⟩, cap, rfl, hb⟩
theorem list_some (s : ByteArray) (hs : s.size ≤ 1099511627776) (L : List Opx) (hL : optsV s = L) (hl : L ≠ []) (w : World) :
    Calls Try.prog 15 #[.string s] w fun e w' => ∃ g cap, e = .returned (.tuple #[.slice (some ⟨g, 0, none⟩) L.length cap, .int .i64 (optsE s)]) ∧ (g < w'.heap.size ∧ ∀ (j : Nat) (h : j < L.length), w'.cell? ⟨g, j * 3, none⟩ = some (.int .i64 (L[j].kd : Nat)) ∧ w'.cell? ⟨g, j * 3 + 1, none⟩ = some (.string L[j].da) ∧ w'.cell? ⟨g, j * 3 + 2, none⟩ = some (.int .i64 (L[j].pl : Nat))) ∧ Below w.heap.size w w' := by
  refine (list_any s hs w).mono ?_
  rintro e w' ⟨v, rfl, ho, hb⟩
  rw [hL] at ho
  rcases ho with ⟨_, h⟩ | ⟨g, cap, rfl, hg, hc⟩
  · exact absurd h hl
  · exact ⟨g, cap, rfl, ⟨hg, hc⟩, hb⟩
theorem optsL_bd : ∀ (n : Nat) (s : ByteArray) (i : Nat) (l : List Opx), s.size - i ≤ n → optsL s i = some l → l.length + i ≤ s.size ∨ l = []
  | n, s, i, l, hn, h => by
    by_cases h1 : s.size ≤ i ∨ bt s i = 0
    · rw [opts_end h1] at h; cases h; exact .inr rfl
    · by_cases h2 : bt s i = 1
      · rw [opts_pad (by omega) h2] at h
        match n, hn with
        | 0, hn => omega
        | n + 1, hn =>
          rcases optsL_bd n s (i + 1) l (by omega) h with h3 | h3
          · exact .inl (by omega)
          · exact .inr h3
      · by_cases h3 : s.size ≤ i + 1 ∨ bt s (i + 1) < 2 ∨ s.size - i < bt s (i + 1)
        · rw [opts_bad (by omega) (by omega) h2 h3] at h; cases h
        · rw [opts_one (by omega) (by omega) h2 h3] at h
          cases hm : optsL s (i + bt s (i + 1)) with
          | none => rw [hm] at h; cases h
          | some m =>
            rw [hm] at h
            cases h
            match n, hn with
            | 0, hn => omega
            | n + 1, hn =>
              rcases optsL_bd n s (i + bt s (i + 1)) m (by omega) hm with h4 | h4
              · exact .inl (by simp; omega)
              · subst h4; exact .inl (by simp; omega)
theorem optsV_bd (s : ByteArray) : (optsV s).length ≤ s.size := by
  unfold optsV
  cases h : optsL s 0 with
  | none => simp
  | some l =>
    rcases optsL_bd s.size s 0 l (by omega) h with h1 | h1
    · simpa using h1
    · subst h1; simp
theorem wrap32 {x : Nat} (h : x < 4294967296) : IntKind.u32.wrap (x : Int) = x := by rw [IntKind.wrap_u32]; omega
theorem ret_uui {a b c a' b' c' : Int} (h1 : a = a') (h2 : b = b') (h3 : c = c') : Ending.returned (.tuple #[.int .u32 a, .int .u32 b, .int .i64 c]) = .returned (.tuple #[.int .u32 a', .int .u32 b', .int .i64 c']) := by rw [h1, h2, h3]
set_option maxHeartbeats 2000000 in
theorem stamp_any (s : ByteArray) (hs : s.size ≤ 1099511627776) (w : World) :
    Calls Try.prog 17 #[.string s] w fun e w' => e = .returned (.tuple #[.int .u32 (stampS s).1, .int .u32 (stampS s).2.1, .int .i64 (stampS s).2.2]) ∧ Below w.heap.size w w' := by
  by_cases hl : optsV s = []
  · have HL := Lib.hid (list_nil s hs hl)
    have HS : Hid (stampS s = (0, 0, -1)) := Lib.hid (by unfold stampS; rw [hl]; rfl)
    go_enter Try.func17, Try.ntmps17
    go_wp2_with (first | (go_at_call 15; (with_reducible refine (HL.out _).mono ?_); rintro e w1 ⟨a, cap, rfl, hb⟩) | fail)
    go_loopw [7] (fun i wr => i = .int .i64 0 ∧ w1 = wr) (fun _ _ => 0)
    case atStart => exact ⟨rfl, rfl⟩
    case round =>
      obtain ⟨rfl, rfl⟩ := hrel
      go_wp2
      go_ret3
      exact ⟨ret_uui (by rw [HS.out]) (by rw [HS.out]) (by rw [HS.out]), hb⟩
  · obtain ⟨L, hL⟩ : ∃ L, optsV s = L := ⟨_, rfl⟩
    have hbd := optsV_bd s
    rw [hL] at hl hbd
    have HL := Lib.hid (list_some s hs L hL hl)
    have HS : Hid (stampS s = stampL L) := Lib.hid (by unfold stampS; rw [hL])
    clear hL hl
    go_enter Try.func17, Try.ntmps17
    go_wp2_with (first | (go_at_call 15; (with_reducible refine (HL.out _).mono ?_); rintro e w1 ⟨g, cap, rfl, HC, hb⟩; replace HC := Lib.hid HC) | fail)
    go_loopw [7] (fun i wr => ∃ k : Nat, k ≤ L.length ∧ i = .int .i64 k ∧ w1 = wr ∧ Hid (∀ (j : Nat) (hj : j < L.length), j < k → (L[j]).kd ≠ 8)) (fun i _ => L.length - (intOf i).toNat)
    case atStart => exact ⟨0, by omega, rfl, rfl, Lib.hid (fun j hj hk => by omega)⟩
    case round =>
      obtain ⟨k, hk, rfl, rfl, HN⟩ := hrel
      by_cases hlt : k < L.length
      · have HT := Lib.hid (stampL_at hlt HN.out)
        obtain ⟨c0, c1, c2⟩ := HC.out.2 k hlt
        obtain ⟨o, ho⟩ : ∃ o, L[k] = o := ⟨_, rfl⟩
        rw [ho] at c0 c1 c2 HT
        have HO := Lib.hid ho
        clear ho
        have j0 : (k : Int) < L.length := by omega
        have j1 : (0 : Int) ≤ (k : Int) := by omega
        by_cases h8 : o.kd = 8
        · have n8 : (((o.kd : Nat) : Int) == 8) = true := by simp; omega
          rw [if_pos h8] at HT
          clear h8
          by_cases hz : o.da.size = 8
          · have nz : (((o.da.size : Nat) : Int) != 8) = false := by simp; omega
            have HV : Hid (stampL L = (((seg o.da 0 4 : Nat) : Int), ((seg o.da 4 4 : Nat) : Int), ((o.pl : Nat) : Int))) := Lib.hid (by rw [HT.out]; unfold stampO; rw [if_pos hz])
            have HM1 := Lib.hid (R02.must_seg o.da 0 4 0 4 rfl rfl (by unfold maxLen; omega) (by omega) (by omega) (by omega))
            have HM2 := Lib.hid (R02.must_seg o.da 4 4 4 4 rfl rfl (by unfold maxLen; omega) (by omega) (by omega) (by omega))
            have g1 := seg_lt o.da 0 4
            have g2 := seg_lt o.da 4 4
            have u1 : IntKind.u32.wrap (seg o.da 0 4 : Nat) = (seg o.da 0 4 : Nat) := wrap32 g1
            have u2 : IntKind.u32.wrap (seg o.da 4 4 : Nat) = (seg o.da 4 4 : Nat) := wrap32 g2
            clear hz g1 g2
            go_wp2
            go_quiet (first | (go_at_call 34; with_reducible exact quietL (HM1.out _)) | (go_at_call 34; with_reducible exact quietL (HM2.out _)))
            go_wp2
            go_ret3
            exact ⟨ret_uui (by rw [HS.out, HV.out]) (by rw [HS.out, HV.out]) (by rw [HS.out, HV.out]), below_drewN hb _⟩
          · have nz : (((o.da.size : Nat) : Int) != 8) = true := by simp; omega
            have HV : Hid (stampL L = (0, 0, -1)) := Lib.hid (by rw [HT.out]; unfold stampO; rw [if_neg hz])
            clear hz
            go_wp2
            go_ret3
            exact ⟨ret_uui (by rw [HS.out, HV.out]) (by rw [HS.out, HV.out]) (by rw [HS.out, HV.out]), hb⟩
        · have n8 : (((o.kd : Nat) : Int) == 8) = false := by simp; omega
          have HN2 : Hid (∀ (j : Nat) (hj : j < L.length), j < k + 1 → (L[j]).kd ≠ 8) := Lib.hid (fun j hj hk2 => by
            by_cases e : j = k
            · subst e; rw [HO.out]; exact h8
            · exact HN.out j hj (by omega))
          clear h8
          go_wp2
          go_roundw
          case rel => exact ⟨k + 1, by omega, by go_num, trivial, HN2⟩
          case measure => simp [intOf]; omega
      · obtain rfl : k = L.length := by omega
        have HE : Hid (stampL L = (0, 0, -1)) := Lib.hid (stampL_none (fun j hj => HN.out j hj hj))
        go_wp2
        go_ret3
        exact ⟨ret_uui (by rw [HS.out, HE.out]) (by rw [HS.out, HE.out]) (by rw [HS.out, HE.out]), hb⟩
end Go.Proofs.Ytbnhneompibilaa.R07
