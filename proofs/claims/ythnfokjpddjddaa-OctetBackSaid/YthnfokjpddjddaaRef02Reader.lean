/- The contracts of cloakroomref02: a reader. -/
import Derived.Test.YthnfokjpddjddaaReaderWalks
import Derived.Test.YthnfokjpddjddaaRef02Walks
namespace Go.Proofs.Ythnfokjpddjddaa.R02
open Go.RowKit
set_option linter.unusedVariables false

/-- The document's reader: block x. -/
def Rx (w : World) (x : Nat) (st : Option ByteArray) : Prop :=
  ∃ s : ByteArray, HasB w x 36 #[.string s, .bool (badR st)] ∧ (st = some s ∨ st = none)
def IsText (x : Nat) (r : ByteArray × Option ByteArray) (w : World) (e : Ending) (w' : World) : Prop :=
  e = .returned (.string r.1) ∧ Rx w' x r.2 ∧ Kept (· = x) w w'
def IsNum (x : Nat) (r : Int × Option ByteArray) (w : World) (e : Ending) (w' : World) : Prop :=
  e = .returned (.int .i64 r.1) ∧ Rx w' x r.2 ∧ Kept (· = x) w w'
set_option maxHeartbeats 400000 in
theorem text_any (x : Nat) (st : Option ByteArray) (n : Int) (w : World) (h : Rx w x st) (hs : ∀ s, st = some s → s.size ≤ maxLen) :
    Calls Try.prog 19 #[.pointer (some ⟨x, 0, none⟩), .int .i64 n] w (IsText x (textR st n) w) := by
  obtain ⟨s, hx, he⟩ := h
  have HX := Lib.hid hx
  have hf := hx.free 0
  have hf1 := hx.free 1
  have hc := hx.cell 0 _ rfl
  have hd := hx.cell 1 _ rfl
  cases st with
  | some s1 =>
    have hs1 := hs s1 rfl
    obtain rfl : s1 = s := by rcases he with he | he; exact Option.some.inj he; cases he
    clear hs he hx
    unfold maxLen at hs1
    have hd2 : w.cell? ⟨x, 1, none⟩ = some (.bool false) := hd
    clear hd
    by_cases hn : 0 ≤ n ∧ n ≤ s1.size
    · have HT := Lib.hid (textR_ok hn.1 hn.2)
      obtain ⟨h0, h1⟩ := hn
      obtain ⟨m, rfl⟩ : ∃ m : Nat, n = m := ⟨n.toNat, by omega⟩
      go_enter Try.func19, Try.ntmps19
      go_wp2
      go_ret
      rw [HT.out]
      exact ⟨by simp [go_sem], ⟨_, HX.out.put 0 _, .inl (by simp [go_sem])⟩, (Kept.refl (fun k => k = x) w).setCell ⟨x, 0, none⟩ (.inr rfl) _⟩
    · have HT := Lib.hid (textR_no hn)
      by_cases h0 : n < 0
      · go_enter Try.func19, Try.ntmps19
        go_wp2
        go_ret
        rw [HT.out]
        exact ⟨rfl, ⟨_, HX.out.put 1 _, .inr rfl⟩, (Kept.refl (fun k => k = x) w).setCell ⟨x, 1, none⟩ (.inr rfl) _⟩
      · have h1 : (s1.size : Int) < n := by omega
        go_enter Try.func19, Try.ntmps19
        go_wp2
        go_ret
        rw [HT.out]
        exact ⟨rfl, ⟨_, HX.out.put 1 _, .inr rfl⟩, (Kept.refl (fun k => k = x) w).setCell ⟨x, 1, none⟩ (.inr rfl) _⟩
  | none =>
    clear hs
    have hd2 : w.cell? ⟨x, 1, none⟩ = some (.bool true) := hd
    clear hd hx he
    go_enter Try.func19, Try.ntmps19
    go_wp2
    go_ret
    exact ⟨rfl, ⟨_, HX.out.put 1 _, .inr rfl⟩, (Kept.refl (fun k => k = x) w).setCell ⟨x, 1, none⟩ (.inr rfl) _⟩

theorem rest_any (x : Nat) (st : Option ByteArray) (w : World) (h : Rx w x st) (hs : ∀ s, st = some s → s.size ≤ maxLen) :
    Calls Try.prog 21 #[.pointer (some ⟨x, 0, none⟩)] w (IsText x (restR st) w) := by
  have HW := Lib.hid h
  obtain ⟨s, hx, he⟩ := h
  have hf := hx.free 0
  have hf1 := hx.free 1
  have hc := hx.cell 0 _ rfl
  have hd := hx.cell 1 _ rfl
  cases st with
  | some s1 =>
    obtain rfl : s1 = s := by rcases he with he | he; exact Option.some.inj he; cases he
    have HT := Lib.hid (text_any x (some s1) (s1.size : Nat) w HW.out hs)
    have HR : Hid (textR (some s1) (s1.size : Nat) = restR (some s1)) := Lib.hid (by rw [textR_ok (by omega) (by omega)]; simp [restR])
    clear hs he hx
    have hd2 : w.cell? ⟨x, 1, none⟩ = some (.bool false) := hd
    clear hd
    go_enter Try.func21, Try.ntmps21
    go_wp2_with (go_at_call 19; refine (Calls.mono HT.out ?_); rintro e w' ⟨rfl, hnb, hnk⟩; have HH := Lib.hid (And.intro hnb hnk); clear hnb hnk)
    go_ret
    rw [← HR.out]
    exact ⟨rfl, HH.out.1, HH.out.2⟩
  | none =>
    clear hs
    have hd2 : w.cell? ⟨x, 1, none⟩ = some (.bool true) := hd
    clear hd hx he
    go_enter Try.func21, Try.ntmps21
    go_wp2
    go_ret
    exact ⟨rfl, HW.out, Kept.refl _ _⟩

theorem num_any (x : Nat) (st : Option ByteArray) (k : Int) (w : World) (h : Rx w x st) (hs : ∀ s, st = some s → s.size ≤ maxLen) :
    Calls Try.prog 17 #[.pointer (some ⟨x, 0, none⟩), .int .i64 k] w (IsNum x (numR st k) w) := by
  by_cases hk : 1 ≤ k ∧ k ≤ 7
  · have HT := Lib.hid (text_any x st k w h hs)
    have HR : Hid (numR st k = (getN (textR st k).1 0 k, (textR st k).2)) := by unfold numR; rw [if_pos hk]; exact Lib.hid rfl
    have hle := textR_le st k hs
    obtain ⟨g0, g1⟩ := getN_bd (textR st k).1 0 k hk.2
    obtain ⟨k0, k1⟩ := hk
    have k2 : ¬ k < 1 := by omega
    clear hs h
    have HW : Hid (wrap64 (getN (textR st k).1 0 k) = getN (textR st k).1 0 k) := Lib.hid (IntWalk.wrap64_in _ ⟨by omega, by omega⟩)
    have HN : Hid ((textR st k).2 = none → getN (textR st k).1 0 k = 0) := by
      refine Lib.hid (fun hh => ?_)
      refine getN_no (fun hcon => ?_)
      cases st with
      | none => simp [textR, ByteArray.size] at hcon; omega
      | some s =>
        by_cases hn : 0 ≤ k ∧ k ≤ s.size
        · rw [textR_ok hn.1 hn.2] at hh; cases hh
        · rw [textR_no hn] at hcon; simp [ByteArray.size] at hcon; omega
    go_enter Try.func17, Try.ntmps17
    go_wp2_with (first | (go_at_call 19; refine (Calls.mono HT.out ?_); rintro e w' ⟨rfl, hnb, hnk⟩; have HH := Lib.hid (And.intro hnb hnk); obtain ⟨s3, hx3, he3⟩ := hnb; have hf3 := hx3.free 1; have hd3 := hx3.cell 1 _ rfl; clear hnk hx3 he3) | (go_at_call 30; refine (must_any _ _ _ hle (by omega) (by omega) _).mono ?_; rintro e w' ⟨rfl, rfl⟩))
    · have hbd : badR (textR st k).2 = true := by assumption
      have hst : (textR st k).2 = none := by
        cases h2 : (textR st k).2 with
        | none => rfl
        | some s => rw [h2] at hbd; cases hbd
      go_ret
      rw [HR.out]
      exact ⟨ret_int (HN.out hst).symm, HH.out.1, HH.out.2⟩
    · go_ret
      rw [HR.out]
      exact ⟨ret_int HW.out, HH.out.1, HH.out.2⟩
  · have HR : Hid (numR st k = (0, none)) := by unfold numR; rw [if_neg hk]; exact Lib.hid rfl
    have HE : Hid (textR none k = (⟨#[]⟩, none)) := Lib.hid rfl
    obtain ⟨s, hx, he⟩ := h
    have HX := Lib.hid hx
    have hf := hx.free 0
    have hf1 := hx.free 1
    have hc := hx.cell 0 _ rfl
    have hd := hx.cell 1 _ rfl
    have HB : Hid (Rx (w.setCell ⟨x, 1, none⟩ (.bool true)) x none) := Lib.hid ⟨s, hx.put 1 _, .inr rfl⟩
    have HK : Hid (Kept (· = x) w (w.setCell ⟨x, 1, none⟩ (.bool true))) := Lib.hid ((Kept.refl (fun k => k = x) w).setCell ⟨x, 1, none⟩ (.inr rfl) _)
    clear hs hx he
    by_cases h0 : k < 1
    · go_enter Try.func17, Try.ntmps17
      go_wp2_with (go_at_call 19; refine (Calls.mono (text_any x none k _ HB.out (fun s h => by cases h)) ?_); rintro e w' ⟨rfl, hnb, hnk⟩; have HH := Lib.hid (And.intro hnb hnk); obtain ⟨s3, hx3, he3⟩ := hnb; have hf3 := hx3.free 1; have hd3 := hx3.cell 1 _ rfl; clear hnk hx3 he3)
      go_ret
      rw [HR.out]
      exact ⟨rfl, HH.out.1, HK.out.trans HH.out.2⟩
    · have h1 : 7 < k := by omega
      go_enter Try.func17, Try.ntmps17
      go_wp2_with (go_at_call 19; refine (Calls.mono (text_any x none k _ HB.out (fun s h => by cases h)) ?_); rintro e w' ⟨rfl, hnb, hnk⟩; have HH := Lib.hid (And.intro hnb hnk); obtain ⟨s3, hx3, he3⟩ := hnb; have hf3 := hx3.free 1; have hd3 := hx3.cell 1 _ rfl; clear hnk hx3 he3)
      go_ret
      rw [HR.out]
      exact ⟨rfl, HH.out.1, HK.out.trans HH.out.2⟩
end Go.Proofs.Ythnfokjpddjddaa.R02
