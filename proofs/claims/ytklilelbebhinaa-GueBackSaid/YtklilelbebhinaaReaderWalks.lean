/- The contracts of package octet: a reader. -/
import Derived.Test.YtklilelbebhinaaOctetWalks
namespace Go.Proofs.Ytklilelbebhinaa
open Go.RowKit
set_option linter.unusedVariables false

/-- A reader behind a pointer to block b; what remains lies in block c; none: it is bad. -/
def Rd (w : World) (b c : Nat) : Option ByteArray → Prop
  | some s => HasB w b 63 #[.pointer (some ⟨c, 0, none⟩)] ∧ HasB w c 9 #[.string s] ∧ b ≠ c
  | none => HasB w b 63 #[.pointer none]
def textR : Option ByteArray → Int → ByteArray × Option ByteArray
  | none, _ => (⟨#[]⟩, none)
  | some s, n => if 0 ≤ n ∧ n ≤ s.size then (s.extract 0 n.toNat, some (s.extract n.toNat s.size)) else (⟨#[]⟩, none)
def numRd (st : Option ByteArray) (k : Int) : Int × Option ByteArray :=
  if 1 ≤ k ∧ k ≤ 7 then (getN (textR st k).1 0 k, (textR st k).2) else (0, none)
def restR : Option ByteArray → ByteArray × Option ByteArray
  | none => (⟨#[]⟩, none)
  | some s => (s.extract 0 s.size, some (s.extract s.size s.size))
def badR : Option ByteArray → Bool
  | none => true
  | some _ => false

theorem spoil_any (b : Nat) (v : Value) (w : World) (h : HasB w b 63 #[v]) :
    Calls Try.prog 36 #[.pointer (some ⟨b, 0, none⟩)] w fun e w' => e = .returned (.tuple #[]) ∧ HasB w' b 63 #[.pointer none] ∧ Kept (· = b) w w' := by
  have hc := h.cell 0 v rfl
  have hf := h.free 0
  have H : Hid (HasB (w.setCell ⟨b, 0, none⟩ (.pointer none)) b 63 #[.pointer none] ∧ Kept (· = b) w (w.setCell ⟨b, 0, none⟩ (.pointer none))) :=
    Lib.hid ⟨h.put 0 (.pointer none), (Kept.refl (· = b) w).setCell ⟨b, 0, none⟩ (.inr rfl) (.pointer none)⟩
  clear h
  go_enter Try.func36, Try.ntmps36
  go_wp2
  go_end0
  exact ⟨rfl, H.out⟩
theorem spoil_nil (w : World) :
    Calls Try.prog 36 #[.pointer none] w fun e w' => e = .returned (.tuple #[]) ∧ w = w' := by
  go_enter Try.func36, Try.ntmps36
  go_wp2
  go_end0
  exact ⟨rfl, rfl⟩
theorem bad_any (b c : Nat) (st : Option ByteArray) (w : World) (h : Rd w b c st) :
    Calls Try.prog 35 #[.pointer (some ⟨b, 0, none⟩)] w fun e w' => e = .returned (.bool (badR st)) ∧ w = w' := by
  cases st with
  | some s =>
    have hc := h.1.cell 0 _ rfl
    have hf := h.1.free 0
    clear h
    go_enter Try.func35, Try.ntmps35
    go_wp2
    go_ret
    exact ⟨rfl, rfl⟩
  | none =>
    have hc := HasB.cell h 0 _ rfl
    have hf := HasB.free h 0
    clear h
    go_enter Try.func35, Try.ntmps35
    go_wp2
    go_ret
    exact ⟨rfl, rfl⟩
theorem bad_nil (w : World) :
    Calls Try.prog 35 #[.pointer none] w fun e w' => e = .returned (.bool true) ∧ w = w' := by
  go_enter Try.func35, Try.ntmps35
  go_wp2
  go_ret
  exact ⟨rfl, rfl⟩

def IsText (b c : Nat) (r : ByteArray × Option ByteArray) (w : World) (e : Ending) (w' : World) : Prop :=
  e = .returned (.string r.1) ∧ Rd w' b c r.2 ∧ Kept (fun k => k = b ∨ k = c) w w'
theorem textR_ok {s : ByteArray} {n : Int} (h0 : 0 ≤ n) (h1 : n ≤ s.size) : textR (some s) n = (s.extract 0 n.toNat, some (s.extract n.toNat s.size)) := by simp only [textR]; rw [if_pos ⟨h0, h1⟩]
theorem textR_no {s : ByteArray} {n : Int} (h : ¬ (0 ≤ n ∧ n ≤ s.size)) : textR (some s) n = (⟨#[]⟩, none) := by simp only [textR]; rw [if_neg h]
set_option maxHeartbeats 400000 in
theorem textRd_any (b c : Nat) (st : Option ByteArray) (n : Int) (w : World) (h : Rd w b c st) (hs : ∀ s, st = some s → s.size ≤ maxLen) :
    Calls Try.prog 28 #[.pointer (some ⟨b, 0, none⟩), .int .i64 n] w (IsText b c (textR st n) w) := by
  cases st with
  | some s =>
    have hss := hs s rfl
    clear hs
    unfold maxLen at hss
    have HB := Lib.hid h
    have hc := h.1.cell 0 _ rfl
    have hf := h.1.free 0
    have hd := h.2.1.cell 0 _ rfl
    have hg := h.2.1.free 0
    by_cases hn : 0 ≤ n ∧ n ≤ s.size
    · have HT := Lib.hid (textR_ok hn.1 hn.2)
      obtain ⟨h0, h1⟩ := hn
      obtain ⟨m, rfl⟩ : ∃ m : Nat, n = m := ⟨n.toNat, by omega⟩
      clear h
      go_enter Try.func28, Try.ntmps28
      go_wp2_with (go_at_call 35; refine (bad_any b c (some s) _ HB.out).mono ?_; rintro e w' ⟨rfl, rfl⟩)
      go_region
      all_goals
        go_wp2
        go_ret
        rw [HT.out]
        obtain ⟨k1, k2, k3⟩ := HB.out
        exact ⟨by simp [go_sem], ⟨(k1.far ⟨c, 0, none⟩ k3 _).drew, (k2.put 0 _).drew, k3⟩, ((Kept.refl _ w).setCell ⟨c, 0, none⟩ (.inr (.inr rfl)) _).drew⟩
    · have HT := Lib.hid (textR_no hn)
      have HS := Lib.hid h.1
      clear h
      by_cases h0 : n < 0
      · go_enter Try.func28, Try.ntmps28
        go_wp2_with (first | (go_at_call 35; refine (bad_any b c (some s) _ HB.out).mono ?_; rintro e w' ⟨rfl, rfl⟩) | (go_at_call 36; refine (spoil_any b _ _ HS.out).mono ?_; rintro e w' ⟨rfl, hnb, hnk⟩; have HH := Lib.hid (And.intro hnb hnk); clear hnb hnk))
        go_ret
        exact ⟨by rw [HT.out]; rfl, by rw [HT.out]; exact HH.out.1, HH.out.2.mono (fun k _ hk => .inl hk)⟩
      · have h1 : (s.size : Int) < n := by omega
        go_enter Try.func28, Try.ntmps28
        go_wp2_with (first | (go_at_call 35; refine (bad_any b c (some s) _ HB.out).mono ?_; rintro e w' ⟨rfl, rfl⟩) | (go_at_call 36; refine (spoil_any b _ _ HS.out).mono ?_; rintro e w' ⟨rfl, hnb, hnk⟩; have HH := Lib.hid (And.intro hnb hnk); clear hnb hnk))
        go_ret
        exact ⟨by rw [HT.out]; rfl, by rw [HT.out]; exact HH.out.1, HH.out.2.mono (fun k _ hk => .inl hk)⟩
  | none =>
    clear hs
    have HB := Lib.hid h
    clear h
    go_enter Try.func28, Try.ntmps28
    go_wp2_with (go_at_call 35; refine (bad_any b c none _ HB.out).mono ?_; rintro e w' ⟨rfl, rfl⟩)
    go_ret
    exact ⟨rfl, HB.out, Kept.refl _ _⟩
theorem text_none (b : Nat) (n : Int) (w : World) (h : HasB w b 63 #[.pointer none]) :
    Calls Try.prog 28 #[.pointer (some ⟨b, 0, none⟩), .int .i64 n] w fun e w' => e = .returned (.string ⟨#[]⟩) ∧ w = w' := by
  have HB := Lib.hid h
  clear h
  go_enter Try.func28, Try.ntmps28
  go_wp2_with (go_at_call 35; refine (bad_any b 0 none _ HB.out).mono ?_; rintro e w' ⟨rfl, rfl⟩)
  go_ret
  exact ⟨rfl, rfl⟩
theorem text_nil (n : Int) (w : World) :
    Calls Try.prog 28 #[.pointer none, .int .i64 n] w fun e w' => e = .returned (.string ⟨#[]⟩) ∧ w = w' := by
  go_enter Try.func28, Try.ntmps28
  go_wp2_with (go_at_call 35; refine (bad_nil _).mono ?_; rintro e w' ⟨rfl, rfl⟩)
  go_ret
  exact ⟨rfl, rfl⟩
theorem rest_any (b c : Nat) (st : Option ByteArray) (w : World) (h : Rd w b c st) (hs : ∀ s, st = some s → s.size ≤ maxLen) :
    Calls Try.prog 30 #[.pointer (some ⟨b, 0, none⟩)] w (IsText b c (restR st) w) := by
  cases st with
  | some s =>
    have hss := hs s rfl
    have HT := Lib.hid (textRd_any b c (some s) (s.size : Nat) w h hs)
    have HR : Hid (textR (some s) (s.size : Nat) = restR (some s)) := Lib.hid (by rw [textR_ok (by omega) (by omega)]; simp [restR])
    clear hs
    unfold maxLen at hss
    have HB := Lib.hid h
    have hc := h.1.cell 0 _ rfl
    have hf := h.1.free 0
    have hd := h.2.1.cell 0 _ rfl
    have hg := h.2.1.free 0
    clear h
    go_enter Try.func30, Try.ntmps30
    go_wp2_with (first | (go_at_call 35; refine (bad_any b c (some s) _ HB.out).mono ?_; rintro e w' ⟨rfl, rfl⟩) | (go_at_call 28; refine (Calls.mono HT.out ?_); rintro e w' ⟨rfl, hnb, hnk⟩; have HH := Lib.hid (And.intro hnb hnk); clear hnb hnk))
    go_ret
    rw [← HR.out]
    exact ⟨rfl, HH.out.1, HH.out.2⟩
  | none =>
    clear hs
    have HB := Lib.hid h
    clear h
    go_enter Try.func30, Try.ntmps30
    go_wp2_with (go_at_call 35; refine (bad_any b c none _ HB.out).mono ?_; rintro e w' ⟨rfl, rfl⟩)
    go_ret
    exact ⟨rfl, HB.out, Kept.refl _ _⟩
theorem rest_nil (w : World) :
    Calls Try.prog 30 #[.pointer none] w fun e w' => e = .returned (.string ⟨#[]⟩) ∧ w = w' := by
  go_enter Try.func30, Try.ntmps30
  go_wp2_with (go_at_call 35; refine (bad_nil _).mono ?_; rintro e w' ⟨rfl, rfl⟩)
  go_ret
  exact ⟨rfl, rfl⟩
def IsNum (b c : Nat) (r : Int × Option ByteArray) (w : World) (e : Ending) (w' : World) : Prop :=
  e = .returned (.int .i64 r.1) ∧ Rd w' b c r.2 ∧ Kept (fun k => k = b ∨ k = c) w w'
theorem textR_le (st : Option ByteArray) (n : Int) (hs : ∀ s, st = some s → s.size ≤ maxLen) : (textR st n).1.size ≤ maxLen := by
  cases st with
  | none => simp [textR, ByteArray.size]
  | some s =>
    by_cases h : 0 ≤ n ∧ n ≤ s.size
    · rw [textR_ok h.1 h.2]; simp; have := hs s rfl; omega
    · rw [textR_no h]; simp [ByteArray.size]
theorem getN_bd (s : ByteArray) (p k : Int) (h : k ≤ 7) : 0 ≤ getN s p k ∧ getN s p k < 72057594037927936 := by
  unfold getN
  split
  · have := num_sub_lt s p.toNat k.toNat 7 (by omega); omega
  · omega
theorem num_any (b c : Nat) (st : Option ByteArray) (k : Int) (w : World) (h : Rd w b c st) (hs : ∀ s, st = some s → s.size ≤ maxLen) :
    Calls Try.prog 29 #[.pointer (some ⟨b, 0, none⟩), .int .i64 k] w (IsNum b c (numRd st k) w) := by
  by_cases hk : 1 ≤ k ∧ k ≤ 7
  · have HT := Lib.hid (textRd_any b c st k w h hs)
    have HR : Hid (numRd st k = (getN (textR st k).1 0 k, (textR st k).2)) := by unfold numRd; rw [if_pos hk]; exact Lib.hid rfl
    have hle := textR_le st k hs
    obtain ⟨g0, g1⟩ := getN_bd (textR st k).1 0 k hk.2
    obtain ⟨k0, k1⟩ := hk
    have k2 : ¬ k < 1 := by omega
    clear hs h
    go_enter Try.func29, Try.ntmps29
    go_wp2_with (first | (go_at_call 28; refine (Calls.mono HT.out ?_); rintro e w' ⟨rfl, hnb, hnk⟩; have HH := Lib.hid (And.intro hnb hnk); clear hnb hnk) | (go_at_call 25; refine (get_any _ _ _ hle (by omega) (by omega) _).mono ?_; rintro e w' ⟨rfl, rfl⟩))
    go_ret
    rw [HR.out]
    exact ⟨rfl, HH.out.1, HH.out.2⟩
  · have HR : Hid (numRd st k = (0, none)) := by unfold numRd; rw [if_neg hk]; exact Lib.hid rfl
    obtain ⟨v, hv⟩ : ∃ v, HasB w b 63 #[v] := by
      cases st with
      | some s => exact ⟨_, h.1⟩
      | none => exact ⟨_, h⟩
    have HS := Lib.hid hv
    clear hs h hv
    by_cases h0 : k < 1
    · go_enter Try.func29, Try.ntmps29
      go_wp2_with (go_at_call 36; refine (spoil_any b _ _ HS.out).mono ?_; rintro e w' ⟨rfl, hnb, hnk⟩; have HH := Lib.hid (And.intro hnb hnk); clear hnb hnk)
      go_ret
      rw [HR.out]
      exact ⟨rfl, HH.out.1, HH.out.2.mono (fun k _ hk => .inl hk)⟩
    · have h1 : 7 < k := by omega
      go_enter Try.func29, Try.ntmps29
      go_wp2_with (go_at_call 36; refine (spoil_any b _ _ HS.out).mono ?_; rintro e w' ⟨rfl, hnb, hnk⟩; have HH := Lib.hid (And.intro hnb hnk); clear hnb hnk)
      go_ret
      rw [HR.out]
      exact ⟨rfl, HH.out.1, HH.out.2.mono (fun k _ hk => .inl hk)⟩
theorem num_nil (k : Int) (w : World) :
    Calls Try.prog 29 #[.pointer none, .int .i64 k] w fun e w' => e = .returned (.int .i64 0) ∧ w = w' := by
  by_cases hk : 1 ≤ k ∧ k ≤ 7
  · have HR := Lib.hid (getN_no (s := ⟨#[]⟩) (p := 0) (k := k) (by simp [ByteArray.size]; omega))
    obtain ⟨k0, k1⟩ := hk
    have k2 : ¬ k < 1 := by omega
    go_enter Try.func29, Try.ntmps29
    go_wp2_with (first | (go_at_call 28; refine (text_nil _ _).mono ?_; rintro e w' ⟨rfl, rfl⟩) | (go_at_call 25; refine (get_any _ _ _ (by simp [ByteArray.size]) (by omega) (by omega) _).mono ?_; rintro e w' ⟨rfl, rfl⟩))
    go_ret
    exact ⟨ret_int (by rw [HR.out]; simp [wrap64]), rfl⟩
  · by_cases h0 : k < 1
    · go_enter Try.func29, Try.ntmps29
      go_wp2_with (go_at_call 36; refine (spoil_nil _).mono ?_; rintro e w' ⟨rfl, rfl⟩)
      go_ret
      exact ⟨rfl, rfl⟩
    · have h1 : 7 < k := by omega
      go_enter Try.func29, Try.ntmps29
      go_wp2_with (go_at_call 36; refine (spoil_nil _).mono ?_; rintro e w' ⟨rfl, rfl⟩)
      go_ret
      exact ⟨rfl, rfl⟩
theorem new_any (s : ByteArray) (w : World) :
    Calls Try.prog 27 #[.string s] w fun e w' => e = .returned (.pointer (some ⟨w.heap.size + 1, 0, none⟩)) ∧ w' = (w.alloc (.cells #[.string s] 9)).alloc (.cells #[.pointer (some ⟨w.heap.size, 0, none⟩)] 63) := by
  go_enter Try.func27, Try.ntmps27
  go_wp2
  go_ret
  exact ⟨rfl, rfl⟩
end Go.Proofs.Ytklilelbebhinaa
