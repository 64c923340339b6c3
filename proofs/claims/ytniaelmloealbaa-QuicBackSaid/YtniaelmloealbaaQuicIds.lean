/- The contracts of package quic: wide, sized; what a reader of connection IDs says. -/
import Derived.Test.YtniaelmloealbaaNineCells
import Derived.Test.YtniaelmloealbaaReadAt
import Derived.Test.YtniaelmloealbaaRef02At
namespace Go.Proofs.Ytniaelmloealbaa
open Go.RowKit
set_option linter.unusedVariables false

/-- A reader's bound. -/
def LeR (n : Nat) (st : Option ByteArray) : Prop := ∀ s, st = some s → s.size ≤ n
theorem LeR.text {n : Nat} {st : Option ByteArray} (h : LeR n st) (k : Int) : LeR n (textR st k).2 := by
  cases st with
  | none => intro s hs; cases hs
  | some t =>
    have ht := h t rfl
    by_cases hk : 0 ≤ k ∧ k ≤ t.size
    · rw [textR_ok hk.1 hk.2]; intro s hs; cases hs; rw [ByteArray.size_extract]; omega
    · rw [textR_no hk]; intro s hs; cases hs
theorem LeR.num {n : Nat} {st : Option ByteArray} (h : LeR n st) (k : Int) : LeR n (numRd st k).2 := by
  unfold numRd
  split
  · exact h.text k
  · intro s hs; cases hs
theorem LeR.max {n : Nat} {st : Option ByteArray} (h : LeR n st) (hn : n ≤ 1000000) : ∀ s, st = some s → s.size ≤ maxLen := fun s hs => by
  have := h s hs
  unfold maxLen; omega
/-- An id behind its length: it, what remains, is its length too great? -/
def szR (st : Option ByteArray) : ByteArray × Option ByteArray := if 20 < (numRd st 1).1 then (⟨#[]⟩, (numRd st 1).2) else textR (numRd st 1).2 (numRd st 1).1
def szO (st : Option ByteArray) : Bool := decide (20 < (numRd st 1).1)
theorem LeR.sz {n : Nat} {st : Option ByteArray} (h : LeR n st) : LeR n (szR st).2 := by
  unfold szR
  split
  · exact h.num 1
  · exact (h.num 1).text _
theorem Rd.apart {w w' : World} {b c : Nat} {st : Option ByteArray} (h : Rd w b c st) (p : Addr) (h1 : b ≠ p.block) (h2 : c ≠ p.block) (v : Value) (hw : w' = w.setCell p v) : Rd w' b c st := by
  subst hw
  cases st with
  | some s => exact ⟨HasB.far h.1 p h1 v, HasB.far h.2.1 p h2 v, h.2.2⟩
  | none => exact HasB.far h p h1 v
theorem Rd.alloc {w : World} {b c : Nat} {st : Option ByteArray} (h : Rd w b c st) (o : Obj) : Rd (w.alloc o) b c st := by
  cases st with
  | some s => exact ⟨h.1.alloc o, h.2.1.alloc o, h.2.2⟩
  | none => exact HasB.alloc h o
theorem Rd.setRow {w : World} {b c : Nat} {st : Option ByteArray} (h : Rd w b c st) (k : Nat) (cs : Array Value) (h1 : b ≠ k) (h2 : c ≠ k) : Rd (w.setRow k cs) b c st := by
  cases st with
  | some s => exact ⟨HasB.setRow_other h.1 k cs h1, HasB.setRow_other h.2.1 k cs h2, h.2.2⟩
  | none => exact HasB.setRow_other h k cs h1
theorem wide_any (g b c : Nat) (o : Bool) (st : Option ByteArray) (w : World) (hI : HasB w g 49 #[.pointer (some ⟨b, 0, none⟩), .bool o]) (h : Rd w b c st) (hs : LeR 1000000 st) :
    Calls Try.prog 22 #[.pointer (some ⟨g, 0, none⟩)] w fun e w' => e = .returned (.string (textR st 8).1) ∧ Rd w' b c (textR st 8).2 ∧ Kept (fun k => k = b ∨ k = c) w w' := by
  have HT := Lib.hid (textRd_any b c st 8 w h (hs.max (by omega)))
  have c0 := HasB.cell hI 0 _ rfl
  clear hI h hs
  go_enter Try.func22, Try.ntmps22
  go_wp2_with (first | (go_at_call 30; (with_reducible refine Calls.mono HT.out ?_); rintro e wa ⟨rfl, hr, hk⟩) | fail)
  go_ret
  exact ⟨rfl, hr, hk⟩
theorem numRd_nn (st : Option ByteArray) : 0 ≤ (numRd st 1).1 ∧ (numRd st 1).1 < 72057594037927936 := by
  unfold numRd
  split
  · exact getN_bd _ 0 1 (by omega)
  · simp
theorem sized_any (g b c : Nat) (o : Bool) (st : Option ByteArray) (w : World) (hI : HasB w g 49 #[.pointer (some ⟨b, 0, none⟩), .bool o]) (hg : g ≠ b ∧ g ≠ c) (h : Rd w b c st) (hs : LeR 1000000 st) :
    Calls Try.prog 23 #[.pointer (some ⟨g, 0, none⟩)] w fun e w' => e = .returned (.string (szR st).1) ∧ Rd w' b c (szR st).2 ∧ HasB w' g 49 #[.pointer (some ⟨b, 0, none⟩), .bool (o || szO st)] ∧ Kept (fun k => k = b ∨ k = c ∨ k = g) w w' := by
  have HN := Lib.hid (num_any b c st 1 w h (hs.max (by omega)))
  have hs1 := hs.num 1
  obtain ⟨n0, n1⟩ := numRd_nn st
  have c0 := HasB.cell hI 0 _ rfl
  have HI := Lib.hid hI
  by_cases h20 : 20 < (numRd st 1).1
  · have HZ : Hid (szR st = (⟨#[]⟩, (numRd st 1).2) ∧ szO st = true) := Lib.hid ⟨if_pos h20, decide_eq_true h20⟩
    unfold IsNum at HN
    generalize numRd st 1 = q at *
    obtain ⟨n, st1⟩ := q
    dsimp only at *
    clear hI h hs hs1
    go_enter Try.func23, Try.ntmps23
    go_wp2_with (first | (go_at_call 21; (with_reducible refine Calls.mono HN.out ?_); rintro e wa ⟨rfl, hr, hk⟩; have hI2 := HasB.kept HI.out hk (by omega); have k1 := HasB.cell hI2 1 (.bool o) rfl; have f1 := HasB.free hI2 1; have HR := Lib.hid hr; have HI2 := Lib.hid hI2; have HK := Lib.hid hk; clear hr hk hI2) | fail)
    go_ret
    rw [HZ.out.1, HZ.out.2, Bool.or_true]
    refine ⟨rfl, HR.out.apart _ ?_ ?_ _ rfl, HI2.out.put 1 (.bool true), ?_⟩
    · exact fun hh => hg.1 hh.symm
    · exact fun hh => hg.2 hh.symm
    · exact (HK.out.mono (fun k _ hk => by omega)).setCell _ (.inr (.inr (.inr rfl))) _
  · have HZ : Hid (szR st = textR (numRd st 1).2 (numRd st 1).1 ∧ szO st = false) := Lib.hid ⟨if_neg h20, decide_eq_false h20⟩
    have HT := fun W (hr : Rd W b c (numRd st 1).2) => textRd_any b c (numRd st 1).2 (numRd st 1).1 W hr (hs1.max (by omega))
    replace HT := Lib.hid HT
    unfold IsNum at HN
    unfold IsText at HT
    generalize numRd st 1 = q at *
    obtain ⟨n, st1⟩ := q
    dsimp only at *
    clear hI h hs hs1
    go_enter Try.func23, Try.ntmps23
    go_wp2_with (first | (go_at_call 21; (with_reducible refine Calls.mono HN.out ?_); rintro e wa ⟨rfl, hr, hk⟩; have hI2 := HasB.kept HI.out hk (by omega); have k0 := HasB.cell hI2 0 (.pointer (some ⟨b, 0, none⟩)) rfl; have HR := Lib.hid hr; have HI2 := Lib.hid hI2; have HK := Lib.hid hk; clear hr hk hI2 c0) | (go_at_call 30; (with_reducible refine (HT.out _ HR.out).mono ?_); rintro e wb ⟨rfl, hr, hk⟩) | fail)
    go_ret
    rw [HZ.out.1, HZ.out.2, Bool.or_false]
    exact ⟨rfl, hr, HasB.kept HI2.out hk (by omega), (HK.out.mono (fun k _ hk => by omega)).trans (hk.mono (fun k _ hk => by omega))⟩
end Go.Proofs.Ytniaelmloealbaa
