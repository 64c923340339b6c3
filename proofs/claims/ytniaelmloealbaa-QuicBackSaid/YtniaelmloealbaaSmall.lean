/- The contract of cloakroomref07.Small, whatever the strings. -/
import Derived.Test.YtniaelmloealbaaOctetWalks
namespace Go.Proofs.Ytniaelmloealbaa
open Go.RowKit
set_option linter.unusedVariables false

/-- Are the strings small? -/
def smallL (l : List ByteArray) (m : Nat) : Bool := l.all fun s => decide (s.size ≤ m)
theorem smallL_is {l : List ByteArray} {m : Nat} (h : smallL l m = true) : ∀ s ∈ l, s.size ≤ m := fun s hs => of_decide_eq_true (List.all_eq_true.1 h s hs)
theorem smallL_no {l : List ByteArray} {m k : Nat} (hk : k < l.length) (h : m < (l[k]).size) : smallL l m = false := by
  cases hs : smallL l m with
  | false => rfl
  | true => have := smallL_is hs _ (List.getElem_mem hk); omega
theorem smallL_any (g cap : Nat) (l : List ByteArray) (m : Nat) (hm : m ≤ 1000000) (hl : l.length ≤ 1000) (w : World) (hc : ∀ (j : Nat) (h : j < l.length), w.cell? ⟨g, j, none⟩ = some (.string l[j])) :
    Calls Try.prog 5 #[.slice (some ⟨g, 0, none⟩) l.length cap, .int .i64 m] w fun e w' => e = .returned (.bool (smallL l m)) ∧ w = w' := by
  have HC := Lib.hid hc
  clear hc
  go_enter Try.func5, Try.ntmps5
  go_wp2
  go_loopw [5] (fun i wr => ∃ k : Nat, k ≤ l.length ∧ i = .int .i64 k ∧ w = wr ∧ Hid (∀ (j : Nat) (h : j < l.length), j < k → (l[j]).size ≤ m)) (fun i _ => l.length - (intOf i).toNat)
  case atStart => exact ⟨0, by omega, rfl, rfl, Lib.hid (fun j h hj => by omega)⟩
  case round =>
    obtain ⟨k, hk, rfl, rfl, HS⟩ := hrel
    by_cases hlt : k < l.length
    · have c := HC.out k hlt
      have j0 : (k : Int) < l.length := by omega
      have j1 : (0 : Int) ≤ (k : Int) := by omega
      by_cases hx : m < (l[k]).size
      · have HN := Lib.hid (smallL_no (m := m) hlt hx)
        have HK : Hid (∀ (j : Nat) (h : j < l.length), j < k + 1 → True) := Lib.hid (fun _ _ _ => trivial)
        generalize l[k] = x at *
        have hxi : (m : Int) < x.size := by omega
        clear hx HK
        go_wp2
        go_ret
        exact ⟨ret_bool HN.out.symm, rfl⟩
      · have HK : Hid (∀ (j : Nat) (h : j < l.length), j < k + 1 → (l[j]).size ≤ m) := Lib.hid (fun j h hj => by
          by_cases e : j = k
          · subst e; omega
          · exact HS.out j h (by omega))
        generalize l[k] = x at *
        have hxi : ¬ (m : Int) < x.size := by omega
        clear hx
        go_wp2
        go_roundw
        case rel => exact ⟨k + 1, by omega, by go_num, trivial, HK⟩
        case measure => simp [intOf]; omega
    · obtain rfl : k = l.length := by omega
      have HT : Hid (smallL l m = true) := Lib.hid (List.all_eq_true.2 (fun s hs => by
        obtain ⟨j, hj, rfl⟩ := List.getElem_of_mem hs
        exact decide_eq_true (HS.out j hj hj)))
      go_wp2
      go_ret
      exact ⟨ret_bool HT.out.symm, rfl⟩
end Go.Proofs.Ytniaelmloealbaa
