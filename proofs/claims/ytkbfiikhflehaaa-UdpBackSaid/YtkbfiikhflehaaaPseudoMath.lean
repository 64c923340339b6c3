/- The bytes of a pseudo header. No program. -/
import Derived.Test.YtkbfiikhflehaaaFourMath
namespace Go.Proofs.Ytkbfiikhflehaaa
open Go.RowKit
set_option linter.unusedVariables false

def pseudoL (v : Bool) (hi lo : Int) (v' : Bool) (hi' lo' : Int) (pr n : Int) : List UInt8 :=
  if v ≠ v' ∨ rightA v hi lo = false ∨ rightA v' hi' lo' = false then []
  else if v then addrB v hi lo ++ addrB v' hi' lo' ++ numL n 4 ++ numL 0 3 ++ numL pr 1
  else addrB v hi lo ++ addrB v' hi' lo' ++ numL 0 1 ++ numL pr 1 ++ numL n 2
theorem pseudoL_no {v : Bool} {hi lo : Int} {v' : Bool} {hi' lo' : Int} {pr n : Int} (h : v ≠ v' ∨ rightA v hi lo = false ∨ rightA v' hi' lo' = false) : pseudoL v hi lo v' hi' lo' pr n = [] := if_pos h
theorem pseudoL_6 {hi lo hi' lo' : Int} {pr n : Int} {p1 p2 p3 p4 p5 : List UInt8} (e1 : addrB true hi lo = p1) (e2 : addrB true hi' lo' = p2) (e3 : numL n 4 = p3) (e4 : numL 0 3 = p4) (e5 : numL pr 1 = p5) : pseudoL true hi lo true hi' lo' pr n = p1 ++ p2 ++ p3 ++ p4 ++ p5 := by
  subst e1 e2 e3 e4 e5
  unfold pseudoL
  rw [if_neg (by simp [rightA]), if_pos rfl]
theorem pseudoL_4 {hi lo hi' lo' : Int} {pr n : Int} {p1 p2 p3 p4 p5 : List UInt8} (h : rightA false hi lo = true) (h' : rightA false hi' lo' = true) (e1 : addrB false hi lo = p1) (e2 : addrB false hi' lo' = p2) (e3 : numL 0 1 = p3) (e4 : numL pr 1 = p4) (e5 : numL n 2 = p5) : pseudoL false hi lo false hi' lo' pr n = p1 ++ p2 ++ p3 ++ p4 ++ p5 := by
  subst e1 e2 e3 e4 e5
  unfold pseudoL
  rw [if_neg (by simp [h, h']), if_neg (by simp)]
theorem cat5 (a b c d e : List UInt8) : (⟨a.toArray⟩ : ByteArray) ++ ⟨b.toArray⟩ ++ ⟨c.toArray⟩ ++ ⟨d.toArray⟩ ++ ⟨e.toArray⟩ = ⟨(a ++ b ++ c ++ d ++ e).toArray⟩ := by
  apply ext_eq
  simp
theorem pseudoL_len (v : Bool) (hi lo : Int) (v' : Bool) (hi' lo' : Int) (pr n : Int) : (pseudoL v hi lo v' hi' lo' pr n).length ≤ 40 ∧ (pseudoL v hi lo v' hi' lo' pr n).length % 2 = 0 := by
  by_cases h : v ≠ v' ∨ rightA v hi lo = false ∨ rightA v' hi' lo' = false
  · rw [pseudoL_no h]; exact ⟨by simp, rfl⟩
  · have h1 : v = v' := Decidable.byContradiction fun hh => h (.inl hh)
    have h2 : rightA v hi lo = true := by cases hr : rightA v hi lo with | true => rfl | false => exact absurd (.inr (.inl hr)) h
    have h3 : rightA v' hi' lo' = true := by cases hr : rightA v' hi' lo' with | true => rfl | false => exact absurd (.inr (.inr hr)) h
    subst h1
    unfold pseudoL
    rw [if_neg h]
    cases v with
    | true => rw [if_pos rfl]; simp only [List.length_append, addrB_len _ _ _ h2, addrB_len _ _ _ h3, numL_len _ 4 (by omega) (by omega), numL_len _ 3 (by omega) (by omega), numL_len _ 1 (by omega) (by omega)]; exact ⟨by decide, rfl⟩
    | false => rw [if_neg (by simp)]; simp only [List.length_append, addrB_len _ _ _ h2, addrB_len _ _ _ h3, numL_len _ 2 (by omega) (by omega), numL_len _ 1 (by omega) (by omega)]; exact ⟨by decide, rfl⟩
/-- Is there a pseudo header? -/
def psOk (v : Bool) (hi lo : Int) (v' : Bool) (hi' lo' : Int) : Bool := decide (v = v') && (rightA v hi lo && rightA v' hi' lo')
theorem pseudoL_nil (v : Bool) (hi lo : Int) (v' : Bool) (hi' lo' : Int) (pr n : Int) : pseudoL v hi lo v' hi' lo' pr n = [] ↔ psOk v hi lo v' hi' lo' = false := by
  unfold psOk
  by_cases h : v ≠ v' ∨ rightA v hi lo = false ∨ rightA v' hi' lo' = false
  · rw [pseudoL_no h]
    refine ⟨fun _ => ?_, fun _ => rfl⟩
    rcases h with h | h | h <;> simp [h]
  · have h1 : v = v' := Decidable.byContradiction fun hh => h (.inl hh)
    have h2 : rightA v hi lo = true := by cases hr : rightA v hi lo with | true => rfl | false => exact absurd (.inr (.inl hr)) h
    have h3 : rightA v' hi' lo' = true := by cases hr : rightA v' hi' lo' with | true => rfl | false => exact absurd (.inr (.inr hr)) h
    rw [h2, h3]
    subst h1
    refine ⟨fun hh => ?_, fun hh => by simp at hh⟩
    have hl : (pseudoL v hi lo v hi' lo' pr n).length = 0 := by rw [hh]; rfl
    unfold pseudoL at hl
    rw [if_neg h] at hl
    cases v with
    | true => rw [if_pos rfl] at hl; simp only [List.length_append, numL_len _ 4 (by omega) (by omega)] at hl; omega
    | false => rw [if_neg (by simp)] at hl; simp only [List.length_append, numL_len _ 2 (by omega) (by omega)] at hl; omega
theorem nil_eq {P : List UInt8} (h : P ≠ []) : P.isEmpty = false := by
  cases P with
  | nil => exact absurd rfl h
  | cons _ _ => rfl
/-- The addresses' bounds. -/
structure BA (hi lo hi' lo' : Int) : Prop where
  a0 : 0 ≤ hi
  a1 : hi < 18446744073709551616
  b0 : 0 ≤ lo
  b1 : lo < 18446744073709551616
  c0 : 0 ≤ hi'
  c1 : hi' < 18446744073709551616
  d0 : 0 ≤ lo'
  d1 : lo' < 18446744073709551616
end Go.Proofs.Ytkbfiikhflehaaa
