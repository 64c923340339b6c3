/- What an iterator over options visits: offsets of data and options, -1 where the options are no list. No program. -/
import Derived.Test.YtbnhneompibilaaSevenMath
namespace Go.Proofs.Ytbnhneompibilaa
open Go.RowKit
set_option linter.unusedVariables false

/-- A visit. -/
structure VX where
  pl : Int
  kd : Nat
  da : ByteArray
def vx (o : Opx) : VX := ⟨o.pl, o.kd, o.da⟩
def vbad : VX := ⟨-1, 0, ⟨#[]⟩⟩
/-- The visits from i on. -/
def visL (s : ByteArray) (i : Nat) : List VX :=
  if h : s.size ≤ i ∨ bt s i = 0 then []
  else if bt s i = 1 then visL s (i + 1)
  else if h2 : s.size ≤ i + 1 ∨ bt s (i + 1) < 2 ∨ s.size - i < bt s (i + 1) then [vbad]
  else vx ⟨bt s i, s.extract (i + 2) (i + bt s (i + 1)), i + 2⟩ :: visL s (i + bt s (i + 1))
termination_by s.size - i
theorem vis_end {s : ByteArray} {i : Nat} (h : s.size ≤ i ∨ bt s i = 0) : visL s i = [] := by rw [visL, dif_pos h]
theorem vis_pad {s : ByteArray} {i : Nat} (h : i < s.size) (h1 : bt s i = 1) : visL s i = visL s (i + 1) := by
  conv => lhs; rw [visL]
  rw [dif_neg (by omega), if_pos h1]
theorem vis_bad {s : ByteArray} {i : Nat} (h : i < s.size) (h0 : bt s i ≠ 0) (h1 : bt s i ≠ 1) (h2 : s.size ≤ i + 1 ∨ bt s (i + 1) < 2 ∨ s.size - i < bt s (i + 1)) : visL s i = [vbad] := by
  rw [visL, dif_neg (by omega), if_neg h1, dif_pos h2]
theorem vis_one {s : ByteArray} {i : Nat} (h : i < s.size) (h0 : bt s i ≠ 0) (h1 : bt s i ≠ 1) (h2 : ¬ (s.size ≤ i + 1 ∨ bt s (i + 1) < 2 ∨ s.size - i < bt s (i + 1))) : visL s i = vx ⟨bt s i, s.extract (i + 2) (i + bt s (i + 1)), i + 2⟩ :: visL s (i + bt s (i + 1)) := by
  conv => lhs; rw [visL]
  rw [dif_neg (by omega), if_neg h1, dif_neg h2]
/-- The visits are the options; behind the last one -1, if they are no list. -/
theorem vis_opts (s : ByteArray) : ∀ (n i : Nat), s.size - i ≤ n → ((∃ l, optsL s i = some l ∧ visL s i = l.map vx) ∨ (optsL s i = none ∧ ∃ l : List Opx, visL s i = l.map vx ++ [vbad])) ∧ (visL s i).length ≤ s.size - i
  | 0, i, hn => by rw [opts_end (.inl (by omega)), vis_end (.inl (by omega))]; exact ⟨.inl ⟨[], rfl, rfl⟩, Nat.zero_le _⟩
  | n + 1, i, hn => by
    by_cases h0 : s.size ≤ i ∨ bt s i = 0
    · rw [opts_end h0, vis_end h0]; exact ⟨.inl ⟨[], rfl, rfl⟩, Nat.zero_le _⟩
    · by_cases h1 : bt s i = 1
      · rw [opts_pad (by omega) h1, vis_pad (by omega) h1]
        obtain ⟨a, b⟩ := vis_opts s n (i + 1) (by omega)
        exact ⟨a, by omega⟩
      · by_cases h2 : s.size ≤ i + 1 ∨ bt s (i + 1) < 2 ∨ s.size - i < bt s (i + 1)
        · rw [opts_bad (by omega) (by omega) h1 h2, vis_bad (by omega) (by omega) h1 h2]
          exact ⟨.inr ⟨rfl, [], rfl⟩, by simp; omega⟩
        · rw [opts_one (by omega) (by omega) h1 h2, vis_one (by omega) (by omega) h1 h2]
          obtain ⟨a, b⟩ := vis_opts s n (i + bt s (i + 1)) (by omega)
          refine ⟨?_, by rw [List.length_cons]; omega⟩
          rcases a with ⟨l, e1, e2⟩ | ⟨e1, l, e2⟩
          · exact .inl ⟨_, by rw [e1]; rfl, by rw [e2]; rfl⟩
          · exact .inr ⟨by rw [e1]; rfl, _ :: l, by rw [e2]; rfl⟩
theorem vis_len (s : ByteArray) : (visL s 0).length ≤ s.size := (vis_opts s s.size 0 (by omega)).2
theorem vx_pl (o : Opx) : (vx o).pl ≠ -1 := by show (o.pl : Int) ≠ -1; omega
theorem vis_done {s : ByteArray} (h : ∀ x ∈ visL s 0, x.pl ≠ -1) : ∃ l, optsL s 0 = some l ∧ visL s 0 = l.map vx := by
  rcases (vis_opts s s.size 0 (by omega)).1 with h1 | ⟨_, l, e⟩
  · exact h1
  · exact absurd rfl (h vbad (by rw [e]; simp))
theorem vis_stop {s : ByteArray} {pre : List VX} (hp : pre <+: visL s 0) {x : VX} (hx : x ∈ pre) (e : x.pl = -1) : optsL s 0 = none := by
  rcases (vis_opts s s.size 0 (by omega)).1 with ⟨l, _, e2⟩ | ⟨e1, _⟩
  · have := hp.subset hx
    rw [e2, List.mem_map] at this
    obtain ⟨o, _, rfl⟩ := this
    exact absurd e (vx_pl o)
  · exact e1
/-- The stamp. -/
def stampV (x : VX) : Int × Int × Int := if x.da.size = 8 then ((seg x.da 0 4 : Nat), (seg x.da 4 4 : Nat), x.pl) else (0, 0, -1)
theorem stampV_vx (o : Opx) : stampV (vx o) = stampO o := rfl
theorem stampL_map {l : List Opx} {pre : List VX} {x : VX} {post : List VX} (h : l.map vx = pre ++ x :: post) (hp : ∀ y ∈ pre, y.kd ≠ 8) (hx : x.kd = 8) : stampL l = stampV x := by
  have hk : pre.length < l.length := by have := congrArg List.length h; simp at this; omega
  have he : ∀ (j : Nat) (hj : j < l.length), j < pre.length → (l[j]).kd ≠ 8 := fun j hj hj2 => by
    have h1 : (l.map vx)[j]'(by simpa using hj) = pre[j] := by simp only [h]; exact List.getElem_append_left hj2
    rw [List.getElem_map] at h1
    have := hp _ (List.getElem_mem hj2)
    rw [← h1] at this
    exact this
  have h2 : vx (l[pre.length]) = x := by
    have h1 : (l.map vx)[pre.length]'(by simpa using hk) = x := by simp only [h]; simp
    rwa [List.getElem_map] at h1
  rw [stampL_at hk he, ← h2, if_pos (by rw [← h2] at hx; exact hx), stampV_vx]
theorem stampS_stop {s : ByteArray} {l : List Opx} (ho : optsL s 0 = some l) {pre : List VX} {x : VX} (hp : pre ++ [x] <+: visL s 0) (hn : ∀ y ∈ pre, y.kd ≠ 8) (hx : x.kd = 8) : stampS s = stampV x := by
  unfold stampS
  rw [(opts_some ho).1]
  rcases (vis_opts s s.size 0 (by omega)).1 with ⟨l', e1, e2⟩ | ⟨e1, _⟩
  · rw [ho] at e1
    cases e1
    obtain ⟨post, e3⟩ := hp
    exact stampL_map (post := post) (by rw [← e2, ← e3]; simp) hn hx
  · rw [ho] at e1; cases e1
theorem stampS_done {s : ByteArray} {l : List Opx} (ho : optsL s 0 = some l) (hn : ∀ y ∈ visL s 0, y.kd ≠ 8) : stampS s = (0, 0, -1) := by
  unfold stampS
  rw [(opts_some ho).1]
  rcases (vis_opts s s.size 0 (by omega)).1 with ⟨l', e1, e2⟩ | ⟨e1, _⟩
  · rw [ho] at e1
    cases e1
    exact stampL_none fun j hj => hn (vx l[j]) (by rw [e2]; exact List.mem_map_of_mem (List.getElem_mem hj))
  · rw [ho] at e1; cases e1
theorem stampS_no {s : ByteArray} (ho : optsL s 0 = none) : stampS s = (0, 0, -1) := by
  unfold stampS
  rw [(opts_none ho).1]; rfl
end Go.Proofs.Ytbnhneompibilaa
