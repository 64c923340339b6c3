/- What a reader says of a quic header, as errG9 and headG9 say it. -/
import Derived.Test.YtniaelmloealbaaQuicIds
namespace Go.Proofs.Ytniaelmloealbaa
open Go.RowKit
set_option linter.unusedVariables false

theorem idE_cases (s : ByteArray) (i : Nat) : idE s i = 0 ∨ idE s i = 2 ∨ idE s i = 3 := by
  unfold idE
  split
  · exact .inr (.inl rfl)
  · split
    · exact .inr (.inr rfl)
    · split
      · exact .inr (.inl rfl)
      · exact .inl rfl
theorem getN_nil : getN ⟨#[]⟩ 0 1 = 0 := getN_no (s := ⟨#[]⟩) (p := 0) (k := 1) (by simp [ByteArray.size])
theorem numRd_none : numRd none 1 = (0, none) := by
  unfold numRd
  rw [if_pos (by omega)]
  show (getN ⟨#[]⟩ 0 1, none) = _
  rw [getN_nil]
theorem sz_none : szO none = false ∧ szR none = (⟨#[]⟩, none) := by
  unfold szO szR
  rw [numRd_none]
  exact ⟨rfl, rfl⟩
theorem sz_two {s : ByteArray} {p : Nat} (h : idE s p = 2) : szO (some (s.extract p s.size)) = false ∧ szR (some (s.extract p s.size)) = (⟨#[]⟩, none) := by
  have hz : (s.extract p s.size).size = s.size - p := by rw [ByteArray.size_extract]; omega
  by_cases h1 : s.size ≤ p
  · have hn : numRd (some (s.extract p s.size)) 1 = (0, none) := by
      unfold numRd
      rw [if_pos (by omega), textR_no (by rw [hz]; omega)]
      show (getN ⟨#[]⟩ 0 1, none) = _
      rw [getN_nil]
    unfold szO szR
    rw [hn]
    exact ⟨rfl, rfl⟩
  · have hb : bt s p ≤ 20 ∧ s.size - p - 1 < bt s p := by
      unfold idE at h
      rw [if_neg h1] at h
      split at h
      · omega
      · split at h
        · omega
        · omega
    have hn := numRd_at s p 1 (by omega) (by omega) (by omega)
    rw [bt_num s p (by omega)] at hn
    have hz1 : (s.extract (p + 1) s.size).size = s.size - (p + 1) := by rw [ByteArray.size_extract]; omega
    unfold szO szR
    rw [show numRd (some (s.extract p s.size)) 1 = _ from hn]
    simp only
    rw [if_neg (by omega)]
    exact ⟨decide_eq_false (by omega), textR_no (by rw [hz1]; omega)⟩
theorem sz_three {s : ByteArray} {p : Nat} (h : idE s p = 3) : szO (some (s.extract p s.size)) = true := by
  unfold idE at h
  split at h
  · omega
  · split at h
    · have hn := numRd_at s p 1 (by omega) (by omega) (by omega)
      rw [bt_num s p (by omega)] at hn
      unfold szO
      rw [show numRd (some (s.extract p s.size)) 1 = _ from hn]
      exact decide_eq_true (by simp only; omega)
    · split at h <;> omega
theorem sz_ok {s : ByteArray} {p : Nat} (h : idE s p = 0) : szO (some (s.extract p s.size)) = false ∧ szR (some (s.extract p s.size)) = (idT s p, some (s.extract (idN s p) s.size)) := by
  obtain ⟨h1, h2, h3, h4, h5⟩ := idE_ok h
  have hn := numRd_at s p 1 (by omega) (by omega) (by omega)
  rw [bt_num s p (by omega)] at hn
  unfold szO szR
  rw [show numRd (some (s.extract p s.size)) 1 = _ from hn]
  simp only
  rw [if_neg (by omega), textR_at s (p + 1) (bt s p) (by omega), h4, h5]
  exact ⟨decide_eq_false (by omega), rfl⟩
theorem rest_at (s : ByteArray) (p : Nat) : (restR (some (s.extract p s.size))).1 = s.extract p s.size ∧ badR (restR (some (s.extract p s.size))).2 = false := by
  refine ⟨?_, rfl⟩
  apply ext_eq
  show ((s.extract p s.size).extract 0 (s.extract p s.size).size).data.toList = _
  rw [ext_str', List.drop_zero, Nat.sub_zero, size_list, List.take_length]
/-- A short header. -/
theorem read_short {s : ByteArray} (h0 : s.size ≠ 0) (hb : bt s 0 / 64 = 1) : (9 ≤ s.size ∧ errG9 s = 0 ∧ badR (restR (textR (some (s.extract 1 s.size)) 8).2).2 = false ∧ headG9 s = ⟨false, (bt s 0 % 64 : Nat), 0, (textR (some (s.extract 1 s.size)) 8).1, ⟨#[]⟩, (restR (textR (some (s.extract 1 s.size)) 8).2).1⟩) ∨ (errG9 s = 2 ∧ badR (restR (textR (some (s.extract 1 s.size)) 8).2).2 = true) := by
  by_cases h9 : 9 ≤ s.size
  · have ht : textR (some (s.extract 1 s.size)) 8 = (s.extract 1 9, some (s.extract 9 s.size)) := textR_at s 1 8 (by omega)
    obtain ⟨r1, r2⟩ := rest_at s 9
    have he : errG9 s = 0 := errG9_isS (by omega) (by omega) h9
    rw [ht]
    simp only
    exact .inl ⟨h9, he, r2, by rw [(errG9_short he (by omega)).2.2, r1]⟩
  · have hz : (s.extract 1 s.size).size = s.size - 1 := by rw [ByteArray.size_extract]; omega
    have ht : textR (some (s.extract 1 s.size)) 8 = (⟨#[]⟩, none) := textR_no (by rw [hz]; omega)
    rw [ht]
    refine .inr ⟨?_, rfl⟩
    unfold errG9
    rw [if_neg h0, if_neg (by omega), if_pos (by omega), if_pos (by omega)]
/-- A long header. -/
theorem read_long {s : ByteArray} (h0 : s.size ≠ 0) (hb : bt s 0 / 64 = 3) {v : Int × Option ByteArray} {d c r : ByteArray × Option ByteArray} {o : Bool} (hv : numRd (some (s.extract 1 s.size)) 4 = v) (hd : szR v.2 = d) (hc : szR d.2 = c) (hr : restR c.2 = r) (ho : (szO v.2 || szO d.2) = o) :
    (o = true ∧ errG9 s = 3) ∨ (o = false ∧ badR r.2 = true ∧ errG9 s = 2) ∨ (o = false ∧ badR r.2 = false ∧ errG9 s = 0 ∧ headG9 s = ⟨true, (bt s 0 % 64 : Nat), v.1, d.1, c.1, r.1⟩) := by
  have hbt := bt_lt s 0
  by_cases h5 : s.size < 5
  · have he : errG9 s = 2 := by
      unfold errG9
      rw [if_neg h0, if_neg (by omega), if_neg (by omega), if_pos h5]
    have hz : (s.extract 1 s.size).size = s.size - 1 := by rw [ByteArray.size_extract]; omega
    have hn : v.2 = none := by
      rw [← hv]
      unfold numRd
      rw [if_pos (by omega), textR_no (by rw [hz]; omega)]
    obtain ⟨z1, z2⟩ := sz_none
    rw [hn] at hd ho
    rw [z2] at hd
    subst hd
    rw [z2] at hc
    subst hc
    rw [z1] at ho
    subst ho hr
    exact .inr (.inl ⟨rfl, rfl, he⟩)
  · have hv2 := numRd_at s 1 4 (by omega) (by omega) (by omega)
    rw [show numRd (some (s.extract 1 s.size)) 4 = _ from hv2] at hv
    subst hv
    dsimp only at hd ho ⊢
    have hE : errG9 s = if idE s 5 = 0 then idE s (idN s 5) else idE s 5 := by
      unfold errG9
      rw [if_neg h0, if_neg (by omega), if_neg (by omega), if_neg h5]
    rcases idE_cases s 5 with h | h | h
    · rw [if_pos h] at hE
      obtain ⟨z1, z2⟩ := sz_ok h
      rw [show 1 + 4 = 5 from rfl, z2] at hd
      subst hd
      rw [show 1 + 4 = 5 from rfl, z1, Bool.false_or] at ho
      dsimp only at hc ho ⊢
      rcases idE_cases s (idN s 5) with g | g | g
      · obtain ⟨y1, y2⟩ := sz_ok g
        rw [y2] at hc
        subst hc
        obtain ⟨r1, r2⟩ := rest_at s (idN s (idN s 5))
        dsimp only at hr ⊢
        rw [← hr]
        rw [g] at hE
        refine .inr (.inr ⟨by rw [← ho]; exact y1, r2, hE, ?_⟩)
        rw [(errG9_long hE (by omega)).2.2.2.2, r1]
        rfl
      · obtain ⟨y1, y2⟩ := sz_two g
        rw [y2] at hc
        subst hc hr
        exact .inr (.inl ⟨by rw [← ho]; exact y1, rfl, by rw [hE]; exact g⟩)
      · exact .inl ⟨by rw [← ho]; exact sz_three g, by rw [hE]; exact g⟩
    · rw [if_neg (by omega)] at hE
      obtain ⟨z1, z2⟩ := sz_two h
      obtain ⟨n1, n2⟩ := sz_none
      rw [show 1 + 4 = 5 from rfl, z2] at hd
      subst hd
      rw [show 1 + 4 = 5 from rfl, z1] at ho
      rw [n2] at hc
      subst hc hr
      rw [n1] at ho
      exact .inr (.inl ⟨ho.symm, rfl, by rw [hE]; exact h⟩)
    · rw [if_neg (by omega)] at hE
      rw [show 1 + 4 = 5 from rfl, sz_three h, Bool.true_or] at ho
      exact .inl ⟨ho.symm, by rw [hE]; exact h⟩
theorem numRd4_bd (st : Option ByteArray) : 0 ≤ (numRd st 4).1 ∧ (numRd st 4).1 < 4294967296 := by
  unfold numRd
  split
  · show 0 ≤ getN _ 0 4 ∧ getN _ 0 4 < 4294967296
    unfold getN
    split
    · have := num_sub_lt (textR st 4).1 (0 : Int).toNat (4 : Int).toNat 4 (by omega)
      have h4 : (256 : Nat) ^ 4 = 4294967296 := by decide
      omega
    · omega
  · simp
end Go.Proofs.Ytniaelmloealbaa
