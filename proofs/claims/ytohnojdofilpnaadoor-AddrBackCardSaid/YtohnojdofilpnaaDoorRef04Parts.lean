/- The contracts of cloakroomref04: Parts. -/
import Derived.Test.YtohnojdofilpnaaDoorRef04Walks
namespace Go.Proofs.YtohnojdofilpnaaDoor.R04
open Go.RowKit
set_option linter.unusedVariables false

/-- The slice v holds the strings l. -/
def StrsAt (w : World) (v : Value) (l : List (List UInt8)) : Prop :=
  (v = .slice none 0 0 ∧ l = []) ∨ ∃ g cap, v = .slice (some ⟨g, 0, none⟩) l.length cap ∧ g < w.heap.size ∧ ∀ (j : Nat) (h : j < l.length), w.cell? ⟨g, j, none⟩ = some (.string ⟨l[j].toArray⟩)
def cellsS (l : List (List UInt8)) : List Value := l.map fun (g : List UInt8) => Value.string ⟨g.toArray⟩
theorem cellsS_append (a b : List (List UInt8)) : cellsS (a ++ b) = cellsS a ++ cellsS b := by simp [cellsS]
theorem StrsAt.ofRow {w : World} {B t n : Nat} {v : Value} {l : List (List UInt8)} (h : w.ownsRow B t 1 v n (cellsS l)) : StrsAt w v l := by
  have hn : l.length = n := by have := h.1; unfold cellsS at this; rw [List.length_map] at this; omega
  rcases h.2 with ⟨rfl, h0⟩ | ⟨g, cap, cur, rfl, _, hg, _, _, _, ht⟩
  · subst h0
    exact .inl ⟨rfl, List.eq_nil_of_length_eq_zero hn⟩
  · subst hn
    refine .inr ⟨g, cap, rfl, lt_of_block hg, fun j hj => ?_⟩
    rw [cell_of_row w g j cur t (0, 0) hg]
    have h1 : (cellsS l)[j]? = some (.string ⟨l[j].toArray⟩) := by simp [cellsS, hj]
    rw [← ht, List.getElem?_take] at h1
    simpa [hj] using h1
theorem StrsAt.below {w w' : World} {v : Value} {l : List (List UInt8)} (h : StrsAt w v l) (hb : Below w.heap.size w w') : StrsAt w' v l := by
  rcases h with h | ⟨g, cap, e, hg, hc⟩
  · exact .inl h
  · exact .inr ⟨g, cap, e, Nat.lt_of_lt_of_le hg hb.size, fun j hj => (hb.cell (p := ⟨g, j, none⟩) hg).trans (hc j hj)⟩
theorem StrsAt.some {w : World} {v : Value} {l : List (List UInt8)} (h : StrsAt w v l) (hl : 1 ≤ l.length) : ∃ g cap, v = .slice (some ⟨g, 0, none⟩) l.length cap ∧ g < w.heap.size ∧ ∀ (j : Nat) (h : j < l.length), w.cell? ⟨g, j, none⟩ = some (.string ⟨l[j].toArray⟩) := by
  rcases h with ⟨_, rfl⟩ | h
  · simp at hl
  · exact h
theorem drop_at (s : ByteArray) (f k : Nat) (hf : f ≤ k) (hk : k < s.size) : s.data.toList.drop f = (s.data.toList.drop f).take (k - f) ++ s[k] :: s.data.toList.drop (k + 1) := by
  have h1 : s.data.toList.drop k = s[k] :: s.data.toList.drop (k + 1) := by
    rw [List.drop_eq_getElem_cons (by simpa using hk)]; rfl
  have h2 : s.data.toList.drop k = (s.data.toList.drop f).drop (k - f) := by rw [List.drop_drop]; congr 1; omega
  rw [← h1, h2, List.take_append_drop]
theorem take_snoc (s : ByteArray) (f k : Nat) (hf : f ≤ k) (hk : k < s.size) : (s.data.toList.drop f).take (k + 1 - f) = (s.data.toList.drop f).take (k - f) ++ [s[k]] := by
  rw [show k + 1 - f = (k - f) + 1 by omega, List.take_succ_eq_append_getElem (by rw [List.length_drop]; simp; omega)]
  congr 1
  rw [List.getElem_drop]
  simp only [show f + (k - f) = k by omega]
  rfl
theorem Tryd.infoS : (Tryd.prog.info? 9).map (fun i => (i.zero, i.size, i.bytes)) = some (some (.string ⟨#[]⟩), 1, 16) := by kernel_rfl
theorem parts_any (s : ByteArray) (c : UInt8) (hs : s.size ≤ 1000) (w : World) :
    Calls Tryd.prog 23 #[.string s, .int .u8 (c.toNat : Nat)] w fun e w' => ∃ v, e = .returned v ∧ StrsAt w' v (partsL c s.data.toList) ∧ Below w.heap.size w w' := by
  obtain ⟨ti, hi, hz0, hz1, hz2⟩ := info_parts Tryd.infoS
  have hsz : s.data.toList.length = s.size := by simp
  have HL := Lib.hid hsz
  clear hsz
  go_enter Tryd.func23, Tryd.ntmps23
  go_wp2
  go_loopw [5, 6, 7] (fun v fr i wr => ∃ (f k : Nat) (gs : List (List UInt8)), f ≤ k ∧ k ≤ s.size ∧ fr = .int .i64 f ∧ i = .int .i64 k ∧ gs.length ≤ k ∧ wr.ownsRow w.heap.size 9 1 v gs.length (cellsS gs) ∧ Below w.heap.size w wr ∧ Hid (partsL c s.data.toList = gs ++ partsL c (s.data.toList.drop f)) ∧ Hid (c ∉ (s.data.toList.drop f).take (k - f))) (fun _ _ i _ => s.size - (intOf i).toNat)
  case atStart => exact ⟨0, 0, [], by omega, by omega, rfl, rfl, by simp, World.ownsRow_nil _ _ _ _, Below.refl _ _, Lib.hid rfl, Lib.hid (by simp)⟩
  case round =>
    obtain ⟨f, k, gs, hf, hk, rfl, rfl, hg, hown, hb, HP, HN⟩ := hrel
    have hbs := hb.size
    have b1 : (f : Int) ≤ k := by omega
    have b2 : (f : Int) ≤ s.size := by omega
    by_cases hlt : k < s.size
    · have b3 : (k : Int) ≤ s.size := by omega
      have hlti : (k : Int) < s.size := by omega
      by_cases hc : s[k]'hlt = c
      · have hci : (((s[k]'hlt).toNat : Int) == (c.toNat : Int)) = true := by rw [hc]; simp
        have HC := Lib.hid hc
        have HX := Lib.hid (ext_str s f k)
        have HD := Lib.hid (drop_at s f k hf hlt)
        clear hc
        go_wp2_with (first | (at_builtin; refine wpList_append_own _ rfl _ _ 38 rfl w.heap.size 9 ti (.string ⟨#[]⟩) 1 16 Tryd.underlying38 hi hz0 hz1 hz2 rfl (by decide) _ _ _ rfl (hown.alloc _) ⟨wr.heap.size, 0, none⟩ 1 1 [.string (s.extract f k)] rfl rfl ?c1 ?c2 ?c3 ?c4 ?c5 ?_))
        case c1 =>
          intro j u hj
          match j, hj with
          | 0, hj => simp at hj; subst hj; simp [Addr.add]
        case c2 => intro u hu; simp at hu; subst hu; rfl
        case c3 => unfold maxLen; omega
        case c4 => omega
        case c5 => have := hb.size; simp; omega
        intro v' w1 hown1 hgrow _
        have hb1 := (hb.alloc hb.size _).grown hgrow (by simp; have := hb.size; omega) (fun j hj => (hown.lt j hj).1)
        have R : Hid (w1.ownsRow w.heap.size 9 1 v' (gs ++ [(s.data.toList.drop f).take (k - f)]).length (cellsS (gs ++ [(s.data.toList.drop f).take (k - f)]))) := by
          rw [cellsS_append, List.length_append, List.length_singleton]
          rw [HX.out] at hown1
          exact Lib.hid hown1
        clear hown1 hgrow hown hb
        go_wp2
        go_roundw
        case rel =>
          refine ⟨k + 1, k + 1, gs ++ [(s.data.toList.drop f).take (k - f)], by omega, by omega, by go_num, by go_num, by simp; omega, R.out, hb1, Lib.hid ?_, Lib.hid (by simp)⟩
          rw [HP.out]
          conv => lhs; arg 2; rw [HD.out, HC.out, partsL_app c _ _ HN.out]
          simp
        case measure => simp [intOf]; omega
      · have hci : (((s[k]'hlt).toNat : Int) == (c.toNat : Int)) = false := by
          simp; intro h; exact hc (UInt8.toNat_inj.1 (by omega))
        have HT := Lib.hid (take_snoc s f k hf hlt)
        have HC := Lib.hid hc
        clear hc
        go_wp2
        go_roundw
        case rel =>
          refine ⟨f, k + 1, gs, by omega, by omega, rfl, by go_num, by omega, hown, hb, HP, Lib.hid ?_⟩
          rw [HT.out]
          intro h
          rcases List.mem_append.1 h with h | h
          · exact HN.out h
          · exact HC.out (List.mem_singleton.1 h).symm
        case measure => simp [intOf]; omega
    · obtain rfl : k = s.size := by omega
      have HX := Lib.hid (ext_str s f s.size)
      have HE : Hid ((s.data.toList.drop f).take (s.size - f) = s.data.toList.drop f) := Lib.hid (List.take_of_length_le (by rw [List.length_drop, HL.out]; omega))
      go_wp2_with (first | (at_builtin; refine wpList_append_own _ rfl _ _ 38 rfl w.heap.size 9 ti (.string ⟨#[]⟩) 1 16 Tryd.underlying38 hi hz0 hz1 hz2 rfl (by decide) _ _ _ rfl (hown.alloc _) ⟨wr.heap.size, 0, none⟩ 1 1 [.string (s.extract f s.size)] rfl rfl ?c1 ?c2 ?c3 ?c4 ?c5 ?_))
      case c1 =>
        intro j u hj
        match j, hj with
        | 0, hj => simp at hj; subst hj; simp [Addr.add]
      case c2 => intro u hu; simp at hu; subst hu; rfl
      case c3 => unfold maxLen; omega
      case c4 => omega
      case c5 => have := hb.size; simp; omega
      intro v' w1 hown1 hgrow _
      have hb1 := (hb.alloc hb.size _).grown hgrow (by simp; have := hb.size; omega) (fun j hj => (hown.lt j hj).1)
      have R : Hid (w1.ownsRow w.heap.size 9 1 v' (partsL c s.data.toList).length (cellsS (partsL c s.data.toList))) := by
        rw [HP.out, partsL_none c _ (by rw [← HE.out]; exact HN.out), cellsS_append, List.length_append, List.length_singleton, ← HE.out]
        rw [HX.out] at hown1
        exact Lib.hid hown1
      clear hown1 hgrow hown hb
      go_wp2
      go_ret
      exact ⟨_, rfl, StrsAt.ofRow R.out, hb1⟩
end Go.Proofs.YtohnojdofilpnaaDoor.R04
