/- The contracts of strings.Builder's WriteByte, WriteString behind Grow. -/
import Derived.Lib.Builder
import Derived.Lib.AppendStr
import Derived.Test.YtkbfiikhflehaaaProg
import Derived.Test.YtkbfiikhflehaaaKit
import Derived.Handy
import Derived.BigQuiet
import Derived.WalkLawsBesides
namespace Go.Proofs.Ytkbfiikhflehaaa
open Go.RowKit
set_option linter.unusedVariables false

theorem Try.infoU8 : (Try.prog.info? 5).map (fun i => (i.zero, i.size, i.bytes)) = some (some (.int .u8 0), 1, 1) := by kernel_rfl
theorem builder_below {B b : Nat} {p : Value} {bs : List Value} {w w' : World} (h : Lib.BuilderAt 59 5 B b p bs w) (hb : Below w.heap.size w w') : Lib.BuilderAt 59 5 B b p bs w' := by
  obtain ⟨hB, v, hbk, hown, hne⟩ := h
  refine ⟨hB, v, HasB.below hbk hb (HasB.lt hbk), ⟨hown.1, ?_⟩, hne⟩
  rcases hown.2 with h0 | ⟨g, cap, cur, h1, h2, h3, h4⟩
  · exact .inl h0
  · exact .inr ⟨g, cap, cur, h1, h2, HasB.below h3 hb (HasB.lt h3), h4⟩
theorem copyCheck_used (b : Nat) (w : World) (h : w.cell? ⟨b, 0, none⟩ = some (.pointer (some ⟨b, 0, none⟩)))  :
    Calls Try.prog 43 #[.pointer (some ⟨b, 0, none⟩)] w fun e w' => e = .returned (.tuple #[]) ∧ w = w' := by
  have hn : (binOp .neq 57 (.pointer (some ⟨b, 0, none⟩)) (.pointer (some ⟨b, 0, none⟩))).run Try.prog w = .ok (.bool false) w := by
    have hj : (Try.prog.info? 59).isSome = true := by kernel_rfl
    obtain ⟨j, hj⟩ := Option.isSome_iff_exists.1 hj
    exact Lib.run_neq_ptr_same w ⟨b, 0, none⟩ (by kernel_rfl) hj
  go_enter Try.func43, Try.ntmps43
  go_wp2
  go_end0
  exact ⟨rfl, rfl⟩
set_option maxHeartbeats 1000000 in
theorem wstr_any (B b : Nat) (bs : List Value) (s : ByteArray) (w : World) (h : Lib.BuilderAt 59 5 B b (.pointer (some ⟨b, 0, none⟩)) bs w) (hlen : bs.length + s.size ≤ 140737488355328) (hBw : B ≤ w.heap.size) :
    Calls Try.prog 29 #[.pointer (some ⟨b, 0, none⟩), .string s] w fun e w' => e = .returned (.tuple #[.int .i64 s.size, .nilIface]) ∧ Lib.BuilderAt 59 5 B b (.pointer (some ⟨b, 0, none⟩)) (bs ++ cellsB s.data.toList) w' ∧ Below B w w' := by
  obtain ⟨ti, hi, hz0, hz1, hz2⟩ := info_parts Try.infoU8
  obtain ⟨hB, v, hbk, hown, hne⟩ := h
  have c0 : w.cell? ⟨b, 0, none⟩ = some (.pointer (some ⟨b, 0, none⟩)) := HasB.cell hbk 0 _ rfl
  have c1 : w.cell? ⟨b, 1, none⟩ = some v := HasB.cell hbk 1 _ rfl
  have hlt : b < w.heap.size := HasB.lt hbk
  go_enter Try.func29, Try.ntmps29
  go_wp2_with (first | (go_at_call 43; refine (copyCheck_used b _ c0).mono ?_; rintro e w' ⟨rfl, rfl⟩) | (at_builtin; refine Lib.wpList_append_own_string _ rfl _ _ 41 9 rfl B 5 ti Try.underlying41 Try.underlying9 hi hz0 hz1 hz2 _ _ _ rfl hown s rfl ?c3 ?c4 ?c5 ?_))
  case c3 => unfold maxLen; omega
  case c4 => omega
  case c5 => omega
  intro v' w2 hown' hgrow _
  have hb2 : w2.heap[b]? = some (.cells #[.pointer (some ⟨b, 0, none⟩), v] 59 (0, 0)) := by
    rw [hgrow.block b hlt (fun e => hne e.symm)]
    exact hbk
  have d0 : w2.cell? ⟨b, 0, none⟩ = some (.pointer (some ⟨b, 0, none⟩)) := HasB.cell hb2 0 _ rfl
  have d1 : w2.cell? ⟨b, 1, none⟩ = some v := HasB.cell hb2 1 _ rfl
  have f1 : w2.frozen? ⟨b, 1, none⟩ = false := HasB.free hb2 1
  have R : Hid (Lib.BuilderAt 59 5 B b (.pointer (some ⟨b, 0, none⟩)) (bs ++ cellsB s.data.toList) (w2.setCell ⟨b, 1, none⟩ v')) :=
    Lib.hid (Lib.BuilderAt.put hB hb2 (bs' := bs ++ Lib.strCells s) (by simpa [Lib.strCells_length] using hown') (by decide))
  have R2 : Hid (Below B w (w2.setCell ⟨b, 1, none⟩ v')) :=
    Lib.hid (((Below.refl B w).grown hgrow (by omega) (fun k hk => (hown.lt k hk).1)).setCell (p := ⟨b, 1, none⟩) hB _)
  obtain ⟨ao, n', cap, rfl⟩ : ∃ ao n' cap, v' = .slice ao n' cap := by
    rcases hown'.2 with ⟨hv, _⟩ | ⟨g, cap, cur, hv, _⟩
    · exact ⟨_, _, _, hv⟩
    · exact ⟨_, _, _, hv⟩
  clear hown' hgrow hown hbk hb2 c0 c1
  go_wp2
  go_ret2
  exact ⟨rfl, R.out, R2.out⟩
end Go.Proofs.Ytkbfiikhflehaaa
