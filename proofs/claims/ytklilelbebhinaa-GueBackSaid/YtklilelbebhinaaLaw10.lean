/- The laws of gue: what is asked of package gue; awake; the law against the reference. -/
import Derived.Test.YtklilelbebhinaaRef10Put
import Derived.Test.YtklilelbebhinaaRef10Get
import Derived.Test.YtklilelbebhinaaShapes
import Derived.OpenShut
namespace Go.Proofs.Ytklilelbebhinaa
open Go.RowKit Go.WideShapes
set_option linter.unusedVariables false
attribute [local go_sem ↓] ldCV stCV
attribute [local go_sem] rowAt_p rowOkAt_p setAt_p aggOf_a rowOk_new rowOf_new setRow_new aggCV aggCT
attribute [local go_sem ↓] Go.wp_at_zero Go.wp_at_succ

/-- What the laws ask of package gue. -/
structure GueOK : Prop where
  put : ∀ (c : CV) (p : ByteArray), BC c → p.size ≤ 1000000 → ∀ w : World,
    Calls Try.prog 6 #[.agg #[.bool c.v6, .int .i64 c.bk, .int .u64 c.ck, .bool c.fi, .int .i64 c.ins], .string p] w fun e w' => e = .returned (.tuple #[.string (out10 c p), .int .i64 (err10 c p)]) ∧ Below w.heap.size w w'
  get : ∀ (s : ByteArray), s.size ≤ 1000000 → ∀ w : World,
    Calls Try.prog 8 #[.string s] w fun e w' => e = .returned (.tuple #[.agg #[.bool (coverG s).v6, .int .i64 (coverG s).bk, .int .u64 (coverG s).ck, .bool (coverG s).fi, .int .i64 (coverG s).ins], .string (payG10 s), .int .i64 (errG10 s)]) ∧ Below w.heap.size w w'
theorem awk10 : err10 zeroC ⟨#[]⟩ = 0 := by decide
theorem awk10b : BC zeroC := ⟨by decide, by decide⟩
theorem begins {c : CV} {p : ByteArray} (he : err10 c p = 0) (hb : BC c) : ((out10 c p).extract 0 2).toList = [71, 85] := by
  obtain ⟨x, y, k, n, _, _, _, _, _, _, _, _, hO, _⟩ := out10_is he hb
  rw [ByteArray.toList_eq, ext_str', hO]
  rfl
theorem awake10 (K : GueOK) (w : World) : Calls Try.prog 5 #[] w fun e w' => e = .returned (.bool true) ∧ Below w.heap.size w w' := by
  have hp := K.put zeroC ⟨#[]⟩ awk10b (by decide)
  obtain ⟨b1, b2, b3, b4, b5, b6⟩ := back10 awk10 awk10b
  have b7 := begins awk10 awk10b
  have hg := K.get (out10 zeroC ⟨#[]⟩) (by rw [b1]; decide)
  rw [b4, b5, b6] at hg
  rw [awk10] at hp
  generalize out10 zeroC ⟨#[]⟩ = T at *
  have hz : (T.size : Int) = 18 := by rw [b1]; rfl
  have hz2 : (2 : Int) ≤ T.size := by omega
  have hN := K.get ⟨#[]⟩ (by decide)
  have e2 : errG10 ⟨#[]⟩ = 2 := by unfold errG10; rw [if_pos (by decide)]
  obtain ⟨h1, h2⟩ := coverG_no (s := ⟨#[]⟩) (by rw [e2]; omega)
  rw [e2, h1, h2] at hN
  unfold zeroC at hp hg hN
  dsimp only at hp hg hN
  have HP := Lib.hid hp
  have HG := Lib.hid hg
  have HN := Lib.hid hN
  have hbe : ((T.extract 0 2).toList == [71, 85]) = true := by rw [b7]; rfl
  clear hp hg hN b1 b2 b3 b4 b5 b6 b7 e2 h1 h2 K
  have hq : Below w.heap.size w w := Below.refl _ _
  go_enter Try.func5, Try.ntmps5
  go_wp2_with (first | (go_at_call 6; (with_reducible refine (HP.out _).mono ?_); rintro e wa ⟨rfl, hb⟩; replace hq := hq.trans (hb.mono hq.size); clear hb) | (go_at_call 8; (with_reducible refine (HG.out _).mono ?_); rintro e wb ⟨rfl, hb⟩; replace hq := (hq.trans (hb.mono hq.size)).alloc (Nat.le_trans hq.size hb.size) (.cells #[.bool false, .int .i64 0, .int .u64 0, .bool false, .int .i64 0] 24); clear hb) | (go_at_call 8; (with_reducible refine (HN.out _).mono ?_); rintro e wc ⟨rfl, hb⟩; replace hq := (hq.trans (hb.mono hq.size)).alloc (Nat.le_trans hq.size hb.size) (.cells #[.bool false, .int .i64 0, .int .u64 0, .bool false, .int .i64 0] 24); clear hb) | fail)
  go_ret
  exact ⟨rfl, hq⟩
theorem bounds_u64g {n : Int} (h : (Lit.int .u64 n).wf = true) : 0 ≤ n ∧ n < 18446744073709551616 := by
  have := bounds_u64 h; omega
theorem fits10 {w : World} {a : Array Value} (h : Fits w (.two .bool (.two (.int .i64) (.two (.int .u64) (.two .bool (.two (.int .i64) .nil))))) (Value.agg a).cells.toList) : ∃ c : CV, a = #[.bool c.v6, .int .i64 c.bk, .int .u64 c.ck, .bool c.fi, .int .i64 c.ins] ∧ BC c := by
  obtain ⟨c1, c2, e, _, ⟨v, rfl⟩, c3, c4, rfl, _, ⟨b, rfl, _⟩, c5, c6, rfl, _, ⟨k, rfl, hk⟩, c7, c8, rfl, _, ⟨f, rfl⟩, c9, c10, rfl, _, ⟨i, rfl, _⟩, rfl⟩ := h
  have b1 := bounds_u64g hk
  refine ⟨⟨v, b, k, f, i⟩, ?_, ⟨b1.1, b1.2⟩⟩
  apply Array.toList_inj.1
  exact e
theorem Held.allocC {B g : Nat} {t : TypeId} {cs : Array Value} {w0 w : World} (h : Held B g t cs w0 w) (o : Obj) : Held B g t cs w0 (w.alloc o) :=
  ⟨HasB.alloc h.1 o, h.2.1.alloc h.2.2 o, by rw [World.size_alloc]; have := h.2.2; omega⟩
theorem Held.setC {B g : Nat} {t : TypeId} {cs : Array Value} {w0 w : World} (h : Held B g t cs w0 w) (b i : Nat) (u : Value) (hb : B ≤ b) (n1 : g ≠ b) : Held B g t cs w0 (w.setCell ⟨b, i, none⟩ u) :=
  ⟨HasB.far h.1 ⟨b, i, none⟩ n1 u, Below.setCell (p := ⟨b, i, none⟩) h.2.1 hb u, by have := h.2.2; simpa [World.setCell] using this⟩
theorem gtells_big (K : GueOK) (c : CV) (p s : ByteArray) (h : 200 < p.size ∨ 200 < s.size) (w : World) : Calls Try.prog 3 #[.agg #[.bool c.v6, .int .i64 c.bk, .int .u64 c.ck, .bool c.fi, .int .i64 c.ins], .string p, .string s] w fun e w' => e = .returned (.bool true) ∧ Below w.heap.size w w' := by
  have AW := Lib.hid (awake10 K)
  have HX : Hid (Held w.heap.size w.heap.size 24 #[.bool c.v6, .int .i64 c.bk, .int .u64 c.ck, .bool c.fi, .int .i64 c.ins] w (w.alloc (.cells #[.bool c.v6, .int .i64 c.bk, .int .u64 c.ck, .bool c.fi, .int .i64 c.ins] 24))) := Lib.hid ⟨HasB.new w _ _, (Below.refl _ _).alloc (Nat.le_refl _) _, by simp⟩
  by_cases h1 : 200 < p.size
  · have y1 : (200 : Int) < p.size := by omega
    clear h h1
    go_enter Try.func3, Try.ntmps3
    go_wp2_with (first | (go_at_call 5; (with_reducible refine (AW.out _).mono ?_); rintro e wz ⟨rfl, hb⟩; replace HX := Lib.hid (HX.out.next hb); clear hb) | fail)
    go_ret
    exact ⟨rfl, HX.out.2.1⟩
  · have y1 : ¬ (200 : Int) < p.size := by omega
    have y2 : (200 : Int) < s.size := by omega
    clear h h1
    go_enter Try.func3, Try.ntmps3
    go_wp2_with (first | (go_at_call 5; (with_reducible refine (AW.out _).mono ?_); rintro e wz ⟨rfl, hb⟩; replace HX := Lib.hid (HX.out.next hb); clear hb) | fail)
    go_ret
    exact ⟨rfl, HX.out.2.1⟩
set_option maxRecDepth 100000 in
set_option maxHeartbeats 2000000 in
theorem gtells_small (K : GueOK) (c : CV) (p s : ByteArray) (hb : BC c) (h1 : p.size ≤ 200) (h2 : s.size ≤ 200) (w : World) : Calls Try.prog 3 #[.agg #[.bool c.v6, .int .i64 c.bk, .int .u64 c.ck, .bool c.fi, .int .i64 c.ins], .string p, .string s] w fun e w' => e = .returned (.bool true) ∧ Below w.heap.size w w' := by
  have AW := Lib.hid (awake10 K)
  have P1 := Lib.hid (K.put c p hb (by omega))
  have P2 := Lib.hid (R10.put_any c p hb (by omega))
  have G1 := Lib.hid (K.get s (by omega))
  have G2 := Lib.hid (R10.get_any s (by omega))
  generalize out10 c p = O at P1 P2
  generalize err10 c p = E at P1 P2
  generalize coverG s = g at G1 G2
  generalize payG10 s = y at G1 G2
  generalize errG10 s = E2 at G1 G2
  have y1 : ¬ (200 : Int) < p.size := by omega
  have y2 : ¬ (200 : Int) < s.size := by omega
  clear K hb h1 h2
  have HX : Hid (Held w.heap.size w.heap.size 24 #[.bool c.v6, .int .i64 c.bk, .int .u64 c.ck, .bool c.fi, .int .i64 c.ins] w (w.alloc (.cells #[.bool c.v6, .int .i64 c.bk, .int .u64 c.ck, .bool c.fi, .int .i64 c.ins] 24))) := Lib.hid ⟨HasB.new w _ _, (Below.refl _ _).alloc (Nat.le_refl _) _, by simp⟩
  (have hro := HasB.rowOk HX.out.1 (n := 5) rfl; have hrw := HasB.rowOf HX.out.1)
  go_enter Try.func3, Try.ntmps3
  go_wp2_with (first | (go_at_call 6; (with_reducible refine (P1.out _).mono ?_); rintro e wa ⟨rfl, hb⟩; clear hro hrw; replace HX := Lib.hid (HX.out.next hb); clear hb; (have hro := HasB.rowOk HX.out.1 (n := 5) rfl; have hrw := HasB.rowOf HX.out.1)) | (go_at_call 7; (with_reducible refine (P2.out _).mono ?_); rintro e wa ⟨rfl, hb⟩; clear hro hrw; replace HX := Lib.hid (HX.out.next hb); clear hb; (have hro := HasB.rowOk HX.out.1 (n := 5) rfl; have hrw := HasB.rowOf HX.out.1)) | (go_at_call 8; (with_reducible refine (G1.out _).mono ?_); rintro e wx ⟨rfl, hb⟩; clear hro hrw; replace HX := Lib.hid ((HX.out.next hb).allocC (.cells #[.bool g.v6, .int .i64 g.bk, .int .u64 g.ck, .bool g.fi, .int .i64 g.ins] 24)); have hX := HasB.new wx 24 #[.bool g.v6, .int .i64 g.bk, .int .u64 g.ck, .bool g.fi, .int .i64 g.ins]; clear hb) | (go_at_call 9; (with_reducible refine (G2.out _).mono ?_); rintro e wy ⟨rfl, hb⟩; replace HX := Lib.hid ((HX.out.next hb).allocC (.cells #[.bool g.v6, .int .i64 g.bk, .int .u64 g.ck, .bool g.fi, .int .i64 g.ins] 24)); replace hX := (HasB.below hX hb hX.lt).alloc (.cells #[.bool g.v6, .int .i64 g.bk, .int .u64 g.ck, .bool g.fi, .int .i64 g.ins] 24); have hY := HasB.new wy 24 #[.bool g.v6, .int .i64 g.bk, .int .u64 g.ck, .bool g.fi, .int .i64 g.ins]; have hro := HasB.rowOk hX (n := 5) rfl; have hrw := HasB.rowOf hX; have hro2 := HasB.rowOk hY (n := 5) rfl; have hrw2 := HasB.rowOf hY; clear hb) | (go_at_call 5; (with_reducible refine (AW.out _).mono ?_); rintro e wz ⟨rfl, hb⟩; replace HX := Lib.hid (HX.out.next hb); clear hb) | fail)
  go_ret
  exact ⟨rfl, HX.out.2.1⟩
/-- The law's walk. -/
theorem gueTells_any (K : GueOK) (a : Array Value) (p s : ByteArray) (w : World) (fa : Fits w (.two .bool (.two (.int .i64) (.two (.int .u64) (.two .bool (.two (.int .i64) .nil))))) (Value.agg a).cells.toList) :
    Calls Try.prog 3 #[.agg a, .string p, .string s] w fun e w' => e = .returned (.bool true) ∧ Below w.heap.size w w' := by
  obtain ⟨c, rfl, hb⟩ := fits10 fa
  by_cases h : 200 < p.size ∨ 200 < s.size
  · exact gtells_big K c p s h w
  · exact gtells_small K c p s hb (by omega) (by omega) w
end Go.Proofs.Ytklilelbebhinaa
