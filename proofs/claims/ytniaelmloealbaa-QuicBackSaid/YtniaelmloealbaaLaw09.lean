/- The laws of quic: what is asked of package quic; of, back, awake. -/
import Derived.Test.YtniaelmloealbaaRef09With
import Derived.Test.YtniaelmloealbaaSmall
import Derived.Test.YtniaelmloealbaaShapes
import Derived.OpenShut
namespace Go.Proofs.Ytniaelmloealbaa
open Go.RowKit Go.WideShapes
set_option linter.unusedVariables false
attribute [local go_sem ↓] ldH9 stH9 ldR9 stR9
attribute [local go_sem] rowAt_p rowOkAt_p setAt_p aggOf_a rowOk_new rowOf_new setRow_new agg9 aggT9
attribute [local go_sem ↓] Go.wp_at_zero Go.wp_at_succ

/-- What the laws ask of package quic. -/
structure QuicOK : Prop where
  put : ∀ (h : H9), B9 h → h.dc.size ≤ 1000000 → h.sc.size ≤ 1000000 → h.re.size ≤ 1000000 → ∀ w : World,
    Calls Try.prog 7 #[.agg #[.bool h.lg, .int .i64 h.bi, .int .u32 h.ve, .string h.dc, .string h.sc, .string h.re]] w fun e w' => e = .returned (.tuple #[.string (out9 h), .int .i64 (err9 h)]) ∧ Below w.heap.size w w'
  get : ∀ (s : ByteArray), s.size ≤ 1000000 → ∀ w : World,
    Calls Try.prog 10 #[.string s] w fun e w' => e = .returned (.tuple #[.agg #[.bool (headG9 s).lg, .int .i64 (headG9 s).bi, .int .u32 (headG9 s).ve, .string (headG9 s).dc, .string (headG9 s).sc, .string (headG9 s).re], .int .i64 (errG9 s)]) ∧ Below w.heap.size w w'
  wth : ∀ (s c : ByteArray), s.size ≤ 1000000 → c.size ≤ 1000000 → ∀ w : World,
    Calls Try.prog 12 #[.string s, .string c] w fun e w' => e = .returned (.tuple #[.string (withO s c), .int .i64 (withE s c)]) ∧ Below w.heap.size w w'
theorem of9_any (h : H9) (w : World) :
    Calls Try.prog 8 #[.agg #[.bool h.lg, .int .i64 h.bi, .int .u32 h.ve, .string h.dc, .string h.sc, .string h.re]] w fun e w' => e = .returned (.agg #[.bool h.lg, .int .i64 h.bi, .int .u32 h.ve, .string h.dc, .string h.sc, .string h.re]) ∧ Below w.heap.size w w' := by
  have HW := HasB.new (w.alloc (.cells #[.bool h.lg, .int .i64 h.bi, .int .u32 h.ve, .string h.dc, .string h.sc, .string h.re] 24)) 31 #[.bool h.lg, .int .i64 h.bi, .int .u32 h.ve, .string h.dc, .string h.sc, .string h.re]
  rw [World.size_alloc] at HW
  have HL : Below w.heap.size w ((w.alloc (.cells #[.bool h.lg, .int .i64 h.bi, .int .u32 h.ve, .string h.dc, .string h.sc, .string h.re] 24)).alloc (.cells #[.bool h.lg, .int .i64 h.bi, .int .u32 h.ve, .string h.dc, .string h.sc, .string h.re] 31)) := ((Below.refl _ _).alloc (Nat.le_refl _) _).alloc (by simp) _
  go_enter Try.func8, Try.ntmps8
  go_wp2_with fail
  try simp only [Exit.inBlock, Exit.then]
  refine bodyPost_ret (v := .agg #[.bool h.lg, .int .i64 h.bi, .int .u32 h.ve, .string h.dc, .string h.sc, .string h.re]) (results_cell_row Try.results8 _ _ (w.heap.size + 1) _ _ _ _ rfl HW Try.underlying31 rfl infoH9) rfl ⟨rfl, HL⟩
theorem back9_any (h : H9) (w : World) :
    Calls Try.prog 14 #[.agg #[.bool h.lg, .int .i64 h.bi, .int .u32 h.ve, .string h.dc, .string h.sc, .string h.re]] w fun e w' => e = .returned (.agg #[.bool h.lg, .int .i64 h.bi, .int .u32 h.ve, .string h.dc, .string h.sc, .string h.re]) ∧ Below w.heap.size w w' := by
  have HW := HasB.new (w.alloc (.cells #[.bool h.lg, .int .i64 h.bi, .int .u32 h.ve, .string h.dc, .string h.sc, .string h.re] 31)) 24 #[.bool h.lg, .int .i64 h.bi, .int .u32 h.ve, .string h.dc, .string h.sc, .string h.re]
  rw [World.size_alloc] at HW
  have HL : Below w.heap.size w ((w.alloc (.cells #[.bool h.lg, .int .i64 h.bi, .int .u32 h.ve, .string h.dc, .string h.sc, .string h.re] 31)).alloc (.cells #[.bool h.lg, .int .i64 h.bi, .int .u32 h.ve, .string h.dc, .string h.sc, .string h.re] 24)) := ((Below.refl _ _).alloc (Nat.le_refl _) _).alloc (by simp) _
  go_enter Try.func14, Try.ntmps14
  go_wp2_with fail
  try simp only [Exit.inBlock, Exit.then]
  refine bodyPost_ret (v := .agg #[.bool h.lg, .int .i64 h.bi, .int .u32 h.ve, .string h.dc, .string h.sc, .string h.re]) (results_cell_row Try.results14 _ _ (w.heap.size + 1) _ _ _ _ rfl HW Try.underlying24 rfl infoR9) rfl ⟨rfl, HL⟩
theorem awk9a : errG9 ⟨#[64, 97, 98, 99, 100, 101, 102, 103, 104]⟩ = 0 ∧ headG9 ⟨#[64, 97, 98, 99, 100, 101, 102, 103, 104]⟩ = ⟨false, 0, 0, ⟨#[97, 98, 99, 100, 101, 102, 103, 104]⟩, ⟨#[]⟩, ⟨#[]⟩⟩ := by
  have h0 : bt ⟨#[64, 97, 98, 99, 100, 101, 102, 103, 104]⟩ 0 = 64 := rfl
  have he : errG9 ⟨#[64, 97, 98, 99, 100, 101, 102, 103, 104]⟩ = 0 := errG9_isS (by rw [h0]) (by rw [h0]; omega) (by decide)
  refine ⟨he, ?_⟩
  rw [(errG9_short he (by rw [h0]; omega)).2.2, h0]
  rfl
theorem awk9b : errG9 ⟨#[97]⟩ = 2 := by
  have h0 : bt ⟨#[97]⟩ 0 = 97 := rfl
  unfold errG9
  rw [if_neg (by decide), h0, if_neg (by decide), if_pos (by decide), if_pos (by decide)]
theorem awk9c : errG9 ⟨#[63]⟩ = 3 := by
  have h0 : bt ⟨#[63]⟩ 0 = 63 := rfl
  unfold errG9
  rw [if_neg (by decide), h0, if_pos (by decide)]
theorem awake09 (K : QuicOK) (w : World) : Calls Try.prog 6 #[] w fun e w' => e = .returned (.bool true) ∧ Below w.heap.size w w' := by
  have ha := K.get ⟨#[64, 97, 98, 99, 100, 101, 102, 103, 104]⟩ (by decide)
  have hb := K.get ⟨#[97]⟩ (by decide)
  have hc := K.get ⟨#[63]⟩ (by decide)
  rw [awk9a.1, awk9a.2] at ha
  rw [awk9b, headG9_no (by rw [awk9b]; decide)] at hb
  rw [awk9c, headG9_no (by rw [awk9c]; decide)] at hc
  unfold zero9 at hb hc
  dsimp only at ha hb hc
  have GA := Lib.hid ha
  have GB := Lib.hid hb
  have GC := Lib.hid hc
  clear ha hb hc K
  have hq : Below w.heap.size w w := Below.refl _ _
  go_enter Try.func6, Try.ntmps6
  go_wp2_with (first | (go_at_call 10; (with_reducible refine (GA.out _).mono ?_); rintro e wa ⟨rfl, hb⟩; replace hq := (hq.trans (hb.mono hq.size)).alloc (Nat.le_trans hq.size hb.size) (.cells #[.bool false, .int .i64 (0), .int .u32 (0), .string (⟨#[97, 98, 99, 100, 101, 102, 103, 104]⟩), .string (⟨#[]⟩), .string (⟨#[]⟩)] 31); have hX := HasB.new wa 31 #[.bool false, .int .i64 (0), .int .u32 (0), .string (⟨#[97, 98, 99, 100, 101, 102, 103, 104]⟩), .string (⟨#[]⟩), .string (⟨#[]⟩)]; clear hb) | (go_at_call 10; (with_reducible refine (GB.out _).mono ?_); rintro e wb ⟨rfl, hb⟩; replace hq := (hq.trans (hb.mono hq.size)).alloc (Nat.le_trans hq.size hb.size) (.cells #[.bool false, .int .i64 0, .int .u32 0, .string ⟨#[]⟩, .string ⟨#[]⟩, .string ⟨#[]⟩] 31); replace hX := (HasB.below hX hb hX.lt).alloc (.cells #[.bool false, .int .i64 0, .int .u32 0, .string ⟨#[]⟩, .string ⟨#[]⟩, .string ⟨#[]⟩] 31); clear hb) | (go_at_call 10; (with_reducible refine (GC.out _).mono ?_); rintro e wc ⟨rfl, hb⟩; replace hq := (hq.trans (hb.mono hq.size)).alloc (Nat.le_trans hq.size hb.size) (.cells #[.bool false, .int .i64 0, .int .u32 0, .string ⟨#[]⟩, .string ⟨#[]⟩, .string ⟨#[]⟩] 31); replace hX := (HasB.below hX hb hX.lt).alloc (.cells #[.bool false, .int .i64 0, .int .u32 0, .string ⟨#[]⟩, .string ⟨#[]⟩, .string ⟨#[]⟩] 31); have x0 := HasB.cell hX 0 (.bool false) rfl; have x3 := HasB.cell hX 3 (.string ⟨#[97, 98, 99, 100, 101, 102, 103, 104]⟩) rfl; clear hb) | fail)
  go_ret
  exact ⟨rfl, hq⟩
end Go.Proofs.Ytniaelmloealbaa
