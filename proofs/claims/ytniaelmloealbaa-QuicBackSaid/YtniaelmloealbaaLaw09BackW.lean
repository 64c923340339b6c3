/- The law of quic without the reference: the walk where With answers. -/
import Derived.Test.YtniaelmloealbaaLaw09Back
namespace Go.Proofs.Ytniaelmloealbaa
open Go.RowKit Go.WideShapes
set_option linter.unusedVariables false
attribute [local go_sem ↓] ldH9 stH9 ldR9 stR9
attribute [local go_sem] rowAt_p rowOkAt_p setAt_p aggOf_a rowOk_new rowOf_new setRow_new agg9 aggT9
attribute [local go_sem ↓] Go.wp_at_zero Go.wp_at_succ

theorem swap9_true (b v : Int) (d x r c : ByteArray) : swap9 ⟨true, b, v, d, x, r⟩ c = ⟨true, b, v, d, c, r⟩ := rfl
theorem swap9_false (b v : Int) (d x r c : ByteArray) : swap9 ⟨false, b, v, d, x, r⟩ c = ⟨false, b, v, c, x, r⟩ := rfl
theorem with_size {s c : ByteArray} (he : errG9 s = 0) (hc : c.size = 8) : (withO s c).size ≤ 60 + s.size := by
  obtain ⟨_, w2, _⟩ := with_ok he hc
  obtain ⟨_, _, _, f4, f5, f6⟩ := fwd9 he
  rw [w2]
  have h := out9_size (swap9 (headG9 s) c)
  generalize headG9 s = g at *
  obtain ⟨lg, b, v, d, x, r⟩ := g
  dsimp only at f4 f5 f6
  cases lg with
  | true => rw [swap9_true] at h ⊢; dsimp only at h; omega
  | false => rw [swap9_false] at h ⊢; dsimp only at h; omega
set_option maxRecDepth 100000 in
set_option maxHeartbeats 4000000 in
theorem qback_ok_arg (K : QuicOK) (h : H9) (s c : ByteArray) (hb9 : B9 h) (hn : smallL [h.dc, h.sc, h.re, c] 60 = true) (hs : s.size ≤ 100) (hp : err9 h = 0) (hg : errG9 s = 0) (hc : c.size ≠ 8) (w : World) : Calls Try.prog 4 #[.agg #[.bool h.lg, .int .i64 h.bi, .int .u32 h.ve, .string h.dc, .string h.sc, .string h.re], .string s, .string c] w fun e w' => e = .returned (.bool true) ∧ Below w.heap.size w w' := by
  have AW := Lib.hid (awake09 K)
  have hL := smallL_is hn
  have n1 := hL h.dc (by simp)
  have n2 := hL h.sc (by simp)
  have n3 := hL h.re (by simp)
  have n4 := hL c (by simp)
  have hsi : ¬ (100 : Int) < s.size := by omega
  have hk : ok9 h = true := by
    cases ho : ok9 h with
    | true => rfl
    | false => rw [(err9_no ho).1] at hp; omega
  obtain ⟨k1, k2⟩ := back9 hk hb9
  have hz := out9_size h
  have P1 := K.put h hb9 (by omega) (by omega) (by omega)
  rw [hp] at P1
  have P1 := Lib.hid P1
  have G0 := K.get (out9 h) (by omega)
  rw [k1, k2] at G0
  have G0 := Lib.hid G0
  clear k1 k2 hz hk hp
  generalize out9 h = O at *
  obtain ⟨f1, f2, f3, f4, f5, f6⟩ := fwd9 hg
  have hG := K.get s (by omega)
  rw [hg] at hG
  have GS := Lib.hid hG
  have hPX := K.put (headG9 s) f2 (by omega) (by omega) (by omega)
  rw [f3, err9_is f1] at hPX
  have PX := Lib.hid hPX
  have hW := K.wth s c (by omega) (by omega)
  obtain ⟨w1, w2⟩ := with_arg hg hc
  rw [w1, w2] at hW
  have WS := Lib.hid hW
  have c8 : ((c.size : Int) == 8) = false := by simp; omega
  generalize headG9 s = g at *
  clear hG hPX hW w1 w2 f1 f2 f3 f4 f5 f6 hg hc
  clear K hb9 hs hL n1 n2 n3 n4
  have HX : Hid (Held w.heap.size w.heap.size 24 #[.bool h.lg, .int .i64 h.bi, .int .u32 h.ve, .string h.dc, .string h.sc, .string h.re] w (w.alloc (.cells #[.bool h.lg, .int .i64 h.bi, .int .u32 h.ve, .string h.dc, .string h.sc, .string h.re] 24))) := Lib.hid ⟨HasB.new w _ _, (Below.refl _ _).alloc (Nat.le_refl _) _, by simp⟩
  have HB : HasB ((w.alloc (.cells #[.bool h.lg, .int .i64 h.bi, .int .u32 h.ve, .string h.dc, .string h.sc, .string h.re] 24)).alloc (.cells #[.string h.dc, .string h.sc, .string h.re, .string c] 9)) (w.heap.size + 1) 9 #[.string h.dc, .string h.sc, .string h.re, .string c] := by
    have := HasB.new (w.alloc (.cells #[.bool h.lg, .int .i64 h.bi, .int .u32 h.ve, .string h.dc, .string h.sc, .string h.re] 24)) 9 #[.string h.dc, .string h.sc, .string h.re, .string c]
    simpa using this
  have hS := smallL_any (w.heap.size + 1) 4 [h.dc, h.sc, h.re, c] 60 (by omega) (by simp) ((w.alloc (.cells #[.bool h.lg, .int .i64 h.bi, .int .u32 h.ve, .string h.dc, .string h.sc, .string h.re] 24)).alloc (.cells #[.string h.dc, .string h.sc, .string h.re, .string c] 9)) (four_at HB)
  rw [hn, show ([h.dc, h.sc, h.re, c] : List ByteArray).length = 4 from rfl, show ((60 : Nat) : Int) = 60 from rfl] at hS
  have HS := Lib.hid hS
  clear hS
  go_enter Try.func4, Try.ntmps4
  go_wp2_with fail
  (with_reducible refine HS.out.mono ?_)
  rintro e wq ⟨rfl, hwq⟩
  replace HX := Lib.hid (HX.out.alloc (.cells #[.string h.dc, .string h.sc, .string h.re, .string c] 9))
  rw [hwq] at HX
  clear HB HS hwq
  (have hro := HasB.rowOk HX.out.1 (n := 6) rfl; have hrw := HasB.rowOf HX.out.1)
  go_wp2_with (first | (go_at_call 8; (with_reducible refine (of9_any h _).mono ?_); rintro e wa ⟨rfl, hb⟩; (clear hro hrw); replace HX := Lib.hid (HX.out.next hb); clear hb; (have hro := HasB.rowOk HX.out.1 (n := 6) rfl; have hrw := HasB.rowOf HX.out.1)) | (go_at_call 7; (with_reducible refine (P1.out _).mono ?_); rintro e wa ⟨rfl, hb⟩; (clear hro hrw); replace HX := Lib.hid (HX.out.next hb); clear hb; (have hro := HasB.rowOk HX.out.1 (n := 6) rfl; have hrw := HasB.rowOf HX.out.1)) | (go_at_call 10; (with_reducible refine (G0.out _).mono ?_); rintro e wx ⟨rfl, hb⟩; (clear hro hrw); replace HX := Lib.hid ((HX.out.next hb).alloc (.cells #[.bool h.lg, .int .i64 h.bi, .int .u32 h.ve, .string h.dc, .string h.sc, .string h.re] 31)); have hX := HasB.new wx 31 #[.bool h.lg, .int .i64 h.bi, .int .u32 h.ve, .string h.dc, .string h.sc, .string h.re]; clear hb) | fail)
  have HZ : Hid (Held2 w.heap.size w.heap.size 24 #[.bool h.lg, .int .i64 h.bi, .int .u32 h.ve, .string h.dc, .string h.sc, .string h.re] wx.heap.size 31 #[.bool h.lg, .int .i64 h.bi, .int .u32 h.ve, .string h.dc, .string h.sc, .string h.re] w _) := Lib.hid (Held2.drew ⟨HX.out.1, hX, HX.out.2.1, HX.out.2.2⟩)
  clear HX hX
  go_region_held3 (fun w' => w'.cell? ⟨w.heap.size, 0, none⟩ = some (.bool h.lg) ∧ w'.cell? ⟨w.heap.size, 1, none⟩ = some (.int .i64 (h.bi)) ∧ w'.cell? ⟨w.heap.size, 2, none⟩ = some (.int .u32 (h.ve)) ∧ w'.cell? ⟨w.heap.size, 3, none⟩ = some (.string (h.dc)) ∧ w'.cell? ⟨w.heap.size, 4, none⟩ = some (.string (h.sc)) ∧ w'.cell? ⟨w.heap.size, 5, none⟩ = some (.string (h.re)) ∧ w'.cell? ⟨wx.heap.size, 0, none⟩ = some (.bool h.lg) ∧ w'.cell? ⟨wx.heap.size, 1, none⟩ = some (.int .i64 (h.bi)) ∧ w'.cell? ⟨wx.heap.size, 2, none⟩ = some (.int .u32 (h.ve)) ∧ w'.cell? ⟨wx.heap.size, 3, none⟩ = some (.string (h.dc)) ∧ w'.cell? ⟨wx.heap.size, 4, none⟩ = some (.string (h.sc)) ∧ w'.cell? ⟨wx.heap.size, 5, none⟩ = some (.string (h.re))) (exact HZ.out.cells12N) (first | (go_at_call 14; (with_reducible refine (back9_any h _).mono ?_); rintro e wa ⟨rfl, hb⟩; replace HZ := Lib.hid (HZ.out.next hb); clear hb))
  all_goals
    have hq := HZ.out.2.2.1
    clear HZ
    (go_wp2_with (first | (go_at_call 10; (with_reducible refine (GS.out _).mono ?_); rintro e wu ⟨rfl, hb⟩; replace hq := (hq.trans (hb.mono hq.size)).alloc (Nat.le_trans hq.size hb.size) (.cells #[.bool g.lg, .int .i64 g.bi, .int .u32 g.ve, .string g.dc, .string g.sc, .string g.re] 31); have hX := HasB.new wu 31 #[.bool g.lg, .int .i64 g.bi, .int .u32 g.ve, .string g.dc, .string g.sc, .string g.re]; clear hb) | (go_at_call 7; (with_reducible refine (PX.out _).mono ?_); rintro e wv ⟨rfl, hb⟩; replace hX := HasB.below hX hb hX.lt; replace hq := hq.trans (hb.mono hq.size); clear hb) | (go_at_call 12; (with_reducible refine (WS.out _ ).mono ?_); rintro e wt ⟨rfl, hb⟩; replace hX := HasB.below hX hb hX.lt; replace hq := hq.trans (hb.mono hq.size); clear hb) | (go_at_call 6; (with_reducible refine (AW.out _).mono ?_); rintro e wz ⟨rfl, hb⟩; replace hq := hq.trans (hb.mono hq.size); clear hb) | fail)); go_ret; exact ⟨rfl, hq⟩
set_option maxRecDepth 100000 in
set_option maxHeartbeats 4000000 in
theorem qback_no_long (K : QuicOK) (h : H9) (s c : ByteArray) (hb9 : B9 h) (hn : smallL [h.dc, h.sc, h.re, c] 60 = true) (hs : s.size ≤ 100) (hp : err9 h ≠ 0) (hg : errG9 s = 0) (hc : c.size = 8) (hlg : (headG9 s).lg = true) (w : World) : Calls Try.prog 4 #[.agg #[.bool h.lg, .int .i64 h.bi, .int .u32 h.ve, .string h.dc, .string h.sc, .string h.re], .string s, .string c] w fun e w' => e = .returned (.bool true) ∧ Below w.heap.size w w' := by
  have AW := Lib.hid (awake09 K)
  have hL := smallL_is hn
  have n1 := hL h.dc (by simp)
  have n2 := hL h.sc (by simp)
  have n3 := hL h.re (by simp)
  have n4 := hL c (by simp)
  have hsi : ¬ (100 : Int) < s.size := by omega
  have P1 := Lib.hid (K.put h hb9 (by omega) (by omega) (by omega))
  have e0 : (err9 h == 0) = false := by simpa using hp
  generalize out9 h = O at P1
  generalize err9 h = E at P1 e0
  clear hp
  obtain ⟨f1, f2, f3, f4, f5, f6⟩ := fwd9 hg
  have hG := K.get s (by omega)
  rw [hg] at hG
  have GS := Lib.hid hG
  have hPX := K.put (headG9 s) f2 (by omega) (by omega) (by omega)
  rw [f3, err9_is f1] at hPX
  have PX := Lib.hid hPX
  have hW := K.wth s c (by omega) (by omega)
  obtain ⟨w1, w2, w3, w4⟩ := with_ok hg hc
  have hU := with_size hg hc
  have hY := K.get (withO s c) (by omega)
  rw [w3, w4] at hY
  rw [w1] at hW
  have c8 : ((c.size : Int) == 8) = true := by simp; omega
  clear w1 w2 w3 w4 hU
  generalize withO s c = U at *
  generalize headG9 s = g at *
  obtain ⟨lg, b, v, d, x, r⟩ := g
  obtain rfl : lg = true := hlg
  first | rw [swap9_true] at hY | rw [swap9_false] at hY
  dsimp only at hY hPX hG GS PX
  have WS := Lib.hid hW
  have GY := Lib.hid hY
  clear hG hPX hW hY f1 f2 f3 f4 f5 f6 hg hc
  clear K hb9 hs hL n1 n2 n3 n4
  have HX : Hid (Held w.heap.size w.heap.size 24 #[.bool h.lg, .int .i64 h.bi, .int .u32 h.ve, .string h.dc, .string h.sc, .string h.re] w (w.alloc (.cells #[.bool h.lg, .int .i64 h.bi, .int .u32 h.ve, .string h.dc, .string h.sc, .string h.re] 24))) := Lib.hid ⟨HasB.new w _ _, (Below.refl _ _).alloc (Nat.le_refl _) _, by simp⟩
  have HB : HasB ((w.alloc (.cells #[.bool h.lg, .int .i64 h.bi, .int .u32 h.ve, .string h.dc, .string h.sc, .string h.re] 24)).alloc (.cells #[.string h.dc, .string h.sc, .string h.re, .string c] 9)) (w.heap.size + 1) 9 #[.string h.dc, .string h.sc, .string h.re, .string c] := by
    have := HasB.new (w.alloc (.cells #[.bool h.lg, .int .i64 h.bi, .int .u32 h.ve, .string h.dc, .string h.sc, .string h.re] 24)) 9 #[.string h.dc, .string h.sc, .string h.re, .string c]
    simpa using this
  have hS := smallL_any (w.heap.size + 1) 4 [h.dc, h.sc, h.re, c] 60 (by omega) (by simp) ((w.alloc (.cells #[.bool h.lg, .int .i64 h.bi, .int .u32 h.ve, .string h.dc, .string h.sc, .string h.re] 24)).alloc (.cells #[.string h.dc, .string h.sc, .string h.re, .string c] 9)) (four_at HB)
  rw [hn, show ([h.dc, h.sc, h.re, c] : List ByteArray).length = 4 from rfl, show ((60 : Nat) : Int) = 60 from rfl] at hS
  have HS := Lib.hid hS
  clear hS
  go_enter Try.func4, Try.ntmps4
  go_wp2_with fail
  (with_reducible refine HS.out.mono ?_)
  rintro e wq ⟨rfl, hwq⟩
  replace HX := Lib.hid (HX.out.alloc (.cells #[.string h.dc, .string h.sc, .string h.re, .string c] 9))
  rw [hwq] at HX
  clear HB HS hwq
  (have hro := HasB.rowOk HX.out.1 (n := 6) rfl; have hrw := HasB.rowOf HX.out.1)
  go_wp2_with (first | (go_at_call 8; (with_reducible refine (of9_any h _).mono ?_); rintro e wa ⟨rfl, hb⟩; (clear hro hrw); replace HX := Lib.hid (HX.out.next hb); clear hb; (have hro := HasB.rowOk HX.out.1 (n := 6) rfl; have hrw := HasB.rowOf HX.out.1)) | (go_at_call 7; (with_reducible refine (P1.out _).mono ?_); rintro e wa ⟨rfl, hb⟩; (clear hro hrw); replace HX := Lib.hid (HX.out.next hb); clear hb; (have hro := HasB.rowOk HX.out.1 (n := 6) rfl; have hrw := HasB.rowOf HX.out.1)) | fail)
  have hq := HX.out.2.1
  (clear hro hrw)
  clear HX
  (go_wp2_with (first | (go_at_call 10; (with_reducible refine (GS.out _).mono ?_); rintro e wu ⟨rfl, hb⟩; replace hq := (hq.trans (hb.mono hq.size)).alloc (Nat.le_trans hq.size hb.size) (.cells #[.bool true, .int .i64 (b), .int .u32 (v), .string (d), .string (x), .string (r)] 31); have hX := HasB.new wu 31 #[.bool true, .int .i64 (b), .int .u32 (v), .string (d), .string (x), .string (r)]; clear hb) | (go_at_call 7; (with_reducible refine (PX.out _).mono ?_); rintro e wv ⟨rfl, hb⟩; replace hX := HasB.below hX hb hX.lt; replace hq := hq.trans (hb.mono hq.size); clear hb) | (go_at_call 12; (with_reducible refine (WS.out _ ).mono ?_); rintro e wt ⟨rfl, hb⟩; replace hX := HasB.below hX hb hX.lt; replace hq := hq.trans (hb.mono hq.size); clear hb) | (go_at_call 10; (with_reducible refine (GY.out _).mono ?_); rintro e wy ⟨rfl, hb⟩; replace hX := HasB.below hX hb hX.lt; have y1 := HasB.cell (hX.alloc (.cells #[.bool true, .int .i64 (b), .int .u32 (v), .string (d), .string (c), .string (r)] 31)) 4 _ rfl; have hX2 := hX.alloc (.cells #[.bool true, .int .i64 (b), .int .u32 (v), .string (d), .string (x), .string (r)] 31); have hro := HasB.rowOk hX2 (n := 6) rfl; have hrw := HasB.rowOf hX2; replace hq := (hq.trans (hb.mono hq.size)).alloc (Nat.le_trans hq.size hb.size) (.cells #[.bool true, .int .i64 (b), .int .u32 (v), .string (d), .string (x), .string (r)] 31); clear hb hX2) | (go_at_call 6; (with_reducible refine (AW.out _).mono ?_); rintro e wz ⟨rfl, hb⟩; replace hq := hq.trans (hb.mono hq.size); clear hb) | fail)); go_ret; exact ⟨rfl, hq⟩
set_option maxRecDepth 100000 in
set_option maxHeartbeats 4000000 in
theorem qback_no_short (K : QuicOK) (h : H9) (s c : ByteArray) (hb9 : B9 h) (hn : smallL [h.dc, h.sc, h.re, c] 60 = true) (hs : s.size ≤ 100) (hp : err9 h ≠ 0) (hg : errG9 s = 0) (hc : c.size = 8) (hlg : (headG9 s).lg = false) (w : World) : Calls Try.prog 4 #[.agg #[.bool h.lg, .int .i64 h.bi, .int .u32 h.ve, .string h.dc, .string h.sc, .string h.re], .string s, .string c] w fun e w' => e = .returned (.bool true) ∧ Below w.heap.size w w' := by
  have AW := Lib.hid (awake09 K)
  have hL := smallL_is hn
  have n1 := hL h.dc (by simp)
  have n2 := hL h.sc (by simp)
  have n3 := hL h.re (by simp)
  have n4 := hL c (by simp)
  have hsi : ¬ (100 : Int) < s.size := by omega
  have P1 := Lib.hid (K.put h hb9 (by omega) (by omega) (by omega))
  have e0 : (err9 h == 0) = false := by simpa using hp
  generalize out9 h = O at P1
  generalize err9 h = E at P1 e0
  clear hp
  obtain ⟨f1, f2, f3, f4, f5, f6⟩ := fwd9 hg
  have hG := K.get s (by omega)
  rw [hg] at hG
  have GS := Lib.hid hG
  have hPX := K.put (headG9 s) f2 (by omega) (by omega) (by omega)
  rw [f3, err9_is f1] at hPX
  have PX := Lib.hid hPX
  have hW := K.wth s c (by omega) (by omega)
  obtain ⟨w1, w2, w3, w4⟩ := with_ok hg hc
  have hU := with_size hg hc
  have hY := K.get (withO s c) (by omega)
  rw [w3, w4] at hY
  rw [w1] at hW
  have c8 : ((c.size : Int) == 8) = true := by simp; omega
  clear w1 w2 w3 w4 hU
  generalize withO s c = U at *
  generalize headG9 s = g at *
  obtain ⟨lg, b, v, d, x, r⟩ := g
  obtain rfl : lg = false := hlg
  first | rw [swap9_true] at hY | rw [swap9_false] at hY
  dsimp only at hY hPX hG GS PX
  have WS := Lib.hid hW
  have GY := Lib.hid hY
  clear hG hPX hW hY f1 f2 f3 f4 f5 f6 hg hc
  clear K hb9 hs hL n1 n2 n3 n4
  have HX : Hid (Held w.heap.size w.heap.size 24 #[.bool h.lg, .int .i64 h.bi, .int .u32 h.ve, .string h.dc, .string h.sc, .string h.re] w (w.alloc (.cells #[.bool h.lg, .int .i64 h.bi, .int .u32 h.ve, .string h.dc, .string h.sc, .string h.re] 24))) := Lib.hid ⟨HasB.new w _ _, (Below.refl _ _).alloc (Nat.le_refl _) _, by simp⟩
  have HB : HasB ((w.alloc (.cells #[.bool h.lg, .int .i64 h.bi, .int .u32 h.ve, .string h.dc, .string h.sc, .string h.re] 24)).alloc (.cells #[.string h.dc, .string h.sc, .string h.re, .string c] 9)) (w.heap.size + 1) 9 #[.string h.dc, .string h.sc, .string h.re, .string c] := by
    have := HasB.new (w.alloc (.cells #[.bool h.lg, .int .i64 h.bi, .int .u32 h.ve, .string h.dc, .string h.sc, .string h.re] 24)) 9 #[.string h.dc, .string h.sc, .string h.re, .string c]
    simpa using this
  have hS := smallL_any (w.heap.size + 1) 4 [h.dc, h.sc, h.re, c] 60 (by omega) (by simp) ((w.alloc (.cells #[.bool h.lg, .int .i64 h.bi, .int .u32 h.ve, .string h.dc, .string h.sc, .string h.re] 24)).alloc (.cells #[.string h.dc, .string h.sc, .string h.re, .string c] 9)) (four_at HB)
  rw [hn, show ([h.dc, h.sc, h.re, c] : List ByteArray).length = 4 from rfl, show ((60 : Nat) : Int) = 60 from rfl] at hS
  have HS := Lib.hid hS
  clear hS
  go_enter Try.func4, Try.ntmps4
  go_wp2_with fail
  (with_reducible refine HS.out.mono ?_)
  rintro e wq ⟨rfl, hwq⟩
  replace HX := Lib.hid (HX.out.alloc (.cells #[.string h.dc, .string h.sc, .string h.re, .string c] 9))
  rw [hwq] at HX
  clear HB HS hwq
  (have hro := HasB.rowOk HX.out.1 (n := 6) rfl; have hrw := HasB.rowOf HX.out.1)
  go_wp2_with (first | (go_at_call 8; (with_reducible refine (of9_any h _).mono ?_); rintro e wa ⟨rfl, hb⟩; (clear hro hrw); replace HX := Lib.hid (HX.out.next hb); clear hb; (have hro := HasB.rowOk HX.out.1 (n := 6) rfl; have hrw := HasB.rowOf HX.out.1)) | (go_at_call 7; (with_reducible refine (P1.out _).mono ?_); rintro e wa ⟨rfl, hb⟩; (clear hro hrw); replace HX := Lib.hid (HX.out.next hb); clear hb; (have hro := HasB.rowOk HX.out.1 (n := 6) rfl; have hrw := HasB.rowOf HX.out.1)) | fail)
  have hq := HX.out.2.1
  (clear hro hrw)
  clear HX
  (go_wp2_with (first | (go_at_call 10; (with_reducible refine (GS.out _).mono ?_); rintro e wu ⟨rfl, hb⟩; replace hq := (hq.trans (hb.mono hq.size)).alloc (Nat.le_trans hq.size hb.size) (.cells #[.bool false, .int .i64 (b), .int .u32 (v), .string (d), .string (x), .string (r)] 31); have hX := HasB.new wu 31 #[.bool false, .int .i64 (b), .int .u32 (v), .string (d), .string (x), .string (r)]; clear hb) | (go_at_call 7; (with_reducible refine (PX.out _).mono ?_); rintro e wv ⟨rfl, hb⟩; replace hX := HasB.below hX hb hX.lt; replace hq := hq.trans (hb.mono hq.size); clear hb) | (go_at_call 12; (with_reducible refine (WS.out _ ).mono ?_); rintro e wt ⟨rfl, hb⟩; replace hX := HasB.below hX hb hX.lt; replace hq := hq.trans (hb.mono hq.size); clear hb) | (go_at_call 10; (with_reducible refine (GY.out _).mono ?_); rintro e wy ⟨rfl, hb⟩; replace hX := HasB.below hX hb hX.lt; have y1 := HasB.cell (hX.alloc (.cells #[.bool false, .int .i64 (b), .int .u32 (v), .string (c), .string (x), .string (r)] 31)) 3 _ rfl; have hX2 := hX.alloc (.cells #[.bool false, .int .i64 (b), .int .u32 (v), .string (d), .string (x), .string (r)] 31); have hro := HasB.rowOk hX2 (n := 6) rfl; have hrw := HasB.rowOf hX2; replace hq := (hq.trans (hb.mono hq.size)).alloc (Nat.le_trans hq.size hb.size) (.cells #[.bool false, .int .i64 (b), .int .u32 (v), .string (d), .string (x), .string (r)] 31); clear hb hX2) | (go_at_call 6; (with_reducible refine (AW.out _).mono ?_); rintro e wz ⟨rfl, hb⟩; replace hq := hq.trans (hb.mono hq.size); clear hb) | fail)); go_ret; exact ⟨rfl, hq⟩
set_option maxRecDepth 100000 in
set_option maxHeartbeats 4000000 in
theorem qback_ok_long (K : QuicOK) (h : H9) (s c : ByteArray) (hb9 : B9 h) (hn : smallL [h.dc, h.sc, h.re, c] 60 = true) (hs : s.size ≤ 100) (hp : err9 h = 0) (hg : errG9 s = 0) (hc : c.size = 8) (hlg : (headG9 s).lg = true) (w : World) : Calls Try.prog 4 #[.agg #[.bool h.lg, .int .i64 h.bi, .int .u32 h.ve, .string h.dc, .string h.sc, .string h.re], .string s, .string c] w fun e w' => e = .returned (.bool true) ∧ Below w.heap.size w w' := by
  have AW := Lib.hid (awake09 K)
  have hL := smallL_is hn
  have n1 := hL h.dc (by simp)
  have n2 := hL h.sc (by simp)
  have n3 := hL h.re (by simp)
  have n4 := hL c (by simp)
  have hsi : ¬ (100 : Int) < s.size := by omega
  have hk : ok9 h = true := by
    cases ho : ok9 h with
    | true => rfl
    | false => rw [(err9_no ho).1] at hp; omega
  obtain ⟨k1, k2⟩ := back9 hk hb9
  have hz := out9_size h
  have P1 := K.put h hb9 (by omega) (by omega) (by omega)
  rw [hp] at P1
  have P1 := Lib.hid P1
  have G0 := K.get (out9 h) (by omega)
  rw [k1, k2] at G0
  have G0 := Lib.hid G0
  clear k1 k2 hz hk hp
  generalize out9 h = O at *
  obtain ⟨f1, f2, f3, f4, f5, f6⟩ := fwd9 hg
  have hG := K.get s (by omega)
  rw [hg] at hG
  have GS := Lib.hid hG
  have hPX := K.put (headG9 s) f2 (by omega) (by omega) (by omega)
  rw [f3, err9_is f1] at hPX
  have PX := Lib.hid hPX
  have hW := K.wth s c (by omega) (by omega)
  obtain ⟨w1, w2, w3, w4⟩ := with_ok hg hc
  have hU := with_size hg hc
  have hY := K.get (withO s c) (by omega)
  rw [w3, w4] at hY
  rw [w1] at hW
  have c8 : ((c.size : Int) == 8) = true := by simp; omega
  clear w1 w2 w3 w4 hU
  generalize withO s c = U at *
  generalize headG9 s = g at *
  obtain ⟨lg, b, v, d, x, r⟩ := g
  obtain rfl : lg = true := hlg
  first | rw [swap9_true] at hY | rw [swap9_false] at hY
  dsimp only at hY hPX hG GS PX
  have WS := Lib.hid hW
  have GY := Lib.hid hY
  clear hG hPX hW hY f1 f2 f3 f4 f5 f6 hg hc
  clear K hb9 hs hL n1 n2 n3 n4
  have HX : Hid (Held w.heap.size w.heap.size 24 #[.bool h.lg, .int .i64 h.bi, .int .u32 h.ve, .string h.dc, .string h.sc, .string h.re] w (w.alloc (.cells #[.bool h.lg, .int .i64 h.bi, .int .u32 h.ve, .string h.dc, .string h.sc, .string h.re] 24))) := Lib.hid ⟨HasB.new w _ _, (Below.refl _ _).alloc (Nat.le_refl _) _, by simp⟩
  have HB : HasB ((w.alloc (.cells #[.bool h.lg, .int .i64 h.bi, .int .u32 h.ve, .string h.dc, .string h.sc, .string h.re] 24)).alloc (.cells #[.string h.dc, .string h.sc, .string h.re, .string c] 9)) (w.heap.size + 1) 9 #[.string h.dc, .string h.sc, .string h.re, .string c] := by
    have := HasB.new (w.alloc (.cells #[.bool h.lg, .int .i64 h.bi, .int .u32 h.ve, .string h.dc, .string h.sc, .string h.re] 24)) 9 #[.string h.dc, .string h.sc, .string h.re, .string c]
    simpa using this
  have hS := smallL_any (w.heap.size + 1) 4 [h.dc, h.sc, h.re, c] 60 (by omega) (by simp) ((w.alloc (.cells #[.bool h.lg, .int .i64 h.bi, .int .u32 h.ve, .string h.dc, .string h.sc, .string h.re] 24)).alloc (.cells #[.string h.dc, .string h.sc, .string h.re, .string c] 9)) (four_at HB)
  rw [hn, show ([h.dc, h.sc, h.re, c] : List ByteArray).length = 4 from rfl, show ((60 : Nat) : Int) = 60 from rfl] at hS
  have HS := Lib.hid hS
  clear hS
  go_enter Try.func4, Try.ntmps4
  go_wp2_with fail
  (with_reducible refine HS.out.mono ?_)
  rintro e wq ⟨rfl, hwq⟩
  replace HX := Lib.hid (HX.out.alloc (.cells #[.string h.dc, .string h.sc, .string h.re, .string c] 9))
  rw [hwq] at HX
  clear HB HS hwq
  (have hro := HasB.rowOk HX.out.1 (n := 6) rfl; have hrw := HasB.rowOf HX.out.1)
  go_wp2_with (first | (go_at_call 8; (with_reducible refine (of9_any h _).mono ?_); rintro e wa ⟨rfl, hb⟩; (clear hro hrw); replace HX := Lib.hid (HX.out.next hb); clear hb; (have hro := HasB.rowOk HX.out.1 (n := 6) rfl; have hrw := HasB.rowOf HX.out.1)) | (go_at_call 7; (with_reducible refine (P1.out _).mono ?_); rintro e wa ⟨rfl, hb⟩; (clear hro hrw); replace HX := Lib.hid (HX.out.next hb); clear hb; (have hro := HasB.rowOk HX.out.1 (n := 6) rfl; have hrw := HasB.rowOf HX.out.1)) | (go_at_call 10; (with_reducible refine (G0.out _).mono ?_); rintro e wx ⟨rfl, hb⟩; (clear hro hrw); replace HX := Lib.hid ((HX.out.next hb).alloc (.cells #[.bool h.lg, .int .i64 h.bi, .int .u32 h.ve, .string h.dc, .string h.sc, .string h.re] 31)); have hX := HasB.new wx 31 #[.bool h.lg, .int .i64 h.bi, .int .u32 h.ve, .string h.dc, .string h.sc, .string h.re]; clear hb) | fail)
  have HZ : Hid (Held2 w.heap.size w.heap.size 24 #[.bool h.lg, .int .i64 h.bi, .int .u32 h.ve, .string h.dc, .string h.sc, .string h.re] wx.heap.size 31 #[.bool h.lg, .int .i64 h.bi, .int .u32 h.ve, .string h.dc, .string h.sc, .string h.re] w _) := Lib.hid (Held2.drew ⟨HX.out.1, hX, HX.out.2.1, HX.out.2.2⟩)
  clear HX hX
  go_region_held3 (fun w' => w'.cell? ⟨w.heap.size, 0, none⟩ = some (.bool h.lg) ∧ w'.cell? ⟨w.heap.size, 1, none⟩ = some (.int .i64 (h.bi)) ∧ w'.cell? ⟨w.heap.size, 2, none⟩ = some (.int .u32 (h.ve)) ∧ w'.cell? ⟨w.heap.size, 3, none⟩ = some (.string (h.dc)) ∧ w'.cell? ⟨w.heap.size, 4, none⟩ = some (.string (h.sc)) ∧ w'.cell? ⟨w.heap.size, 5, none⟩ = some (.string (h.re)) ∧ w'.cell? ⟨wx.heap.size, 0, none⟩ = some (.bool h.lg) ∧ w'.cell? ⟨wx.heap.size, 1, none⟩ = some (.int .i64 (h.bi)) ∧ w'.cell? ⟨wx.heap.size, 2, none⟩ = some (.int .u32 (h.ve)) ∧ w'.cell? ⟨wx.heap.size, 3, none⟩ = some (.string (h.dc)) ∧ w'.cell? ⟨wx.heap.size, 4, none⟩ = some (.string (h.sc)) ∧ w'.cell? ⟨wx.heap.size, 5, none⟩ = some (.string (h.re))) (exact HZ.out.cells12N) (first | (go_at_call 14; (with_reducible refine (back9_any h _).mono ?_); rintro e wa ⟨rfl, hb⟩; replace HZ := Lib.hid (HZ.out.next hb); clear hb))
  all_goals
    have hq := HZ.out.2.2.1
    clear HZ
    (go_wp2_with (first | (go_at_call 10; (with_reducible refine (GS.out _).mono ?_); rintro e wu ⟨rfl, hb⟩; replace hq := (hq.trans (hb.mono hq.size)).alloc (Nat.le_trans hq.size hb.size) (.cells #[.bool true, .int .i64 (b), .int .u32 (v), .string (d), .string (x), .string (r)] 31); have hX := HasB.new wu 31 #[.bool true, .int .i64 (b), .int .u32 (v), .string (d), .string (x), .string (r)]; clear hb) | (go_at_call 7; (with_reducible refine (PX.out _).mono ?_); rintro e wv ⟨rfl, hb⟩; replace hX := HasB.below hX hb hX.lt; replace hq := hq.trans (hb.mono hq.size); clear hb) | (go_at_call 12; (with_reducible refine (WS.out _ ).mono ?_); rintro e wt ⟨rfl, hb⟩; replace hX := HasB.below hX hb hX.lt; replace hq := hq.trans (hb.mono hq.size); clear hb) | (go_at_call 10; (with_reducible refine (GY.out _).mono ?_); rintro e wy ⟨rfl, hb⟩; replace hX := HasB.below hX hb hX.lt; have y1 := HasB.cell (hX.alloc (.cells #[.bool true, .int .i64 (b), .int .u32 (v), .string (d), .string (c), .string (r)] 31)) 4 _ rfl; have hX2 := hX.alloc (.cells #[.bool true, .int .i64 (b), .int .u32 (v), .string (d), .string (x), .string (r)] 31); have hro := HasB.rowOk hX2 (n := 6) rfl; have hrw := HasB.rowOf hX2; replace hq := (hq.trans (hb.mono hq.size)).alloc (Nat.le_trans hq.size hb.size) (.cells #[.bool true, .int .i64 (b), .int .u32 (v), .string (d), .string (x), .string (r)] 31); clear hb hX2) | (go_at_call 6; (with_reducible refine (AW.out _).mono ?_); rintro e wz ⟨rfl, hb⟩; replace hq := hq.trans (hb.mono hq.size); clear hb) | fail)); go_ret; exact ⟨rfl, hq⟩
set_option maxRecDepth 100000 in
set_option maxHeartbeats 4000000 in
theorem qback_ok_short (K : QuicOK) (h : H9) (s c : ByteArray) (hb9 : B9 h) (hn : smallL [h.dc, h.sc, h.re, c] 60 = true) (hs : s.size ≤ 100) (hp : err9 h = 0) (hg : errG9 s = 0) (hc : c.size = 8) (hlg : (headG9 s).lg = false) (w : World) : Calls Try.prog 4 #[.agg #[.bool h.lg, .int .i64 h.bi, .int .u32 h.ve, .string h.dc, .string h.sc, .string h.re], .string s, .string c] w fun e w' => e = .returned (.bool true) ∧ Below w.heap.size w w' := by
  have AW := Lib.hid (awake09 K)
  have hL := smallL_is hn
  have n1 := hL h.dc (by simp)
  have n2 := hL h.sc (by simp)
  have n3 := hL h.re (by simp)
  have n4 := hL c (by simp)
  have hsi : ¬ (100 : Int) < s.size := by omega
  have hk : ok9 h = true := by
    cases ho : ok9 h with
    | true => rfl
    | false => rw [(err9_no ho).1] at hp; omega
  obtain ⟨k1, k2⟩ := back9 hk hb9
  have hz := out9_size h
  have P1 := K.put h hb9 (by omega) (by omega) (by omega)
  rw [hp] at P1
  have P1 := Lib.hid P1
  have G0 := K.get (out9 h) (by omega)
  rw [k1, k2] at G0
  have G0 := Lib.hid G0
  clear k1 k2 hz hk hp
  generalize out9 h = O at *
  obtain ⟨f1, f2, f3, f4, f5, f6⟩ := fwd9 hg
  have hG := K.get s (by omega)
  rw [hg] at hG
  have GS := Lib.hid hG
  have hPX := K.put (headG9 s) f2 (by omega) (by omega) (by omega)
  rw [f3, err9_is f1] at hPX
  have PX := Lib.hid hPX
  have hW := K.wth s c (by omega) (by omega)
  obtain ⟨w1, w2, w3, w4⟩ := with_ok hg hc
  have hU := with_size hg hc
  have hY := K.get (withO s c) (by omega)
  rw [w3, w4] at hY
  rw [w1] at hW
  have c8 : ((c.size : Int) == 8) = true := by simp; omega
  clear w1 w2 w3 w4 hU
  generalize withO s c = U at *
  generalize headG9 s = g at *
  obtain ⟨lg, b, v, d, x, r⟩ := g
  obtain rfl : lg = false := hlg
  first | rw [swap9_true] at hY | rw [swap9_false] at hY
  dsimp only at hY hPX hG GS PX
  have WS := Lib.hid hW
  have GY := Lib.hid hY
  clear hG hPX hW hY f1 f2 f3 f4 f5 f6 hg hc
  clear K hb9 hs hL n1 n2 n3 n4
  have HX : Hid (Held w.heap.size w.heap.size 24 #[.bool h.lg, .int .i64 h.bi, .int .u32 h.ve, .string h.dc, .string h.sc, .string h.re] w (w.alloc (.cells #[.bool h.lg, .int .i64 h.bi, .int .u32 h.ve, .string h.dc, .string h.sc, .string h.re] 24))) := Lib.hid ⟨HasB.new w _ _, (Below.refl _ _).alloc (Nat.le_refl _) _, by simp⟩
  have HB : HasB ((w.alloc (.cells #[.bool h.lg, .int .i64 h.bi, .int .u32 h.ve, .string h.dc, .string h.sc, .string h.re] 24)).alloc (.cells #[.string h.dc, .string h.sc, .string h.re, .string c] 9)) (w.heap.size + 1) 9 #[.string h.dc, .string h.sc, .string h.re, .string c] := by
    have := HasB.new (w.alloc (.cells #[.bool h.lg, .int .i64 h.bi, .int .u32 h.ve, .string h.dc, .string h.sc, .string h.re] 24)) 9 #[.string h.dc, .string h.sc, .string h.re, .string c]
    simpa using this
  have hS := smallL_any (w.heap.size + 1) 4 [h.dc, h.sc, h.re, c] 60 (by omega) (by simp) ((w.alloc (.cells #[.bool h.lg, .int .i64 h.bi, .int .u32 h.ve, .string h.dc, .string h.sc, .string h.re] 24)).alloc (.cells #[.string h.dc, .string h.sc, .string h.re, .string c] 9)) (four_at HB)
  rw [hn, show ([h.dc, h.sc, h.re, c] : List ByteArray).length = 4 from rfl, show ((60 : Nat) : Int) = 60 from rfl] at hS
  have HS := Lib.hid hS
  clear hS
  go_enter Try.func4, Try.ntmps4
  go_wp2_with fail
  (with_reducible refine HS.out.mono ?_)
  rintro e wq ⟨rfl, hwq⟩
  replace HX := Lib.hid (HX.out.alloc (.cells #[.string h.dc, .string h.sc, .string h.re, .string c] 9))
  rw [hwq] at HX
  clear HB HS hwq
  (have hro := HasB.rowOk HX.out.1 (n := 6) rfl; have hrw := HasB.rowOf HX.out.1)
  go_wp2_with (first | (go_at_call 8; (with_reducible refine (of9_any h _).mono ?_); rintro e wa ⟨rfl, hb⟩; (clear hro hrw); replace HX := Lib.hid (HX.out.next hb); clear hb; (have hro := HasB.rowOk HX.out.1 (n := 6) rfl; have hrw := HasB.rowOf HX.out.1)) | (go_at_call 7; (with_reducible refine (P1.out _).mono ?_); rintro e wa ⟨rfl, hb⟩; (clear hro hrw); replace HX := Lib.hid (HX.out.next hb); clear hb; (have hro := HasB.rowOk HX.out.1 (n := 6) rfl; have hrw := HasB.rowOf HX.out.1)) | (go_at_call 10; (with_reducible refine (G0.out _).mono ?_); rintro e wx ⟨rfl, hb⟩; (clear hro hrw); replace HX := Lib.hid ((HX.out.next hb).alloc (.cells #[.bool h.lg, .int .i64 h.bi, .int .u32 h.ve, .string h.dc, .string h.sc, .string h.re] 31)); have hX := HasB.new wx 31 #[.bool h.lg, .int .i64 h.bi, .int .u32 h.ve, .string h.dc, .string h.sc, .string h.re]; clear hb) | fail)
  have HZ : Hid (Held2 w.heap.size w.heap.size 24 #[.bool h.lg, .int .i64 h.bi, .int .u32 h.ve, .string h.dc, .string h.sc, .string h.re] wx.heap.size 31 #[.bool h.lg, .int .i64 h.bi, .int .u32 h.ve, .string h.dc, .string h.sc, .string h.re] w _) := Lib.hid (Held2.drew ⟨HX.out.1, hX, HX.out.2.1, HX.out.2.2⟩)
  clear HX hX
  go_region_held3 (fun w' => w'.cell? ⟨w.heap.size, 0, none⟩ = some (.bool h.lg) ∧ w'.cell? ⟨w.heap.size, 1, none⟩ = some (.int .i64 (h.bi)) ∧ w'.cell? ⟨w.heap.size, 2, none⟩ = some (.int .u32 (h.ve)) ∧ w'.cell? ⟨w.heap.size, 3, none⟩ = some (.string (h.dc)) ∧ w'.cell? ⟨w.heap.size, 4, none⟩ = some (.string (h.sc)) ∧ w'.cell? ⟨w.heap.size, 5, none⟩ = some (.string (h.re)) ∧ w'.cell? ⟨wx.heap.size, 0, none⟩ = some (.bool h.lg) ∧ w'.cell? ⟨wx.heap.size, 1, none⟩ = some (.int .i64 (h.bi)) ∧ w'.cell? ⟨wx.heap.size, 2, none⟩ = some (.int .u32 (h.ve)) ∧ w'.cell? ⟨wx.heap.size, 3, none⟩ = some (.string (h.dc)) ∧ w'.cell? ⟨wx.heap.size, 4, none⟩ = some (.string (h.sc)) ∧ w'.cell? ⟨wx.heap.size, 5, none⟩ = some (.string (h.re))) (exact HZ.out.cells12N) (first | (go_at_call 14; (with_reducible refine (back9_any h _).mono ?_); rintro e wa ⟨rfl, hb⟩; replace HZ := Lib.hid (HZ.out.next hb); clear hb))
  all_goals
    have hq := HZ.out.2.2.1
    clear HZ
    (go_wp2_with (first | (go_at_call 10; (with_reducible refine (GS.out _).mono ?_); rintro e wu ⟨rfl, hb⟩; replace hq := (hq.trans (hb.mono hq.size)).alloc (Nat.le_trans hq.size hb.size) (.cells #[.bool false, .int .i64 (b), .int .u32 (v), .string (d), .string (x), .string (r)] 31); have hX := HasB.new wu 31 #[.bool false, .int .i64 (b), .int .u32 (v), .string (d), .string (x), .string (r)]; clear hb) | (go_at_call 7; (with_reducible refine (PX.out _).mono ?_); rintro e wv ⟨rfl, hb⟩; replace hX := HasB.below hX hb hX.lt; replace hq := hq.trans (hb.mono hq.size); clear hb) | (go_at_call 12; (with_reducible refine (WS.out _ ).mono ?_); rintro e wt ⟨rfl, hb⟩; replace hX := HasB.below hX hb hX.lt; replace hq := hq.trans (hb.mono hq.size); clear hb) | (go_at_call 10; (with_reducible refine (GY.out _).mono ?_); rintro e wy ⟨rfl, hb⟩; replace hX := HasB.below hX hb hX.lt; have y1 := HasB.cell (hX.alloc (.cells #[.bool false, .int .i64 (b), .int .u32 (v), .string (c), .string (x), .string (r)] 31)) 3 _ rfl; have hX2 := hX.alloc (.cells #[.bool false, .int .i64 (b), .int .u32 (v), .string (d), .string (x), .string (r)] 31); have hro := HasB.rowOk hX2 (n := 6) rfl; have hrw := HasB.rowOf hX2; replace hq := (hq.trans (hb.mono hq.size)).alloc (Nat.le_trans hq.size hb.size) (.cells #[.bool false, .int .i64 (b), .int .u32 (v), .string (d), .string (x), .string (r)] 31); clear hb hX2) | (go_at_call 6; (with_reducible refine (AW.out _).mono ?_); rintro e wz ⟨rfl, hb⟩; replace hq := hq.trans (hb.mono hq.size); clear hb) | fail)); go_ret; exact ⟨rfl, hq⟩
/-- The law's walk. -/
theorem quicBack_any (K : QuicOK) (a : Array Value) (s c : ByteArray) (w : World) (fa : Fits w (.two .bool (.two (.int .i64) (.two (.int .u32) (.two .str (.two .str (.two .str .nil)))))) (Value.agg a).cells.toList) :
    Calls Try.prog 4 #[.agg a, .string s, .string c] w fun e w' => e = .returned (.bool true) ∧ Below w.heap.size w w' := by
  obtain ⟨h, rfl, hb⟩ := fits9 fa
  cases hn : smallL [h.dc, h.sc, h.re, c] 60 with
  | false => exact qback_big K h s c hn w
  | true =>
    by_cases hs : 100 < s.size
    · exact qback_big2 K h s c hn hs w
    · have hs' : s.size ≤ 100 := by omega
      by_cases hp : err9 h = 0 <;> by_cases hg : errG9 s = 0
      · by_cases hc : c.size = 8
        · cases hlg : (headG9 s).lg with
          | true => exact qback_ok_long K h s c hb hn hs' hp hg hc hlg w
          | false => exact qback_ok_short K h s c hb hn hs' hp hg hc hlg w
        · exact qback_ok_arg K h s c hb hn hs' hp hg hc w
      · exact qback_ok_bad K h s c hb hn hs' hp hg w
      · by_cases hc : c.size = 8
        · cases hlg : (headG9 s).lg with
          | true => exact qback_no_long K h s c hb hn hs' hp hg hc hlg w
          | false => exact qback_no_short K h s c hb hn hs' hp hg hc hlg w
        · exact qback_no_arg K h s c hb hn hs' hp hg hc w
      · exact qback_no_bad K h s c hb hn hs' hp hg w
end Go.Proofs.Ytniaelmloealbaa
