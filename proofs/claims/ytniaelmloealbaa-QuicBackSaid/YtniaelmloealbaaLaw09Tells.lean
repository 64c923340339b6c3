/- The law of quic against the reference: the walk. -/
import Derived.Test.YtniaelmloealbaaLaw09
namespace Go.Proofs.Ytniaelmloealbaa
open Go.RowKit Go.WideShapes
set_option linter.unusedVariables false
attribute [local go_sem ↓] ldH9 stH9 ldR9 stR9
attribute [local go_sem] rowAt_p rowOkAt_p setAt_p aggOf_a rowOk_new rowOf_new setRow_new agg9 aggT9
attribute [local go_sem ↓] Go.wp_at_zero Go.wp_at_succ

theorem bounds_u32q {n : Int} (h : (Lit.int .u32 n).wf = true) : 0 ≤ n ∧ n < 4294967296 := by
  have := bounds_u32 h; omega
theorem fits9 {w : World} {a : Array Value} (h : Fits w (.two .bool (.two (.int .i64) (.two (.int .u32) (.two .str (.two .str (.two .str .nil)))))) (Value.agg a).cells.toList) : ∃ h : H9, a = #[.bool h.lg, .int .i64 h.bi, .int .u32 h.ve, .string h.dc, .string h.sc, .string h.re] ∧ B9 h := by
  obtain ⟨c1, c2, e, _, ⟨lg, rfl⟩, c3, c4, rfl, _, ⟨bi, rfl, _⟩, c5, c6, rfl, _, ⟨ve, rfl, hv⟩, c7, c8, rfl, _, ⟨dc, rfl, _⟩, c9, c10, rfl, _, ⟨sc, rfl, _⟩, c11, c12, rfl, _, ⟨re, rfl, _⟩, rfl⟩ := h
  have b := bounds_u32q hv
  refine ⟨⟨lg, bi, ve, dc, sc, re⟩, ?_, ⟨b.1, b.2⟩⟩
  apply Array.toList_inj.1
  exact e
theorem Held.alloc {B g : Nat} {t : TypeId} {cs : Array Value} {w0 w : World} (h : Held B g t cs w0 w) (o : Obj) : Held B g t cs w0 (w.alloc o) :=
  ⟨HasB.alloc h.1 o, h.2.1.alloc h.2.2 o, by rw [World.size_alloc]; have := h.2.2; omega⟩
theorem Held2.alloc {B g : Nat} {t : TypeId} {cs : Array Value} {g' : Nat} {t' : TypeId} {cs' : Array Value} {w0 w : World} (h : Held2 B g t cs g' t' cs' w0 w) (o : Obj) : Held2 B g t cs g' t' cs' w0 (w.alloc o) :=
  ⟨HasB.alloc h.1 o, HasB.alloc h.2.1 o, h.2.2.1.alloc h.2.2.2 o, by rw [World.size_alloc]; have := h.2.2.2; omega⟩
theorem four_at {w : World} {g : Nat} {t : TypeId} {a b c d : ByteArray} (H : HasB w g t #[.string a, .string b, .string c, .string d]) : ∀ (j : Nat) (h : j < [a, b, c, d].length), w.cell? ⟨g, j, none⟩ = some (.string ([a, b, c, d])[j])
  | 0, _ => HasB.cell H 0 _ rfl
  | 1, _ => HasB.cell H 1 _ rfl
  | 2, _ => HasB.cell H 2 _ rfl
  | 3, _ => HasB.cell H 3 _ rfl
  | j + 4, h => by simp at h; omega
theorem qtells_big (K : QuicOK) (h : H9) (s c : ByteArray) (hn : smallL [h.dc, h.sc, h.re, c] 60 = false) (w : World) : Calls Try.prog 3 #[.agg #[.bool h.lg, .int .i64 h.bi, .int .u32 h.ve, .string h.dc, .string h.sc, .string h.re], .string s, .string c] w fun e w' => e = .returned (.bool true) ∧ Below w.heap.size w w' := by
  have AW := Lib.hid (awake09 K)
  have HX : Hid (Held w.heap.size w.heap.size 24 #[.bool h.lg, .int .i64 h.bi, .int .u32 h.ve, .string h.dc, .string h.sc, .string h.re] w (w.alloc (.cells #[.bool h.lg, .int .i64 h.bi, .int .u32 h.ve, .string h.dc, .string h.sc, .string h.re] 24))) := Lib.hid ⟨HasB.new w _ _, (Below.refl _ _).alloc (Nat.le_refl _) _, by simp⟩
  have HB : HasB ((w.alloc (.cells #[.bool h.lg, .int .i64 h.bi, .int .u32 h.ve, .string h.dc, .string h.sc, .string h.re] 24)).alloc (.cells #[.string h.dc, .string h.sc, .string h.re, .string c] 9)) (w.heap.size + 1) 9 #[.string h.dc, .string h.sc, .string h.re, .string c] := by
    have := HasB.new (w.alloc (.cells #[.bool h.lg, .int .i64 h.bi, .int .u32 h.ve, .string h.dc, .string h.sc, .string h.re] 24)) 9 #[.string h.dc, .string h.sc, .string h.re, .string c]
    simpa using this
  have hS := smallL_any (w.heap.size + 1) 4 [h.dc, h.sc, h.re, c] 60 (by omega) (by simp) ((w.alloc (.cells #[.bool h.lg, .int .i64 h.bi, .int .u32 h.ve, .string h.dc, .string h.sc, .string h.re] 24)).alloc (.cells #[.string h.dc, .string h.sc, .string h.re, .string c] 9)) (four_at HB)
  rw [hn, show ([h.dc, h.sc, h.re, c] : List ByteArray).length = 4 from rfl, show ((60 : Nat) : Int) = 60 from rfl] at hS
  have HS := Lib.hid hS
  clear hS
  go_enter Try.func3, Try.ntmps3
  go_wp2_with fail
  (with_reducible refine HS.out.mono ?_)
  rintro e wq ⟨rfl, hwq⟩
  replace HX := Lib.hid (HX.out.alloc (.cells #[.string h.dc, .string h.sc, .string h.re, .string c] 9))
  rw [hwq] at HX
  clear HB HS hwq
  go_wp2_with (first | (go_at_call 6; (with_reducible refine (AW.out _).mono ?_); rintro e wz ⟨rfl, hb⟩; replace HX := Lib.hid (HX.out.next hb); clear hb) | fail)
  go_ret
  exact ⟨rfl, HX.out.2.1⟩
theorem qtells_big2 (K : QuicOK) (h : H9) (s c : ByteArray) (hn : smallL [h.dc, h.sc, h.re, c] 60 = true) (hs : 100 < s.size) (w : World) : Calls Try.prog 3 #[.agg #[.bool h.lg, .int .i64 h.bi, .int .u32 h.ve, .string h.dc, .string h.sc, .string h.re], .string s, .string c] w fun e w' => e = .returned (.bool true) ∧ Below w.heap.size w w' := by
  have AW := Lib.hid (awake09 K)
  have hsi : (100 : Int) < s.size := by omega
  have HX : Hid (Held w.heap.size w.heap.size 24 #[.bool h.lg, .int .i64 h.bi, .int .u32 h.ve, .string h.dc, .string h.sc, .string h.re] w (w.alloc (.cells #[.bool h.lg, .int .i64 h.bi, .int .u32 h.ve, .string h.dc, .string h.sc, .string h.re] 24))) := Lib.hid ⟨HasB.new w _ _, (Below.refl _ _).alloc (Nat.le_refl _) _, by simp⟩
  have HB : HasB ((w.alloc (.cells #[.bool h.lg, .int .i64 h.bi, .int .u32 h.ve, .string h.dc, .string h.sc, .string h.re] 24)).alloc (.cells #[.string h.dc, .string h.sc, .string h.re, .string c] 9)) (w.heap.size + 1) 9 #[.string h.dc, .string h.sc, .string h.re, .string c] := by
    have := HasB.new (w.alloc (.cells #[.bool h.lg, .int .i64 h.bi, .int .u32 h.ve, .string h.dc, .string h.sc, .string h.re] 24)) 9 #[.string h.dc, .string h.sc, .string h.re, .string c]
    simpa using this
  have hS := smallL_any (w.heap.size + 1) 4 [h.dc, h.sc, h.re, c] 60 (by omega) (by simp) ((w.alloc (.cells #[.bool h.lg, .int .i64 h.bi, .int .u32 h.ve, .string h.dc, .string h.sc, .string h.re] 24)).alloc (.cells #[.string h.dc, .string h.sc, .string h.re, .string c] 9)) (four_at HB)
  rw [hn, show ([h.dc, h.sc, h.re, c] : List ByteArray).length = 4 from rfl, show ((60 : Nat) : Int) = 60 from rfl] at hS
  have HS := Lib.hid hS
  clear hS
  go_enter Try.func3, Try.ntmps3
  go_wp2_with fail
  (with_reducible refine HS.out.mono ?_)
  rintro e wq ⟨rfl, hwq⟩
  replace HX := Lib.hid (HX.out.alloc (.cells #[.string h.dc, .string h.sc, .string h.re, .string c] 9))
  rw [hwq] at HX
  clear HB HS hwq
  go_wp2_with (first | (go_at_call 6; (with_reducible refine (AW.out _).mono ?_); rintro e wz ⟨rfl, hb⟩; replace HX := Lib.hid (HX.out.next hb); clear hb) | fail)
  go_ret
  exact ⟨rfl, HX.out.2.1⟩
theorem Held2.cells12N {B g g' : Nat} {t t' : TypeId} {x : H9} {w0 w : World} (H : Held2 B g t #[.bool x.lg, .int .i64 x.bi, .int .u32 x.ve, .string x.dc, .string x.sc, .string x.re] g' t' #[.bool x.lg, .int .i64 x.bi, .int .u32 x.ve, .string x.dc, .string x.sc, .string x.re] w0 w) : w.cell? ⟨g, 0, none⟩ = some (.bool x.lg) ∧ w.cell? ⟨g, 1, none⟩ = some (.int .i64 (x.bi)) ∧ w.cell? ⟨g, 2, none⟩ = some (.int .u32 (x.ve)) ∧ w.cell? ⟨g, 3, none⟩ = some (.string (x.dc)) ∧ w.cell? ⟨g, 4, none⟩ = some (.string (x.sc)) ∧ w.cell? ⟨g, 5, none⟩ = some (.string (x.re)) ∧ w.cell? ⟨g', 0, none⟩ = some (.bool x.lg) ∧ w.cell? ⟨g', 1, none⟩ = some (.int .i64 (x.bi)) ∧ w.cell? ⟨g', 2, none⟩ = some (.int .u32 (x.ve)) ∧ w.cell? ⟨g', 3, none⟩ = some (.string (x.dc)) ∧ w.cell? ⟨g', 4, none⟩ = some (.string (x.sc)) ∧ w.cell? ⟨g', 5, none⟩ = some (.string (x.re)) :=
  ⟨HasB.cell H.1 0 _ rfl, HasB.cell H.1 1 _ rfl, HasB.cell H.1 2 _ rfl, HasB.cell H.1 3 _ rfl, HasB.cell H.1 4 _ rfl, HasB.cell H.1 5 _ rfl, HasB.cell H.2.1 0 _ rfl, HasB.cell H.2.1 1 _ rfl, HasB.cell H.2.1 2 _ rfl, HasB.cell H.2.1 3 _ rfl, HasB.cell H.2.1 4 _ rfl, HasB.cell H.2.1 5 _ rfl⟩
set_option maxRecDepth 100000 in
set_option maxHeartbeats 4000000 in
theorem qtells_small (K : QuicOK) (h : H9) (s c : ByteArray) (hb9 : B9 h) (hn : smallL [h.dc, h.sc, h.re, c] 60 = true) (hs : s.size ≤ 100) (w : World) : Calls Try.prog 3 #[.agg #[.bool h.lg, .int .i64 h.bi, .int .u32 h.ve, .string h.dc, .string h.sc, .string h.re], .string s, .string c] w fun e w' => e = .returned (.bool true) ∧ Below w.heap.size w w' := by
  have AW := Lib.hid (awake09 K)
  have hL := smallL_is hn
  have n1 := hL h.dc (by simp)
  have n2 := hL h.sc (by simp)
  have n3 := hL h.re (by simp)
  have n4 := hL c (by simp)
  have hsi : ¬ (100 : Int) < s.size := by omega
  have P1 := Lib.hid (K.put h hb9 (by omega) (by omega) (by omega))
  have P2 := Lib.hid (R09.put_any h hb9 (by omega) (by omega) (by omega))
  have G1 := Lib.hid (K.get s (by omega))
  have G2 := Lib.hid (R09.get_any s (by omega))
  have W1 := Lib.hid (K.wth s c (by omega) (by omega))
  have W2 := Lib.hid (R09.with_any s c (by omega))
  generalize out9 h = O at P1 P2
  generalize err9 h = E at P1 P2
  generalize headG9 s = g at G1 G2
  generalize errG9 s = E2 at G1 G2
  generalize withO s c = O3 at W1 W2
  generalize withE s c = E3 at W1 W2
  clear hb9 hL n1 n2 n3 n4 K hs
  have HX : Hid (Held w.heap.size w.heap.size 24 #[.bool h.lg, .int .i64 h.bi, .int .u32 h.ve, .string h.dc, .string h.sc, .string h.re] w (w.alloc (.cells #[.bool h.lg, .int .i64 h.bi, .int .u32 h.ve, .string h.dc, .string h.sc, .string h.re] 24))) := Lib.hid ⟨HasB.new w _ _, (Below.refl _ _).alloc (Nat.le_refl _) _, by simp⟩
  have HB : HasB ((w.alloc (.cells #[.bool h.lg, .int .i64 h.bi, .int .u32 h.ve, .string h.dc, .string h.sc, .string h.re] 24)).alloc (.cells #[.string h.dc, .string h.sc, .string h.re, .string c] 9)) (w.heap.size + 1) 9 #[.string h.dc, .string h.sc, .string h.re, .string c] := by
    have := HasB.new (w.alloc (.cells #[.bool h.lg, .int .i64 h.bi, .int .u32 h.ve, .string h.dc, .string h.sc, .string h.re] 24)) 9 #[.string h.dc, .string h.sc, .string h.re, .string c]
    simpa using this
  have hS := smallL_any (w.heap.size + 1) 4 [h.dc, h.sc, h.re, c] 60 (by omega) (by simp) ((w.alloc (.cells #[.bool h.lg, .int .i64 h.bi, .int .u32 h.ve, .string h.dc, .string h.sc, .string h.re] 24)).alloc (.cells #[.string h.dc, .string h.sc, .string h.re, .string c] 9)) (four_at HB)
  rw [hn, show ([h.dc, h.sc, h.re, c] : List ByteArray).length = 4 from rfl, show ((60 : Nat) : Int) = 60 from rfl] at hS
  have HS := Lib.hid hS
  clear hS
  go_enter Try.func3, Try.ntmps3
  go_wp2_with fail
  (with_reducible refine HS.out.mono ?_)
  rintro e wq ⟨rfl, hwq⟩
  replace HX := Lib.hid (HX.out.alloc (.cells #[.string h.dc, .string h.sc, .string h.re, .string c] 9))
  rw [hwq] at HX
  clear HB HS hwq
  (have hro := HasB.rowOk HX.out.1 (n := 6) rfl; have hrw := HasB.rowOf HX.out.1)
  go_wp2_with (first | (go_at_call 8; (with_reducible refine (of9_any h _).mono ?_); rintro e wa ⟨rfl, hb⟩; (clear hro hrw); replace HX := Lib.hid (HX.out.next hb); clear hb; (have hro := HasB.rowOk HX.out.1 (n := 6) rfl; have hrw := HasB.rowOf HX.out.1)) | (go_at_call 7; (with_reducible refine (P1.out _).mono ?_); rintro e wa ⟨rfl, hb⟩; (clear hro hrw); replace HX := Lib.hid (HX.out.next hb); clear hb; (have hro := HasB.rowOk HX.out.1 (n := 6) rfl; have hrw := HasB.rowOf HX.out.1)) | (go_at_call 9; (with_reducible refine (P2.out _).mono ?_); rintro e wa ⟨rfl, hb⟩; (clear hro hrw); replace HX := Lib.hid (HX.out.next hb); clear hb; (have hro := HasB.rowOk HX.out.1 (n := 6) rfl; have hrw := HasB.rowOf HX.out.1)) | (go_at_call 10; (with_reducible refine (G1.out _).mono ?_); rintro e wx ⟨rfl, hb⟩; replace HX := Lib.hid ((HX.out.next hb).alloc (.cells #[.bool g.lg, .int .i64 g.bi, .int .u32 g.ve, .string g.dc, .string g.sc, .string g.re] 31)); have hX := HasB.new wx 31 #[.bool g.lg, .int .i64 g.bi, .int .u32 g.ve, .string g.dc, .string g.sc, .string g.re]; clear hb) | (go_at_call 11; (with_reducible refine (G2.out _).mono ?_); rintro e wy ⟨rfl, hb⟩; replace HX := Lib.hid ((HX.out.next hb).alloc (.cells #[.bool g.lg, .int .i64 g.bi, .int .u32 g.ve, .string g.dc, .string g.sc, .string g.re] 24)); replace hX := (HasB.below hX hb hX.lt).alloc (.cells #[.bool g.lg, .int .i64 g.bi, .int .u32 g.ve, .string g.dc, .string g.sc, .string g.re] 24); have hY := HasB.new wy 24 #[.bool g.lg, .int .i64 g.bi, .int .u32 g.ve, .string g.dc, .string g.sc, .string g.re]; clear hb; have HZ : Hid (Held2 w.heap.size wx.heap.size 31 #[.bool g.lg, .int .i64 g.bi, .int .u32 g.ve, .string g.dc, .string g.sc, .string g.re] wy.heap.size 24 #[.bool g.lg, .int .i64 g.bi, .int .u32 g.ve, .string g.dc, .string g.sc, .string g.re] w _) := Lib.hid ⟨hX, hY, HX.out.2.1, HX.out.2.2⟩; (clear hro hrw); clear hX hY HX) | (go_at_call 12; (with_reducible refine (W1.out _).mono ?_); rintro e wu ⟨rfl, hb⟩; replace HZ := Lib.hid (HZ.out.next hb); clear hb) | (go_at_call 13; (with_reducible refine (W2.out _).mono ?_); rintro e wv ⟨rfl, hb⟩; replace HZ := Lib.hid (HZ.out.next hb); clear hb) | fail)
  replace HZ := Lib.hid HZ.out.drew
  go_region_held3 (fun w' => w'.cell? ⟨wx.heap.size, 0, none⟩ = some (.bool g.lg) ∧ w'.cell? ⟨wx.heap.size, 1, none⟩ = some (.int .i64 (g.bi)) ∧ w'.cell? ⟨wx.heap.size, 2, none⟩ = some (.int .u32 (g.ve)) ∧ w'.cell? ⟨wx.heap.size, 3, none⟩ = some (.string (g.dc)) ∧ w'.cell? ⟨wx.heap.size, 4, none⟩ = some (.string (g.sc)) ∧ w'.cell? ⟨wx.heap.size, 5, none⟩ = some (.string (g.re)) ∧ w'.cell? ⟨wy.heap.size, 0, none⟩ = some (.bool g.lg) ∧ w'.cell? ⟨wy.heap.size, 1, none⟩ = some (.int .i64 (g.bi)) ∧ w'.cell? ⟨wy.heap.size, 2, none⟩ = some (.int .u32 (g.ve)) ∧ w'.cell? ⟨wy.heap.size, 3, none⟩ = some (.string (g.dc)) ∧ w'.cell? ⟨wy.heap.size, 4, none⟩ = some (.string (g.sc)) ∧ w'.cell? ⟨wy.heap.size, 5, none⟩ = some (.string (g.re))) (exact HZ.out.cells12N) (first | (go_at_call 14; (with_reducible refine (back9_any g _).mono ?_); rintro e wa ⟨rfl, hb⟩; replace HZ := Lib.hid (HZ.out.next hb); clear hb) | (go_at_call 6; (with_reducible refine (AW.out _).mono ?_); rintro e wa ⟨rfl, hb⟩; replace HZ := Lib.hid (HZ.out.next hb); clear hb))
  all_goals
    have HD := Lib.hid HZ.out.2.2.1
    clear HZ
    go_wp2
    go_ret
    exact ⟨rfl, HD.out⟩
/-- The law's walk. -/
theorem quicTells_any (K : QuicOK) (a : Array Value) (s c : ByteArray) (w : World) (fa : Fits w (.two .bool (.two (.int .i64) (.two (.int .u32) (.two .str (.two .str (.two .str .nil)))))) (Value.agg a).cells.toList) :
    Calls Try.prog 3 #[.agg a, .string s, .string c] w fun e w' => e = .returned (.bool true) ∧ Below w.heap.size w w' := by
  obtain ⟨h, rfl, hb⟩ := fits9 fa
  cases hn : smallL [h.dc, h.sc, h.re, c] 60 with
  | false => exact qtells_big K h s c hn w
  | true =>
    by_cases hs : 100 < s.size
    · exact qtells_big2 K h s c hn hs w
    · exact qtells_small K h s c hb hn (by omega) w
end Go.Proofs.Ytniaelmloealbaa
