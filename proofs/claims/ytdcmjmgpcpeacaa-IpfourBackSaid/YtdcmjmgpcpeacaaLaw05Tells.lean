/- The law of ipfour against the reference: the walk. -/
import Derived.Test.YtdcmjmgpcpeacaaLaw05
namespace Go.Proofs.Ytdcmjmgpcpeacaa
open Go.RowKit Go.WideShapes
set_option linter.unusedVariables false
attribute [local go_sem ↓] ld53 st53 ld31 st31 ld26 st26
attribute [local go_sem] rowAt_p rowOkAt_p setAt_p aggOf_a rowOk_new rowOf_new setRow_new agg17 agg12
attribute [local go_sem ↓] Go.wp_at_zero Go.wp_at_succ

theorem bounds_u64' {n : Int} (h : (Lit.int .u64 n).wf = true) : 0 ≤ n ∧ n < 18446744073709551616 := by
  have := bounds_u64 h; omega
/-- The bounds of a head's addresses, and of its options. -/
structure HBd (h : Hd) : Prop where
  a0 : 0 ≤ h.sh
  a1 : h.sh < 18446744073709551616
  b0 : 0 ≤ h.sl
  b1 : h.sl < 18446744073709551616
  c0 : 0 ≤ h.dh
  c1 : h.dh < 18446744073709551616
  d0 : 0 ≤ h.dl
  d1 : h.dl < 18446744073709551616
  o : h.op.size ≤ maxLen
theorem fits_head {w : World} {a : Array Value} (h : Fits w (.two (.int .i64) (.two (.int .i64) (.two .bool (.two (.int .i64) (.two (.int .i64) (.two (.two .bool (.two (.int .u64) (.two (.int .u64) .nil))) (.two (.two .bool (.two (.int .u64) (.two (.int .u64) .nil))) (.two .str .nil)))))))) (Value.agg a).cells.toList) : ∃ h : Hd, a = #[.int .i64 h.cl, .int .i64 h.id, .bool h.wh, .int .i64 h.tt, .int .i64 h.pr, .bool h.sv, .int .u64 h.sh, .int .u64 h.sl, .bool h.dv, .int .u64 h.dh, .int .u64 h.dl, .string h.op] ∧ HBd h := by
  obtain ⟨c1, c2, e, _, ⟨cl, rfl, _⟩, c3, c4, rfl, _, ⟨id, rfl, _⟩, c5, c6, rfl, _, ⟨wh, rfl⟩, c7, c8, rfl, _, ⟨tt, rfl, _⟩, c9, c10, rfl, _, ⟨pr, rfl, _⟩, c11, c12, rfl, _, ⟨d1, d2, rfl, _, ⟨sv, rfl⟩, d3, d4, rfl, _, ⟨sh, rfl, hsh⟩, d5, d6, rfl, _, ⟨sl, rfl, hsl⟩, rfl⟩, c13, c14, rfl, _, ⟨f1, f2, rfl, _, ⟨dv, rfl⟩, f3, f4, rfl, _, ⟨dh, rfl, hdh⟩, f5, f6, rfl, _, ⟨dl, rfl, hdl⟩, rfl⟩, c15, c16, rfl, _, ⟨op, rfl, ho⟩, rfl⟩ := h
  have b1 := bounds_u64' hsh
  have b2 := bounds_u64' hsl
  have b3 := bounds_u64' hdh
  have b4 := bounds_u64' hdl
  refine ⟨⟨cl, id, wh, tt, pr, sv, sh, sl, dv, dh, dl, op⟩, ?_, ⟨b1.1, b1.2, b2.1, b2.2, b3.1, b3.2, b4.1, b4.2, ho⟩⟩
  apply Array.toList_inj.1
  exact e
/-- Three blocks that stay. -/
def Held3 (B g : Nat) (t : TypeId) (cs : Array Value) (g' : Nat) (t' : TypeId) (cs' : Array Value) (g2 : Nat) (t2 : TypeId) (cs2 : Array Value) (w0 w : World) : Prop := HasB w g t cs ∧ HasB w g' t' cs' ∧ HasB w g2 t2 cs2 ∧ Below B w0 w ∧ B ≤ w.heap.size
theorem Held3.next {B g : Nat} {t : TypeId} {cs : Array Value} {g' : Nat} {t' : TypeId} {cs' : Array Value} {g2 : Nat} {t2 : TypeId} {cs2 : Array Value} {w0 w w' : World} (h : Held3 B g t cs g' t' cs' g2 t2 cs2 w0 w) (hb : Below w.heap.size w w') : Held3 B g t cs g' t' cs' g2 t2 cs2 w0 w' :=
  ⟨HasB.below h.1 hb h.1.lt, HasB.below h.2.1 hb h.2.1.lt, HasB.below h.2.2.1 hb h.2.2.1.lt, h.2.2.2.1.trans (hb.mono h.2.2.2.2), Nat.le_trans h.2.2.2.2 hb.size⟩
theorem Held3.drew {B g : Nat} {t : TypeId} {cs : Array Value} {g' : Nat} {t' : TypeId} {cs' : Array Value} {g2 : Nat} {t2 : TypeId} {cs2 : Array Value} {w0 w : World} (h : Held3 B g t cs g' t' cs' g2 t2 cs2 w0 w) : Held3 B g t cs g' t' cs' g2 t2 cs2 w0 w.drew := ⟨h.1, h.2.1, h.2.2.1, h.2.2.2.1.drew, h.2.2.2.2⟩
theorem Held3.cells {B g g' g2 : Nat} {t t' t2 : TypeId} {x y h : Hd} {w0 w : World} (H : Held3 B g t #[.int .i64 h.cl, .int .i64 h.id, .bool h.wh, .int .i64 h.tt, .int .i64 h.pr, .bool h.sv, .int .u64 h.sh, .int .u64 h.sl, .bool h.dv, .int .u64 h.dh, .int .u64 h.dl, .string h.op] g' t' #[.int .i64 x.cl, .int .i64 x.id, .bool x.wh, .int .i64 x.tt, .int .i64 x.pr, .bool x.sv, .int .u64 x.sh, .int .u64 x.sl, .bool x.dv, .int .u64 x.dh, .int .u64 x.dl, .string x.op] g2 t2 #[.int .i64 y.cl, .int .i64 y.id, .bool y.wh, .int .i64 y.tt, .int .i64 y.pr, .bool y.sv, .int .u64 y.sh, .int .u64 y.sl, .bool y.dv, .int .u64 y.dh, .int .u64 y.dl, .string y.op] w0 w) : w.cell? ⟨g', 0, none⟩ = some (.int .i64 x.cl) ∧ w.cell? ⟨g', 1, none⟩ = some (.int .i64 x.id) ∧ w.cell? ⟨g', 2, none⟩ = some (.bool x.wh) ∧ w.cell? ⟨g', 3, none⟩ = some (.int .i64 x.tt) ∧ w.cell? ⟨g', 4, none⟩ = some (.int .i64 x.pr) ∧ w.cell? ⟨g', 5, none⟩ = some (.bool x.sv) ∧ w.cell? ⟨g', 6, none⟩ = some (.int .u64 x.sh) ∧ w.cell? ⟨g', 7, none⟩ = some (.int .u64 x.sl) ∧ w.cell? ⟨g', 8, none⟩ = some (.bool x.dv) ∧ w.cell? ⟨g', 9, none⟩ = some (.int .u64 x.dh) ∧ w.cell? ⟨g', 10, none⟩ = some (.int .u64 x.dl) ∧ w.cell? ⟨g', 11, none⟩ = some (.string x.op) ∧ w.cell? ⟨g2, 0, none⟩ = some (.int .i64 y.cl) ∧ w.cell? ⟨g2, 1, none⟩ = some (.int .i64 y.id) ∧ w.cell? ⟨g2, 2, none⟩ = some (.bool y.wh) ∧ w.cell? ⟨g2, 3, none⟩ = some (.int .i64 y.tt) ∧ w.cell? ⟨g2, 4, none⟩ = some (.int .i64 y.pr) ∧ w.cell? ⟨g2, 5, none⟩ = some (.bool y.sv) ∧ w.cell? ⟨g2, 6, none⟩ = some (.int .u64 y.sh) ∧ w.cell? ⟨g2, 7, none⟩ = some (.int .u64 y.sl) ∧ w.cell? ⟨g2, 8, none⟩ = some (.bool y.dv) ∧ w.cell? ⟨g2, 9, none⟩ = some (.int .u64 y.dh) ∧ w.cell? ⟨g2, 10, none⟩ = some (.int .u64 y.dl) ∧ w.cell? ⟨g2, 11, none⟩ = some (.string y.op) ∧ w.cell? ⟨g, 4, none⟩ = some (.int .i64 h.pr) ∧ w.cell? ⟨g, 5, none⟩ = some (.bool h.sv) ∧ w.cell? ⟨g, 6, none⟩ = some (.int .u64 h.sh) ∧ w.cell? ⟨g, 7, none⟩ = some (.int .u64 h.sl) ∧ w.cell? ⟨g, 8, none⟩ = some (.bool h.dv) ∧ w.cell? ⟨g, 9, none⟩ = some (.int .u64 h.dh) ∧ w.cell? ⟨g, 10, none⟩ = some (.int .u64 h.dl) :=
  ⟨HasB.cell H.2.1 0 _ rfl, HasB.cell H.2.1 1 _ rfl, HasB.cell H.2.1 2 _ rfl, HasB.cell H.2.1 3 _ rfl, HasB.cell H.2.1 4 _ rfl, HasB.cell H.2.1 5 _ rfl, HasB.cell H.2.1 6 _ rfl, HasB.cell H.2.1 7 _ rfl, HasB.cell H.2.1 8 _ rfl, HasB.cell H.2.1 9 _ rfl, HasB.cell H.2.1 10 _ rfl, HasB.cell H.2.1 11 _ rfl,
    HasB.cell H.2.2.1 0 _ rfl, HasB.cell H.2.2.1 1 _ rfl, HasB.cell H.2.2.1 2 _ rfl, HasB.cell H.2.2.1 3 _ rfl, HasB.cell H.2.2.1 4 _ rfl, HasB.cell H.2.2.1 5 _ rfl, HasB.cell H.2.2.1 6 _ rfl, HasB.cell H.2.2.1 7 _ rfl, HasB.cell H.2.2.1 8 _ rfl, HasB.cell H.2.2.1 9 _ rfl, HasB.cell H.2.2.1 10 _ rfl, HasB.cell H.2.2.1 11 _ rfl,
    HasB.cell H.1 4 _ rfl, HasB.cell H.1 5 _ rfl, HasB.cell H.1 6 _ rfl, HasB.cell H.1 7 _ rfl, HasB.cell H.1 8 _ rfl, HasB.cell H.1 9 _ rfl, HasB.cell H.1 10 _ rfl⟩
set_option maxHeartbeats 2000000 in
theorem ipfourTells_walk (a : Array Value) (p s : ByteArray) (n : Int) (w1 : p.size ≤ maxLen) (w2 : s.size ≤ maxLen) (w3 : (Lit.int .i64 n).wf = true) (w : World) (fa : Fits w (.two (.int .i64) (.two (.int .i64) (.two .bool (.two (.int .i64) (.two (.int .i64) (.two (.two .bool (.two (.int .u64) (.two (.int .u64) .nil))) (.two (.two .bool (.two (.int .u64) (.two (.int .u64) .nil))) (.two .str .nil)))))))) (Value.agg a).cells.toList) :
    Calls Try.prog 3 #[.agg a, .string p, .string s, .int .i64 n] w fun e w' => e = .returned (.bool true) ∧ Below w.heap.size w w' := by
  obtain ⟨h, rfl, hbd⟩ := fits_head fa
  clear fa w3
  have hq : Below w.heap.size w (w.alloc (.cells #[.int .i64 h.cl, .int .i64 h.id, .bool h.wh, .int .i64 h.tt, .int .i64 h.pr, .bool h.sv, .int .u64 h.sh, .int .u64 h.sl, .bool h.dv, .int .u64 h.dh, .int .u64 h.dl, .string h.op] 26)) := (Below.refl _ _).alloc (Nat.le_refl _) _
  have hH := HasB.new w 26 #[.int .i64 h.cl, .int .i64 h.id, .bool h.wh, .int .i64 h.tt, .int .i64 h.pr, .bool h.sv, .int .u64 h.sh, .int .u64 h.sl, .bool h.dv, .int .u64 h.dh, .int .u64 h.dl, .string h.op]
  by_cases ho : 60 < h.op.size
  · have hoi : (60 : Int) < h.op.size := by omega
    go_enter Try.func3, Try.ntmps3
    go_wp2_with (first | (go_at_call 5; refine (awake05 _).mono ?_; rintro e w1 ⟨rfl, hb1⟩; replace hq := hq.trans (hb1.mono hq.size)) | fail)
    go_ret
    exact ⟨rfl, hq⟩
  by_cases hp : 200 < p.size
  · have hoi : ¬ (60 : Int) < h.op.size := by omega
    have hpi : (200 : Int) < p.size := by omega
    go_enter Try.func3, Try.ntmps3
    go_wp2_with (first | (go_at_call 5; refine (awake05 _).mono ?_; rintro e w1 ⟨rfl, hb1⟩; replace hq := hq.trans (hb1.mono hq.size)) | fail)
    go_ret
    exact ⟨rfl, hq⟩
  by_cases hs : 200 < s.size
  · have hoi : ¬ (60 : Int) < h.op.size := by omega
    have hpi : ¬ (200 : Int) < p.size := by omega
    have hsi : (200 : Int) < s.size := by omega
    go_enter Try.func3, Try.ntmps3
    go_wp2_with (first | (go_at_call 5; refine (awake05 _).mono ?_; rintro e w1 ⟨rfl, hb1⟩; replace hq := hq.trans (hb1.mono hq.size)) | fail)
    go_ret
    exact ⟨rfl, hq⟩
  have hoi : ¬ (60 : Int) < h.op.size := by omega
  have hpi : ¬ (200 : Int) < p.size := by omega
  have hsi : ¬ (200 : Int) < s.size := by omega
  have P1 := Lib.hid (put4_any h p hbd.b0 hbd.d0 (by omega))
  have P2 := Lib.hid (R05.put5_any h p hbd.b0 hbd.d0 (by omega) (by omega))
  have G1 := Lib.hid (get4_any s (by omega))
  have G2 := Lib.hid (R05.get5_any s (by omega))
  have S1 := Lib.hid (pseudo4_any h.sv h.sh h.sl h.dv h.dh h.dl h.pr n hbd.a0 hbd.a1 hbd.b0 hbd.b1 hbd.c0 hbd.c1 hbd.d0 hbd.d1)
  have S2 := Lib.hid (R05.pseudo_any h.sv h.sh h.sl h.dv h.dh h.dl h.pr n hbd.a0 hbd.a1 hbd.b0 hbd.b1 hbd.c0 hbd.c1 hbd.d0 hbd.d1)
  generalize outP h p = O at P1 P2
  generalize errP h p = E at P1 P2
  generalize headG s = g at G1 G2
  generalize payG s = y at G1 G2
  generalize errG s = E2 at G1 G2
  generalize pseudoL h.sv h.sh h.sl h.dv h.dh h.dl h.pr n = q at S1 S2
  clear hbd ho hp hs
  go_enter Try.func3, Try.ntmps3
  go_wp2_with (first | (go_at_call 7; (with_reducible refine (of5_any h _).mono ?_); rintro e wa ⟨rfl, hb⟩; replace hq := hq.trans (hb.mono hq.size); replace hH := HasB.below hH hb hH.lt; clear hb) | (go_at_call 6; (with_reducible refine (P1.out _).mono ?_); rintro e wa ⟨rfl, hb⟩; replace hq := hq.trans (hb.mono hq.size); replace hH := HasB.below hH hb hH.lt; clear hb; obtain ⟨c0, c1, c2, c3, c4, c5, c6, c7, c8, c9, c10, c11⟩ := cells12 hH) | (go_at_call 8; (with_reducible refine (P2.out _).mono ?_); rintro e wa ⟨rfl, hb⟩; clear c0 c1 c2 c3 c4 c5 c6 c7 c8 c9 c10 c11; replace hq := hq.trans (hb.mono hq.size); replace hH := HasB.below hH hb hH.lt; clear hb) | (go_at_call 9; (with_reducible refine (G1.out _).mono ?_); rintro e wx ⟨rfl, hb⟩; replace hq := (hq.trans (hb.mono hq.size)).alloc (Nat.le_trans hq.size hb.size) (.cells #[.int .i64 g.cl, .int .i64 g.id, .bool g.wh, .int .i64 g.tt, .int .i64 g.pr, .bool g.sv, .int .u64 g.sh, .int .u64 g.sl, .bool g.dv, .int .u64 g.dh, .int .u64 g.dl, .string g.op] 31); replace hH := (HasB.below hH hb hH.lt).alloc (.cells #[.int .i64 g.cl, .int .i64 g.id, .bool g.wh, .int .i64 g.tt, .int .i64 g.pr, .bool g.sv, .int .u64 g.sh, .int .u64 g.sl, .bool g.dv, .int .u64 g.dh, .int .u64 g.dl, .string g.op] 31); have hX := HasB.new wx 31 #[.int .i64 g.cl, .int .i64 g.id, .bool g.wh, .int .i64 g.tt, .int .i64 g.pr, .bool g.sv, .int .u64 g.sh, .int .u64 g.sl, .bool g.dv, .int .u64 g.dh, .int .u64 g.dl, .string g.op]; clear hb) | (go_at_call 10; (with_reducible refine (G2.out _).mono ?_); rintro e wy ⟨rfl, hb⟩; replace hq := (hq.trans (hb.mono hq.size)).alloc (Nat.le_trans hq.size hb.size) (.cells #[.int .i64 g.cl, .int .i64 g.id, .bool g.wh, .int .i64 g.tt, .int .i64 g.pr, .bool g.sv, .int .u64 g.sh, .int .u64 g.sl, .bool g.dv, .int .u64 g.dh, .int .u64 g.dl, .string g.op] 26); replace hH := (HasB.below hH hb hH.lt).alloc (.cells #[.int .i64 g.cl, .int .i64 g.id, .bool g.wh, .int .i64 g.tt, .int .i64 g.pr, .bool g.sv, .int .u64 g.sh, .int .u64 g.sl, .bool g.dv, .int .u64 g.dh, .int .u64 g.dl, .string g.op] 26); replace hX := (HasB.below hX hb hX.lt).alloc (.cells #[.int .i64 g.cl, .int .i64 g.id, .bool g.wh, .int .i64 g.tt, .int .i64 g.pr, .bool g.sv, .int .u64 g.sh, .int .u64 g.sl, .bool g.dv, .int .u64 g.dh, .int .u64 g.dl, .string g.op] 26); have hY := HasB.new wy 26 #[.int .i64 g.cl, .int .i64 g.id, .bool g.wh, .int .i64 g.tt, .int .i64 g.pr, .bool g.sv, .int .u64 g.sh, .int .u64 g.sl, .bool g.dv, .int .u64 g.dh, .int .u64 g.dl, .string g.op]; clear hb) | fail)
  have HX : Hid (Held3 w.heap.size w.heap.size 26 #[.int .i64 h.cl, .int .i64 h.id, .bool h.wh, .int .i64 h.tt, .int .i64 h.pr, .bool h.sv, .int .u64 h.sh, .int .u64 h.sl, .bool h.dv, .int .u64 h.dh, .int .u64 h.dl, .string h.op] wx.heap.size 31 #[.int .i64 g.cl, .int .i64 g.id, .bool g.wh, .int .i64 g.tt, .int .i64 g.pr, .bool g.sv, .int .u64 g.sh, .int .u64 g.sl, .bool g.dv, .int .u64 g.dh, .int .u64 g.dl, .string g.op] wy.heap.size 26 #[.int .i64 g.cl, .int .i64 g.id, .bool g.wh, .int .i64 g.tt, .int .i64 g.pr, .bool g.sv, .int .u64 g.sh, .int .u64 g.sl, .bool g.dv, .int .u64 g.dh, .int .u64 g.dl, .string g.op] w _) := Lib.hid (Held3.drew ⟨hH, hX, hY, hq, hq.size⟩)
  clear hH hX hY hq
  go_region_held3 (fun w' => w'.cell? ⟨wx.heap.size, 0, none⟩ = some (.int .i64 g.cl) ∧ w'.cell? ⟨wx.heap.size, 1, none⟩ = some (.int .i64 g.id) ∧ w'.cell? ⟨wx.heap.size, 2, none⟩ = some (.bool g.wh) ∧ w'.cell? ⟨wx.heap.size, 3, none⟩ = some (.int .i64 g.tt) ∧ w'.cell? ⟨wx.heap.size, 4, none⟩ = some (.int .i64 g.pr) ∧ w'.cell? ⟨wx.heap.size, 5, none⟩ = some (.bool g.sv) ∧ w'.cell? ⟨wx.heap.size, 6, none⟩ = some (.int .u64 g.sh) ∧ w'.cell? ⟨wx.heap.size, 7, none⟩ = some (.int .u64 g.sl) ∧ w'.cell? ⟨wx.heap.size, 8, none⟩ = some (.bool g.dv) ∧ w'.cell? ⟨wx.heap.size, 9, none⟩ = some (.int .u64 g.dh) ∧ w'.cell? ⟨wx.heap.size, 10, none⟩ = some (.int .u64 g.dl) ∧ w'.cell? ⟨wx.heap.size, 11, none⟩ = some (.string g.op) ∧ w'.cell? ⟨wy.heap.size, 0, none⟩ = some (.int .i64 g.cl) ∧ w'.cell? ⟨wy.heap.size, 1, none⟩ = some (.int .i64 g.id) ∧ w'.cell? ⟨wy.heap.size, 2, none⟩ = some (.bool g.wh) ∧ w'.cell? ⟨wy.heap.size, 3, none⟩ = some (.int .i64 g.tt) ∧ w'.cell? ⟨wy.heap.size, 4, none⟩ = some (.int .i64 g.pr) ∧ w'.cell? ⟨wy.heap.size, 5, none⟩ = some (.bool g.sv) ∧ w'.cell? ⟨wy.heap.size, 6, none⟩ = some (.int .u64 g.sh) ∧ w'.cell? ⟨wy.heap.size, 7, none⟩ = some (.int .u64 g.sl) ∧ w'.cell? ⟨wy.heap.size, 8, none⟩ = some (.bool g.dv) ∧ w'.cell? ⟨wy.heap.size, 9, none⟩ = some (.int .u64 g.dh) ∧ w'.cell? ⟨wy.heap.size, 10, none⟩ = some (.int .u64 g.dl) ∧ w'.cell? ⟨wy.heap.size, 11, none⟩ = some (.string g.op) ∧ w'.cell? ⟨w.heap.size, 4, none⟩ = some (.int .i64 h.pr) ∧ w'.cell? ⟨w.heap.size, 5, none⟩ = some (.bool h.sv) ∧ w'.cell? ⟨w.heap.size, 6, none⟩ = some (.int .u64 h.sh) ∧ w'.cell? ⟨w.heap.size, 7, none⟩ = some (.int .u64 h.sl) ∧ w'.cell? ⟨w.heap.size, 8, none⟩ = some (.bool h.dv) ∧ w'.cell? ⟨w.heap.size, 9, none⟩ = some (.int .u64 h.dh) ∧ w'.cell? ⟨w.heap.size, 10, none⟩ = some (.int .u64 h.dl)) (exact HX.out.cells) (first | (go_at_call 11; (with_reducible refine (back5_any g _).mono ?_); rintro e wa ⟨rfl, hb⟩; replace HX := Lib.hid (HX.out.next hb); clear hb) | (go_at_call 12; (with_reducible refine (S1.out _).mono ?_); rintro e wa ⟨rfl, hb⟩; replace HX := Lib.hid (HX.out.next hb); clear hb) | (go_at_call 13; (with_reducible refine (S2.out _).mono ?_); rintro e wa ⟨rfl, hb⟩; replace HX := Lib.hid (HX.out.next hb); clear hb) | (go_at_call 5; (with_reducible refine (awake05 _).mono ?_); rintro e wa ⟨rfl, hb⟩; replace HX := Lib.hid (HX.out.next hb); clear hb))
  all_goals
    have HD := Lib.hid HX.out.2.2.2.1
    clear HX
    go_wp2
    go_ret
    exact ⟨rfl, HD.out⟩
end Go.Proofs.Ytdcmjmgpcpeacaa
