/- The law of ipsix against the reference: the walk. -/
import Derived.Test.YtnlinfdfgalmjaaLaw06
namespace Go.Proofs.Ytnlinfdfgalmjaa
open Go.RowKit Go.WideShapes
set_option linter.unusedVariables false
attribute [local go_sem ↓] ldH6 stH6 ldR6 stR6
attribute [local go_sem] rowAt_p rowOkAt_p setAt_p aggOf_a rowOk_new rowOf_new setRow_new agg10 aggH6
attribute [local go_sem ↓] Go.wp_at_zero Go.wp_at_succ

theorem bounds_u64' {n : Int} (h : (Lit.int .u64 n).wf = true) : 0 ≤ n ∧ n < 18446744073709551616 := by
  have := bounds_u64 h; omega
theorem fits6 {w : World} {a : Array Value} (h : Fits w (.two (.int .i64) (.two (.int .i64) (.two (.int .i64) (.two (.int .i64) (.two (.two .bool (.two (.int .u64) (.two (.int .u64) .nil))) (.two (.two .bool (.two (.int .u64) (.two (.int .u64) .nil))) .nil)))))) (Value.agg a).cells.toList) : ∃ h : H6, a = #[.int .i64 h.cl, .int .i64 h.lb, .int .i64 h.nx, .int .i64 h.hp, .bool h.sv, .int .u64 h.sh, .int .u64 h.sl, .bool h.dv, .int .u64 h.dh, .int .u64 h.dl] ∧ B6 h := by
  obtain ⟨c1, c2, e, _, ⟨cl, rfl, _⟩, c3, c4, rfl, _, ⟨lb, rfl, _⟩, c5, c6, rfl, _, ⟨nx, rfl, _⟩, c7, c8, rfl, _, ⟨hp, rfl, _⟩, c11, c12, rfl, _, ⟨d1, d2, rfl, _, ⟨sv, rfl⟩, d3, d4, rfl, _, ⟨sh, rfl, hsh⟩, d5, d6, rfl, _, ⟨sl, rfl, hsl⟩, rfl⟩, c13, c14, rfl, _, ⟨f1, f2, rfl, _, ⟨dv, rfl⟩, f3, f4, rfl, _, ⟨dh, rfl, hdh⟩, f5, f6, rfl, _, ⟨dl, rfl, hdl⟩, rfl⟩, rfl⟩ := h
  have b1 := bounds_u64' hsh
  have b2 := bounds_u64' hsl
  have b3 := bounds_u64' hdh
  have b4 := bounds_u64' hdl
  refine ⟨⟨cl, lb, nx, hp, sv, sh, sl, dv, dh, dl⟩, ?_, ⟨b1.1, b1.2, b2.1, b2.2, b3.1, b3.2, b4.1, b4.2⟩⟩
  apply Array.toList_inj.1
  exact e
theorem Held2.cells10 {B g g' : Nat} {t t' : TypeId} {x y : H6} {w0 w : World} (H : Held2 B g t #[.int .i64 x.cl, .int .i64 x.lb, .int .i64 x.nx, .int .i64 x.hp, .bool x.sv, .int .u64 x.sh, .int .u64 x.sl, .bool x.dv, .int .u64 x.dh, .int .u64 x.dl] g' t' #[.int .i64 y.cl, .int .i64 y.lb, .int .i64 y.nx, .int .i64 y.hp, .bool y.sv, .int .u64 y.sh, .int .u64 y.sl, .bool y.dv, .int .u64 y.dh, .int .u64 y.dl] w0 w) : w.cell? ⟨g, 0, none⟩ = some (.int .i64 x.cl) ∧ w.cell? ⟨g, 1, none⟩ = some (.int .i64 x.lb) ∧ w.cell? ⟨g, 2, none⟩ = some (.int .i64 x.nx) ∧ w.cell? ⟨g, 3, none⟩ = some (.int .i64 x.hp) ∧ w.cell? ⟨g, 4, none⟩ = some (.bool x.sv) ∧ w.cell? ⟨g, 5, none⟩ = some (.int .u64 x.sh) ∧ w.cell? ⟨g, 6, none⟩ = some (.int .u64 x.sl) ∧ w.cell? ⟨g, 7, none⟩ = some (.bool x.dv) ∧ w.cell? ⟨g, 8, none⟩ = some (.int .u64 x.dh) ∧ w.cell? ⟨g, 9, none⟩ = some (.int .u64 x.dl) ∧ w.cell? ⟨g', 0, none⟩ = some (.int .i64 y.cl) ∧ w.cell? ⟨g', 1, none⟩ = some (.int .i64 y.lb) ∧ w.cell? ⟨g', 2, none⟩ = some (.int .i64 y.nx) ∧ w.cell? ⟨g', 3, none⟩ = some (.int .i64 y.hp) ∧ w.cell? ⟨g', 4, none⟩ = some (.bool y.sv) ∧ w.cell? ⟨g', 5, none⟩ = some (.int .u64 y.sh) ∧ w.cell? ⟨g', 6, none⟩ = some (.int .u64 y.sl) ∧ w.cell? ⟨g', 7, none⟩ = some (.bool y.dv) ∧ w.cell? ⟨g', 8, none⟩ = some (.int .u64 y.dh) ∧ w.cell? ⟨g', 9, none⟩ = some (.int .u64 y.dl) :=
  ⟨HasB.cell H.1 0 _ rfl, HasB.cell H.1 1 _ rfl, HasB.cell H.1 2 _ rfl, HasB.cell H.1 3 _ rfl, HasB.cell H.1 4 _ rfl, HasB.cell H.1 5 _ rfl, HasB.cell H.1 6 _ rfl, HasB.cell H.1 7 _ rfl, HasB.cell H.1 8 _ rfl, HasB.cell H.1 9 _ rfl,
    HasB.cell H.2.1 0 _ rfl, HasB.cell H.2.1 1 _ rfl, HasB.cell H.2.1 2 _ rfl, HasB.cell H.2.1 3 _ rfl, HasB.cell H.2.1 4 _ rfl, HasB.cell H.2.1 5 _ rfl, HasB.cell H.2.1 6 _ rfl, HasB.cell H.2.1 7 _ rfl, HasB.cell H.2.1 8 _ rfl, HasB.cell H.2.1 9 _ rfl⟩
set_option maxHeartbeats 2000000 in
theorem ipsixTells_walk (a : Array Value) (p s : ByteArray) (w1 : p.size ≤ maxLen) (w2 : s.size ≤ maxLen) (w : World) (fa : Fits w (.two (.int .i64) (.two (.int .i64) (.two (.int .i64) (.two (.int .i64) (.two (.two .bool (.two (.int .u64) (.two (.int .u64) .nil))) (.two (.two .bool (.two (.int .u64) (.two (.int .u64) .nil))) .nil)))))) (Value.agg a).cells.toList) :
    Calls Try.prog 3 #[.agg a, .string p, .string s] w fun e w' => e = .returned (.bool true) ∧ Below w.heap.size w w' := by
  obtain ⟨h, rfl, hbd⟩ := fits6 fa
  clear fa
  have hq : Below w.heap.size w (w.alloc (.cells #[.int .i64 h.cl, .int .i64 h.lb, .int .i64 h.nx, .int .i64 h.hp, .bool h.sv, .int .u64 h.sh, .int .u64 h.sl, .bool h.dv, .int .u64 h.dh, .int .u64 h.dl] 26)) := (Below.refl _ _).alloc (Nat.le_refl _) _
  have hH := HasB.new w 26 #[.int .i64 h.cl, .int .i64 h.lb, .int .i64 h.nx, .int .i64 h.hp, .bool h.sv, .int .u64 h.sh, .int .u64 h.sl, .bool h.dv, .int .u64 h.dh, .int .u64 h.dl]
  by_cases hp : 200 < p.size
  · have hpi : (200 : Int) < p.size := by omega
    go_enter Try.func3, Try.ntmps3
    go_wp2_with (first | (go_at_call 5; refine (awake06 _).mono ?_; rintro e w1 ⟨rfl, hb1⟩; replace hq := hq.trans (hb1.mono hq.size)) | fail)
    go_ret
    exact ⟨rfl, hq⟩
  by_cases hs : 200 < s.size
  · have hpi : ¬ (200 : Int) < p.size := by omega
    have hsi : (200 : Int) < s.size := by omega
    go_enter Try.func3, Try.ntmps3
    go_wp2_with (first | (go_at_call 5; refine (awake06 _).mono ?_; rintro e w1 ⟨rfl, hb1⟩; replace hq := hq.trans (hb1.mono hq.size)) | fail)
    go_ret
    exact ⟨rfl, hq⟩
  have hpi : ¬ (200 : Int) < p.size := by omega
  have hsi : ¬ (200 : Int) < s.size := by omega
  have P1 := Lib.hid (put6_any h p hbd (by omega))
  have P2 := Lib.hid (R06.put6_any h p hbd (by omega))
  have G1 := Lib.hid (get6_any s (by omega))
  have G2 := Lib.hid (R06.get6_any s (by omega))
  generalize out6 h p = O at P1 P2
  generalize err6 h p = E at P1 P2
  generalize headG6 s = g at G1 G2
  generalize payG6 s = y at G1 G2
  generalize errG6 s = E2 at G1 G2
  clear hbd hp hs
  go_enter Try.func3, Try.ntmps3
  go_wp2_with (first | (go_at_call 7; (with_reducible refine (of6_any h _).mono ?_); rintro e wa ⟨rfl, hb⟩; replace hq := hq.trans (hb.mono hq.size); replace hH := HasB.below hH hb hH.lt; clear hb) | (go_at_call 6; (with_reducible refine (P1.out _).mono ?_); rintro e wa ⟨rfl, hb⟩; replace hq := hq.trans (hb.mono hq.size); replace hH := HasB.below hH hb hH.lt; clear hb; have hro := HasB.rowOk hH (n := 10) rfl; have hrw := HasB.rowOf hH) | (go_at_call 8; (with_reducible refine (P2.out _).mono ?_); rintro e wa ⟨rfl, hb⟩; clear hro hrw; replace hq := hq.trans (hb.mono hq.size); replace hH := HasB.below hH hb hH.lt; clear hb) | (go_at_call 9; (with_reducible refine (G1.out _).mono ?_); rintro e wx ⟨rfl, hb⟩; replace hq := (hq.trans (hb.mono hq.size)).alloc (Nat.le_trans hq.size hb.size) (.cells #[.int .i64 g.cl, .int .i64 g.lb, .int .i64 g.nx, .int .i64 g.hp, .bool g.sv, .int .u64 g.sh, .int .u64 g.sl, .bool g.dv, .int .u64 g.dh, .int .u64 g.dl] 31); have hX := HasB.new wx 31 #[.int .i64 g.cl, .int .i64 g.lb, .int .i64 g.nx, .int .i64 g.hp, .bool g.sv, .int .u64 g.sh, .int .u64 g.sl, .bool g.dv, .int .u64 g.dh, .int .u64 g.dl]; clear hb) | (go_at_call 10; (with_reducible refine (G2.out _).mono ?_); rintro e wy ⟨rfl, hb⟩; replace hq := (hq.trans (hb.mono hq.size)).alloc (Nat.le_trans hq.size hb.size) (.cells #[.int .i64 g.cl, .int .i64 g.lb, .int .i64 g.nx, .int .i64 g.hp, .bool g.sv, .int .u64 g.sh, .int .u64 g.sl, .bool g.dv, .int .u64 g.dh, .int .u64 g.dl] 26); replace hX := (HasB.below hX hb hX.lt).alloc (.cells #[.int .i64 g.cl, .int .i64 g.lb, .int .i64 g.nx, .int .i64 g.hp, .bool g.sv, .int .u64 g.sh, .int .u64 g.sl, .bool g.dv, .int .u64 g.dh, .int .u64 g.dl] 26); have hY := HasB.new wy 26 #[.int .i64 g.cl, .int .i64 g.lb, .int .i64 g.nx, .int .i64 g.hp, .bool g.sv, .int .u64 g.sh, .int .u64 g.sl, .bool g.dv, .int .u64 g.dh, .int .u64 g.dl]; clear hb) | fail)
  have HX : Hid (Held2 w.heap.size wx.heap.size 31 #[.int .i64 g.cl, .int .i64 g.lb, .int .i64 g.nx, .int .i64 g.hp, .bool g.sv, .int .u64 g.sh, .int .u64 g.sl, .bool g.dv, .int .u64 g.dh, .int .u64 g.dl] wy.heap.size 26 #[.int .i64 g.cl, .int .i64 g.lb, .int .i64 g.nx, .int .i64 g.hp, .bool g.sv, .int .u64 g.sh, .int .u64 g.sl, .bool g.dv, .int .u64 g.dh, .int .u64 g.dl] w _) := Lib.hid (Held2.drew ⟨hX, hY, hq, hq.size⟩)
  clear hH hX hY hq
  go_region_held3 (fun w' => w'.cell? ⟨wx.heap.size, 0, none⟩ = some (.int .i64 g.cl) ∧ w'.cell? ⟨wx.heap.size, 1, none⟩ = some (.int .i64 g.lb) ∧ w'.cell? ⟨wx.heap.size, 2, none⟩ = some (.int .i64 g.nx) ∧ w'.cell? ⟨wx.heap.size, 3, none⟩ = some (.int .i64 g.hp) ∧ w'.cell? ⟨wx.heap.size, 4, none⟩ = some (.bool g.sv) ∧ w'.cell? ⟨wx.heap.size, 5, none⟩ = some (.int .u64 g.sh) ∧ w'.cell? ⟨wx.heap.size, 6, none⟩ = some (.int .u64 g.sl) ∧ w'.cell? ⟨wx.heap.size, 7, none⟩ = some (.bool g.dv) ∧ w'.cell? ⟨wx.heap.size, 8, none⟩ = some (.int .u64 g.dh) ∧ w'.cell? ⟨wx.heap.size, 9, none⟩ = some (.int .u64 g.dl) ∧ w'.cell? ⟨wy.heap.size, 0, none⟩ = some (.int .i64 g.cl) ∧ w'.cell? ⟨wy.heap.size, 1, none⟩ = some (.int .i64 g.lb) ∧ w'.cell? ⟨wy.heap.size, 2, none⟩ = some (.int .i64 g.nx) ∧ w'.cell? ⟨wy.heap.size, 3, none⟩ = some (.int .i64 g.hp) ∧ w'.cell? ⟨wy.heap.size, 4, none⟩ = some (.bool g.sv) ∧ w'.cell? ⟨wy.heap.size, 5, none⟩ = some (.int .u64 g.sh) ∧ w'.cell? ⟨wy.heap.size, 6, none⟩ = some (.int .u64 g.sl) ∧ w'.cell? ⟨wy.heap.size, 7, none⟩ = some (.bool g.dv) ∧ w'.cell? ⟨wy.heap.size, 8, none⟩ = some (.int .u64 g.dh) ∧ w'.cell? ⟨wy.heap.size, 9, none⟩ = some (.int .u64 g.dl)) (exact HX.out.cells10) (first | (go_at_call 11; (with_reducible refine (back6_any g _).mono ?_); rintro e wa ⟨rfl, hb⟩; replace HX := Lib.hid (HX.out.next hb); clear hb) | (go_at_call 5; (with_reducible refine (awake06 _).mono ?_); rintro e wa ⟨rfl, hb⟩; replace HX := Lib.hid (HX.out.next hb); clear hb))
  all_goals
    have HD := Lib.hid HX.out.2.2.1
    clear HX
    go_wp2
    go_ret
    exact ⟨rfl, HD.out⟩
end Go.Proofs.Ytnlinfdfgalmjaa
