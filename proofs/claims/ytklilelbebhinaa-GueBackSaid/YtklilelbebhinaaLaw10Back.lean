/- The law of gue without the reference: the walk. -/
import Derived.Test.YtklilelbebhinaaLaw10
import Derived.Test.YtklilelbebhinaaFlip
namespace Go.Proofs.Ytklilelbebhinaa
open Go.RowKit Go.WideShapes
set_option linter.unusedVariables false
attribute [local go_sem ↓] ldCV stCV
attribute [local go_sem] rowAt_p rowOkAt_p setAt_p aggOf_a rowOk_new rowOf_new setRow_new aggCV aggCT
attribute [local go_sem ↓] Go.wp_at_zero Go.wp_at_succ

theorem gback_big (K : GueOK) (c : CV) (p : ByteArray) (k : Int) (h : 200 < p.size) (w : World) : Calls Try.prog 4 #[.agg #[.bool c.v6, .int .i64 c.bk, .int .u64 c.ck, .bool c.fi, .int .i64 c.ins], .string p, .int .u8 k] w fun e w' => e = .returned (.bool true) ∧ Below w.heap.size w w' := by
  have AW := Lib.hid (awake10 K)
  have HX : Hid (Held w.heap.size w.heap.size 24 #[.bool c.v6, .int .i64 c.bk, .int .u64 c.ck, .bool c.fi, .int .i64 c.ins] w (w.alloc (.cells #[.bool c.v6, .int .i64 c.bk, .int .u64 c.ck, .bool c.fi, .int .i64 c.ins] 24))) := Lib.hid ⟨HasB.new w _ _, (Below.refl _ _).alloc (Nat.le_refl _) _, by simp⟩
  have y1 : (200 : Int) < p.size := by omega
  clear h
  go_enter Try.func4, Try.ntmps4
  go_wp2_with (first | (go_at_call 5; (with_reducible refine (AW.out _).mono ?_); rintro e wz ⟨rfl, hb⟩; replace HX := Lib.hid (HX.out.next hb); clear hb) | fail)
  go_ret
  exact ⟨rfl, HX.out.2.1⟩
theorem gback_no (K : GueOK) (c : CV) (p : ByteArray) (k : Int) (hb : BC c) (h : p.size ≤ 200) (he : err10 c p ≠ 0) (w : World) : Calls Try.prog 4 #[.agg #[.bool c.v6, .int .i64 c.bk, .int .u64 c.ck, .bool c.fi, .int .i64 c.ins], .string p, .int .u8 k] w fun e w' => e = .returned (.bool true) ∧ Below w.heap.size w w' := by
  have AW := Lib.hid (awake10 K)
  have P1 := K.put c p hb (by omega)
  have x1 : (err10 c p != 0) = true := by simpa using he
  rw [show out10 c p = ⟨#[]⟩ from if_neg he] at P1
  have P1 := Lib.hid P1
  generalize err10 c p = E at P1 x1
  have y1 : ¬ (200 : Int) < p.size := by omega
  clear K hb h he
  have HX : Hid (Held w.heap.size w.heap.size 24 #[.bool c.v6, .int .i64 c.bk, .int .u64 c.ck, .bool c.fi, .int .i64 c.ins] w (w.alloc (.cells #[.bool c.v6, .int .i64 c.bk, .int .u64 c.ck, .bool c.fi, .int .i64 c.ins] 24))) := Lib.hid ⟨HasB.new w _ _, (Below.refl _ _).alloc (Nat.le_refl _) _, by simp⟩
  (have hro := HasB.rowOk HX.out.1 (n := 5) rfl; have hrw := HasB.rowOf HX.out.1)
  go_enter Try.func4, Try.ntmps4
  go_wp2_with (first | (go_at_call 6; (with_reducible refine (P1.out _).mono ?_); rintro e wa ⟨rfl, hb⟩; clear hro hrw; replace HX := Lib.hid (HX.out.next hb); clear hb; (have hro := HasB.rowOk HX.out.1 (n := 5) rfl; have hrw := HasB.rowOf HX.out.1)) | (go_at_call 5; (with_reducible refine (AW.out _).mono ?_); rintro e wz ⟨rfl, hb⟩; replace HX := Lib.hid (HX.out.next hb); clear hb) | fail)
  go_ret
  exact ⟨rfl, HX.out.2.1⟩
set_option maxRecDepth 100000 in
set_option maxHeartbeats 4000000 in
theorem gback_ok (K : GueOK) (c : CV) (p : ByteArray) (k : Int) (hk : 0 ≤ k ∧ k < 256) (hb : BC c) (h : p.size ≤ 200) (he : err10 c p = 0) (w : World) : Calls Try.prog 4 #[.agg #[.bool c.v6, .int .i64 c.bk, .int .u64 c.ck, .bool c.fi, .int .i64 c.ins], .string p, .int .u8 k] w fun e w' => e = .returned (.bool true) ∧ Below w.heap.size w w' := by
  have AW := Lib.hid (awake10 K)
  obtain ⟨b1, b2, b3, b4, b5, b6⟩ := back10 he hb
  have HF := Lib.hid (fun j m b hj hm hbb s hS => flip10 he hb j m b hj hm hbb s hS)
  have P1 := K.put c p hb (by omega)
  rw [he] at P1
  have P1 := Lib.hid P1
  have G2 := K.get (out10 c p) (by omega)
  rw [b4, b5, b6] at G2
  have G2 := Lib.hid G2
  have GX := Lib.hid (fun (S : ByteArray) (hS : S.size = 18 + p.size) => K.get S (by omega))
  clear b2 b3 b4 b5 b6 he
  generalize out10 c p = T at *
  have B1 := Lib.hid b1
  have t1 : (T.size : Int) = 18 + (p.size : Int) := by omega
  have y1 : ¬ (200 : Int) < p.size := by omega
  have hsz18 : 18 ≤ T.size := by omega
  obtain ⟨KK, k1, k2⟩ : ∃ KK : Nat, KK < 144 ∧ k % 144 = (KK : Int) := ⟨(k % 144).toNat, by omega, by omega⟩
  have w5 : wrap64 k = k := wrap_in k (by omega)
  have w6 : k.tmod 144 = (KK : Int) := (Int.tmod_eq_emod_of_nonneg hk.1).trans k2
  have hcv := fun W => run_bytes_of_string (P := Try.prog) W 9 32 5 T (by kernel_rfl) (by kernel_rfl) (by kernel_rfl)
  clear b1 K hk k2 hb
  have HX : Hid (Held w.heap.size w.heap.size 24 #[.bool c.v6, .int .i64 c.bk, .int .u64 c.ck, .bool c.fi, .int .i64 c.ins] w (w.alloc (.cells #[.bool c.v6, .int .i64 c.bk, .int .u64 c.ck, .bool c.fi, .int .i64 c.ins] 24))) := Lib.hid ⟨HasB.new w _ _, (Below.refl _ _).alloc (Nat.le_refl _) _, by simp⟩
  (have hro := HasB.rowOk HX.out.1 (n := 5) rfl; have hrw := HasB.rowOf HX.out.1)
  go_enter Try.func4, Try.ntmps4
  go_wp2_with (first | (go_at_call 6; (with_reducible refine (P1.out _).mono ?_); rintro e wa ⟨rfl, hb⟩; clear hro hrw; replace HX := Lib.hid (HX.out.next hb); clear hb; (have hro := HasB.rowOk HX.out.1 (n := 5) rfl; have hrw := HasB.rowOf HX.out.1)) | (go_at_call 8; (with_reducible refine (G2.out _).mono ?_); rintro e wc ⟨rfl, hb⟩; clear hro hrw; replace HX := Lib.hid ((HX.out.next hb).allocC (.cells #[.bool c.v6, .int .i64 c.bk, .int .u64 c.ck, .bool c.fi, .int .i64 c.ins] 24)); (have hro := HasB.rowOk HX.out.1 (n := 5) rfl; have hrw := HasB.rowOf HX.out.1); clear hb) | fail)
  clear hro hrw
  have hz : wc.heap.size + 1 = (wc.alloc (.cells #[.bool c.v6, .int .i64 c.bk, .int .u64 c.ck, .bool c.fi, .int .i64 c.ins] 24)).heap.size := by rw [World.size_alloc]
  rw [hz]
  revert HX
  clear hz
  generalize wc.alloc (.cells #[.bool c.v6, .int .i64 c.bk, .int .u64 c.ck, .bool c.fi, .int .i64 c.ins] 24) = wd
  intro HX
  have HB : Hid ((wd.alloc (.cells (bytesRow T (grownCap wd T.size 0 5)) 5 ((bytesRow T (grownCap wd T.size 0 5)).size, (bytesRow T (grownCap wd T.size 0 5)).size + 1))).drew.heap[wd.heap.size]? = some (.cells (bytesRow T (grownCap wd T.size 0 5)) 5 ((bytesRow T (grownCap wd T.size 0 5)).size, (bytesRow T (grownCap wd T.size 0 5)).size + 1))) := Lib.hid (heap_alloc_new wd _)
  have l1 := HX.out.1.lt
  have l4 := HX.out.2.2
  replace HX := Lib.hid (Held.drew (HX.out.allocC (.cells (bytesRow T (grownCap wd T.size 0 5)) 5 ((bytesRow T (grownCap wd T.size 0 5)).size, (bytesRow T (grownCap wd T.size 0 5)).size + 1))))
  revert HB HX
  generalize grownCap wd T.size 0 5 = cap
  generalize (World.alloc wd _).drew = X
  intro HB HX
  have c := bytes_cell HB.out (KK / 8) (by omega)
  have f := bytes_free HB.out (KK / 8) (by omega)
  have i1 : ((KK : Int) / 8) < T.size := by omega
  have hne := HF.out (KK / 8) (KK % 8) _ (by omega) (by omega) (flip_byte T KK) (flipS T KK) (by simp [flipS])
  have x3 : (errG10 (flipS T KK) != 0) = true := by simpa using hne
  have G3 := Lib.hid (GX.out (flipS T KK) (by rw [flipS_size]; exact B1.out))
  clear hne HF GX
  generalize coverG (flipS T KK) = g3 at G3
  generalize payG10 (flipS T KK) = y3 at G3
  generalize errG10 (flipS T KK) = E3 at G3 x3
  go_region
  all_goals
    rw [xor_turn (bt T (KK / 8)) (KK % 8) (bt_lt _ _) (by omega)]
    have hcv3 := turned_conv X wd.heap.size cap KK T _ HB.out (by omega)
    replace HX := Lib.hid (Held.drew (HX.out.setC wd.heap.size (KK / 8) (.int .u8 ((bt T (KK / 8) ^^^ 2 ^ (KK % 8) : Nat) : Int)) l4 (by omega)))
    clear hcv c f HB
    revert hcv3 HX
    generalize (World.setCell X _ _).drew = Z
    intro hcv3 HX
    go_wp2_with (first | (go_at_call 8; (with_reducible refine (G3.out _).mono ?_); rintro e we ⟨rfl, hb⟩; replace HX := Lib.hid ((HX.out.next hb).allocC (.cells #[.bool g3.v6, .int .i64 g3.bk, .int .u64 g3.ck, .bool g3.fi, .int .i64 g3.ins] 24)); clear hb) | (go_at_call 5; (with_reducible refine (AW.out _).mono ?_); rintro e wz ⟨rfl, hb⟩; replace HX := Lib.hid (HX.out.next hb); clear hb) | fail)
    go_ret
    exact ⟨rfl, HX.out.2.1⟩
/-- The law's walk. -/
theorem gueBack_any (K : GueOK) (a : Array Value) (p : ByteArray) (k : Int) (wk : (Lit.int .u8 k).wf = true) (w : World) (fa : Fits w (.two .bool (.two (.int .i64) (.two (.int .u64) (.two .bool (.two (.int .i64) .nil))))) (Value.agg a).cells.toList) :
    Calls Try.prog 4 #[.agg a, .string p, .int .u8 k] w fun e w' => e = .returned (.bool true) ∧ Below w.heap.size w w' := by
  obtain ⟨c, rfl, hb⟩ := fits10 fa
  have hk0 := bounds_u8 wk
  by_cases h : 200 < p.size
  · exact gback_big K c p k h w
  · by_cases he : err10 c p = 0
    · exact gback_ok K c p k (by omega) hb (by omega) he w
    · exact gback_no K c p k hb (by omega) he w
end Go.Proofs.Ytklilelbebhinaa
