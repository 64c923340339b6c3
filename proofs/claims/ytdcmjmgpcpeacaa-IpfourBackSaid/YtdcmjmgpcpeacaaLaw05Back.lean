/- The law of ipfour without the reference: the walk, where nothing is read ahead. -/
import Derived.Test.YtdcmjmgpcpeacaaLaw05Tells
import Derived.Laws.IdiomStrings
namespace Go.Proofs.Ytdcmjmgpcpeacaa
open Go.RowKit Go.WideShapes
set_option linter.unusedVariables false
attribute [local go_sem ↓] ld53 st53 ld31 st31 ld26 st26
attribute [local go_sem] rowAt_p rowOkAt_p setAt_p aggOf_a rowOk_new rowOf_new setRow_new agg17 agg12
attribute [local go_sem ↓] Go.wp_at_zero Go.wp_at_succ

theorem same5_any (a b : ByteArray) (hb : b.size ≤ 1000) (h1 : a.size ≤ b.size) (h2 : 20 ≤ a.size) (e1 : a.extract 0 10 = b.extract 0 10) (e2 : a.extract 12 a.size = b.extract 12 a.size) (w : World) :
    Calls Try.prog 14 #[.string a, .string b] w fun e w' => e = .returned (.bool true) ∧ Below w.heap.size w w' := by
  have g1 : decide ((a.size : Int) ≤ b.size) = true := decide_eq_true (by omega)
  have g2 : decide ((20 : Int) ≤ a.size) = true := decide_eq_true (by omega)
  have i1 : (10 : Int) ≤ a.size := by omega
  have i2 : (10 : Int) ≤ b.size := by omega
  have i3 : (12 : Int) ≤ a.size := by omega
  have i4 : (a.size : Int) ≤ b.size := by omega
  have i5 : (20 : Int) ≤ a.size := by omega
  go_enter Try.func14, Try.ntmps14
  go_wp2_with fail
  go_quiet (fail)
  go_wp2_with fail
  go_ret
  exact ⟨rfl, below_drewN (Below.refl _ _) _⟩
/-- The turned bit: its place. -/
theorem place8 (k z : Int) (hz : 20 ≤ z) (hz2 : z ≤ 80) : ∃ K : Nat, 8 ≤ K ∧ (K : Int) < 8 * z ∧ wrap64 (8 + k % (8 * z - 8)) = (K : Int) := by
  have b1 : 0 ≤ k % (8 * z - 8) := Int.emod_nonneg _ (by omega)
  have b2 : k % (8 * z - 8) < 8 * z - 8 := Int.emod_lt_of_pos _ (by omega)
  refine ⟨(8 + k % (8 * z - 8)).toNat, by omega, by omega, ?_⟩
  generalize k % (8 * z - 8) = r at *
  unfold wrap64; omega
set_option maxHeartbeats 2000000 in
theorem back_bare_no (h : Hd) (p m s : ByteArray) (k : Int) (hbd : HBd h) (ho : ¬ 60 < h.op.size) (hp : ¬ 200 < p.size) (hm : ¬ 200 < m.size) (hs : ¬ 200 < s.size) (hn : errG s ≠ 0) (he : errP h p ≠ 0) (w : World) :
    Calls Try.prog 4 #[.agg #[.int .i64 h.cl, .int .i64 h.id, .bool h.wh, .int .i64 h.tt, .int .i64 h.pr, .bool h.sv, .int .u64 h.sh, .int .u64 h.sl, .bool h.dv, .int .u64 h.dh, .int .u64 h.dl, .string h.op], .string p, .string m, .string s, .int .u8 k] w fun e w' => e = .returned (.bool true) ∧ Below w.heap.size w w' := by
  have hq : Below w.heap.size w (w.alloc (.cells #[.int .i64 h.cl, .int .i64 h.id, .bool h.wh, .int .i64 h.tt, .int .i64 h.pr, .bool h.sv, .int .u64 h.sh, .int .u64 h.sl, .bool h.dv, .int .u64 h.dh, .int .u64 h.dl, .string h.op] 26)) := (Below.refl _ _).alloc (Nat.le_refl _) _
  have hH := HasB.new w 26 #[.int .i64 h.cl, .int .i64 h.id, .bool h.wh, .int .i64 h.tt, .int .i64 h.pr, .bool h.sv, .int .u64 h.sh, .int .u64 h.sl, .bool h.dv, .int .u64 h.dh, .int .u64 h.dl, .string h.op]
  have hoi : ¬ (60 : Int) < h.op.size := by omega
  have hpi : ¬ (200 : Int) < p.size := by omega
  have hmi : ¬ (200 : Int) < m.size := by omega
  have hsi : ¬ (200 : Int) < s.size := by omega
  have P1 := Lib.hid (put4_any h p hbd.b0 hbd.d0 (by omega))
  have G1 := Lib.hid (get4_any s (by omega))
  have x1 : (errP h p != 0) = true := by simpa using he
  have x2 : (errG s == 0) = false := by simpa using hn
  have HO : outP h p = ⟨#[]⟩ := if_neg he
  rw [HO] at P1
  generalize errP h p = E at P1 x1
  generalize errG s = E2 at G1 x2
  generalize headG s = g at G1
  generalize payG s = y at G1
  clear hbd ho hp hm hs hn he HO
  go_enter Try.func4, Try.ntmps4
  go_wp2_with (first | (go_at_call 9; (with_reducible refine (G1.out _).mono ?_); rintro e wx ⟨rfl, hb⟩; replace hq := (hq.trans (hb.mono hq.size)).alloc (Nat.le_trans hq.size hb.size) (.cells #[.int .i64 g.cl, .int .i64 g.id, .bool g.wh, .int .i64 g.tt, .int .i64 g.pr, .bool g.sv, .int .u64 g.sh, .int .u64 g.sl, .bool g.dv, .int .u64 g.dh, .int .u64 g.dl, .string g.op] 31); replace hH := (HasB.below hH hb hH.lt).alloc (.cells #[.int .i64 g.cl, .int .i64 g.id, .bool g.wh, .int .i64 g.tt, .int .i64 g.pr, .bool g.sv, .int .u64 g.sh, .int .u64 g.sl, .bool g.dv, .int .u64 g.dh, .int .u64 g.dl, .string g.op] 31); clear hb; obtain ⟨c0, c1, c2, c3, c4, c5, c6, c7, c8, c9, c10, c11⟩ := cells12 hH) | (go_at_call 7; (with_reducible refine (of5_any h _).mono ?_); rintro e wb ⟨rfl, hb⟩; clear c0 c1 c2 c3 c4 c5 c6 c7 c8 c9 c10 c11; replace hq := hq.trans (hb.mono hq.size); replace hH := HasB.below hH hb hH.lt; clear hb) | (go_at_call 6; (with_reducible refine (P1.out _).mono ?_); rintro e wa ⟨rfl, hb⟩; replace hq := hq.trans (hb.mono hq.size); replace hH := HasB.below hH hb hH.lt; clear hb; obtain ⟨c0, c1, c2, c3, c4, c5, c6, c7, c8, c9, c10, c11⟩ := cells12 hH) | (go_at_call 5; (with_reducible refine (awake05 _).mono ?_); rintro e wz ⟨rfl, hb⟩; replace hq := hq.trans (hb.mono hq.size); clear hb) | fail)
  go_ret
  exact ⟨rfl, hq⟩
theorem bytes_cell {w : World} {g e cap : Nat} {t : ByteArray} {fr : Nat × Nat} (h : w.heap[g]? = some (.cells (bytesRow t cap) e fr)) (j : Nat) (hj : j < t.size) : w.cell? ⟨g, j, none⟩ = some (.int .u8 (bt t j : Nat)) := by
  rw [cell_of_row w g j _ e fr h, bytesRow_at t cap j hj]
  unfold bt
  rw [getD_at t j hj]; rfl
theorem bytesRow_size (t : ByteArray) (cap : Nat) : t.size ≤ (bytesRow t cap).size := by
  unfold bytesRow; rw [Array.size_append, Array.size_map]; exact Nat.le_add_right _ _
theorem bytes_free {w : World} {g e cap k : Nat} {t : ByteArray} (h : w.heap[g]? = some (.cells (bytesRow t cap) e ((bytesRow t cap).size, k))) (j : Nat) (hj : j < t.size) : w.frozen? ⟨g, j, none⟩ = false := by
  have := bytesRow_size t cap
  simp [World.frozen?, h]
  omega
def flipS (T : ByteArray) (K : Nat) : ByteArray := ⟨(T.data.toList.set (K / 8) (UInt8.ofNat (bt T (K / 8) ^^^ 2 ^ (K % 8)))).toArray⟩
theorem flipS_size (T : ByteArray) (K : Nat) : (flipS T K).size = T.size := by
  show (T.data.toList.set _ _).toArray.size = _
  simp
theorem flip_byte (T : ByteArray) (K : Nat) : (UInt8.ofNat (bt T (K / 8) ^^^ 2 ^ (K % 8))).toNat = bt T (K / 8) ^^^ 2 ^ (K % 8) := by
  have h := (flip_bit (K % 8) (by omega) (bt T (K / 8)) (bt_lt _ _)).2
  rw [UInt8.toNat_ofNat']; exact Nat.mod_eq_of_lt h
theorem xor_turn (a M : Nat) (ha : a < 256) (hM : M < 8) : bits .xor .u8 (a : Int) (2 ^ M % 256) = ((a ^^^ 2 ^ M : Nat) : Int) := by
  have h2 : (2 : Nat) ^ M < 256 := Nat.lt_of_le_of_lt (Nat.pow_le_pow_right (n := 2) (i := M) (j := 7) (by omega) (by omega)) (by decide)
  have key : ∀ m : Nat, m < 8 → ((2 : Int) ^ m % 256) = ((2 ^ m : Nat) : Int) := by decide
  have e := key M hM
  rw [e, u8_xor_nat a (2 ^ M) ha h2]
theorem turned_conv (X : World) (g cap K : Nat) (T : ByteArray) (fr : Nat × Nat) (h : X.heap[g]? = some (.cells (bytesRow T cap) 5 fr)) (hJ : K / 8 < T.size) :
    (convert 42 9 (.slice (some ⟨g, 0, none⟩) T.size cap)).run Try.prog (X.setCell ⟨g, K / 8, none⟩ (.int .u8 ((bt T (K / 8) ^^^ 2 ^ (K % 8) : Nat) : Int))).drew = .ok (.string (flipS T K)) (X.setCell ⟨g, K / 8, none⟩ (.int .u8 ((bt T (K / 8) ^^^ 2 ^ (K % 8) : Nat) : Int))).drew := by
  have h2 : (X.setCell ⟨g, K / 8, none⟩ (.int .u8 ((bt T (K / 8) ^^^ 2 ^ (K % 8) : Nat) : Int))).drew.heap[g]? = some (.cells ((bytesRow T cap).setIfInBounds (K / 8) (.int .u8 ((bt T (K / 8) ^^^ 2 ^ (K % 8) : Nat) : Int))) 5 fr) := by
    show (X.setCell _ _).heap[g]? = _
    simp [World.setCell, Array.getElem?_modify, h]
  have hl : (T.data.toList.set (K / 8) (UInt8.ofNat (bt T (K / 8) ^^^ 2 ^ (K % 8)))).length = T.size := by rw [List.length_set]; rfl
  have h3 := run_convert_bytes_back (P := Try.prog) (X.setCell ⟨g, K / 8, none⟩ (.int .u8 ((bt T (K / 8) ^^^ 2 ^ (K % 8) : Nat) : Int))).drew 42 9 5 ⟨g, 0, none⟩ cap (T.data.toList.set (K / 8) (UInt8.ofNat (bt T (K / 8) ^^^ 2 ^ (K % 8)))) (by kernel_rfl) (by kernel_rfl) (by kernel_rfl) (fun j hj => by
    have hj2 : j < T.size := by rw [hl] at hj; exact hj
    have hsz := bytesRow_size T cap
    rw [addr_add, cell_of_row _ g j _ _ _ h2]
    by_cases hjk : K / 8 = j
    · subst hjk
      rw [Array.getElem?_setIfInBounds_self_of_lt (by omega), List.getElem_set_self, flip_byte]
    · rw [Array.getElem?_setIfInBounds_ne hjk, bytesRow_at T cap j hj2, List.getElem_set_ne hjk]
      rfl)
  rw [hl] at h3
  exact h3
theorem cells24 {g g' : Nat} {t t' : TypeId} {h x : Hd} {w : World} (H : HasB w g t #[.int .i64 h.cl, .int .i64 h.id, .bool h.wh, .int .i64 h.tt, .int .i64 h.pr, .bool h.sv, .int .u64 h.sh, .int .u64 h.sl, .bool h.dv, .int .u64 h.dh, .int .u64 h.dl, .string h.op]) (X : HasB w g' t' #[.int .i64 x.cl, .int .i64 x.id, .bool x.wh, .int .i64 x.tt, .int .i64 x.pr, .bool x.sv, .int .u64 x.sh, .int .u64 x.sl, .bool x.dv, .int .u64 x.dh, .int .u64 x.dl, .string x.op]) : w.cell? ⟨g, 0, none⟩ = some (.int .i64 h.cl) ∧ w.cell? ⟨g, 1, none⟩ = some (.int .i64 h.id) ∧ w.cell? ⟨g, 2, none⟩ = some (.bool h.wh) ∧ w.cell? ⟨g, 3, none⟩ = some (.int .i64 h.tt) ∧ w.cell? ⟨g, 4, none⟩ = some (.int .i64 h.pr) ∧ w.cell? ⟨g, 5, none⟩ = some (.bool h.sv) ∧ w.cell? ⟨g, 6, none⟩ = some (.int .u64 h.sh) ∧ w.cell? ⟨g, 7, none⟩ = some (.int .u64 h.sl) ∧ w.cell? ⟨g, 8, none⟩ = some (.bool h.dv) ∧ w.cell? ⟨g, 9, none⟩ = some (.int .u64 h.dh) ∧ w.cell? ⟨g, 10, none⟩ = some (.int .u64 h.dl) ∧ w.cell? ⟨g, 11, none⟩ = some (.string h.op) ∧ w.cell? ⟨g', 0, none⟩ = some (.int .i64 x.cl) ∧ w.cell? ⟨g', 1, none⟩ = some (.int .i64 x.id) ∧ w.cell? ⟨g', 2, none⟩ = some (.bool x.wh) ∧ w.cell? ⟨g', 3, none⟩ = some (.int .i64 x.tt) ∧ w.cell? ⟨g', 4, none⟩ = some (.int .i64 x.pr) ∧ w.cell? ⟨g', 5, none⟩ = some (.bool x.sv) ∧ w.cell? ⟨g', 6, none⟩ = some (.int .u64 x.sh) ∧ w.cell? ⟨g', 7, none⟩ = some (.int .u64 x.sl) ∧ w.cell? ⟨g', 8, none⟩ = some (.bool x.dv) ∧ w.cell? ⟨g', 9, none⟩ = some (.int .u64 x.dh) ∧ w.cell? ⟨g', 10, none⟩ = some (.int .u64 x.dl) ∧ w.cell? ⟨g', 11, none⟩ = some (.string x.op) :=
  ⟨HasB.cell H 0 _ rfl, HasB.cell H 1 _ rfl, HasB.cell H 2 _ rfl, HasB.cell H 3 _ rfl, HasB.cell H 4 _ rfl, HasB.cell H 5 _ rfl, HasB.cell H 6 _ rfl, HasB.cell H 7 _ rfl, HasB.cell H 8 _ rfl, HasB.cell H 9 _ rfl, HasB.cell H 10 _ rfl, HasB.cell H 11 _ rfl,
    HasB.cell X 0 _ rfl, HasB.cell X 1 _ rfl, HasB.cell X 2 _ rfl, HasB.cell X 3 _ rfl, HasB.cell X 4 _ rfl, HasB.cell X 5 _ rfl, HasB.cell X 6 _ rfl, HasB.cell X 7 _ rfl, HasB.cell X 8 _ rfl, HasB.cell X 9 _ rfl, HasB.cell X 10 _ rfl, HasB.cell X 11 _ rfl⟩
set_option maxRecDepth 100000 in
set_option maxHeartbeats 2000000 in
theorem back_bare_ok (h : Hd) (p m s : ByteArray) (k : Int) (hk : 0 ≤ k ∧ k < 256) (hbd : HBd h) (ho : ¬ 60 < h.op.size) (hp : ¬ 200 < p.size) (hm : ¬ 200 < m.size) (hs : ¬ 200 < s.size) (hn : errG s ≠ 0) (he : errP h p = 0) (w : World) :
    Calls Try.prog 4 #[.agg #[.int .i64 h.cl, .int .i64 h.id, .bool h.wh, .int .i64 h.tt, .int .i64 h.pr, .bool h.sv, .int .u64 h.sh, .int .u64 h.sl, .bool h.dv, .int .u64 h.dh, .int .u64 h.dl, .string h.op], .string p, .string m, .string s, .int .u8 k] w fun e w' => e = .returned (.bool true) ∧ Below w.heap.size w w' := by
  have hq : Below w.heap.size w (w.alloc (.cells #[.int .i64 h.cl, .int .i64 h.id, .bool h.wh, .int .i64 h.tt, .int .i64 h.pr, .bool h.sv, .int .u64 h.sh, .int .u64 h.sl, .bool h.dv, .int .u64 h.dh, .int .u64 h.dl, .string h.op] 26)) := (Below.refl _ _).alloc (Nat.le_refl _) _
  have hH := HasB.new w 26 #[.int .i64 h.cl, .int .i64 h.id, .bool h.wh, .int .i64 h.tt, .int .i64 h.pr, .bool h.sv, .int .u64 h.sh, .int .u64 h.sl, .bool h.dv, .int .u64 h.dh, .int .u64 h.dl, .string h.op]
  have hoi : ¬ (60 : Int) < h.op.size := by omega
  have hpi : ¬ (200 : Int) < p.size := by omega
  have hmi : ¬ (200 : Int) < m.size := by omega
  have hsi : ¬ (200 : Int) < s.size := by omega
  have x2 : (errG s == 0) = false := by simpa using hn
  have G1 := Lib.hid (get4_any s (by omega))
  generalize errG s = E2 at G1 x2
  generalize headG s = g at G1
  generalize payG s = y at G1
  obtain ⟨b1, b2, b3, b4, b5⟩ := back_ok he hbd.b0 hbd.d0 m
  have P1 := Lib.hid (put4_any h p hbd.b0 hbd.d0 (by omega))
  have G2 := Lib.hid (get4_any (outP h p ++ m) (by rw [ByteArray.size_append]; omega))
  rw [b3, b4, b5] at G2
  rw [he] at P1
  have v7 := (valid_is (errP_ok he).1).2.2.2.2.2.2.1
  have HF := Lib.hid (fun j mm b hj hj2 hmm hb sS hS => flip_told he hbd.b0 hbd.d0 j mm b hj hj2 hmm hb sS hS)
  obtain ⟨K, k1, k2, k3⟩ := place8 k (20 + (h.op.size : Int)) (by omega) (by omega)
  have hK := Lib.hid k3
  generalize outP h p = T at *
  have t1 : ¬ ((T.size : Int) < 20) := by omega
  have t2 : (T.size : Int) - p.size = 20 + (h.op.size : Int) := by omega
  have t3 : (9223372036854775807 < T.size + m.size) = False := eq_false (by omega)
  have B1 := Lib.hid b1
  have B2 : T.size ≤ 300 := by omega
  have k4 : K < 8 * T.size := by omega
  clear hbd ho hp hm hs he b1 b2 b3 b4 b5 hn k3
  go_enter Try.func4, Try.ntmps4
  go_wp2_with (first | (go_at_call 9; (with_reducible refine (G1.out _).mono ?_); rintro e wx ⟨rfl, hb⟩; replace hq := (hq.trans (hb.mono hq.size)).alloc (Nat.le_trans hq.size hb.size) (.cells #[.int .i64 g.cl, .int .i64 g.id, .bool g.wh, .int .i64 g.tt, .int .i64 g.pr, .bool g.sv, .int .u64 g.sh, .int .u64 g.sl, .bool g.dv, .int .u64 g.dh, .int .u64 g.dl, .string g.op] 31); replace hH := (HasB.below hH hb hH.lt).alloc (.cells #[.int .i64 g.cl, .int .i64 g.id, .bool g.wh, .int .i64 g.tt, .int .i64 g.pr, .bool g.sv, .int .u64 g.sh, .int .u64 g.sl, .bool g.dv, .int .u64 g.dh, .int .u64 g.dl, .string g.op] 31); clear hb; obtain ⟨c0, c1, c2, c3, c4, c5, c6, c7, c8, c9, c10, c11⟩ := cells12 hH) | (go_at_call 7; (with_reducible refine (of5_any h _).mono ?_); rintro e wb ⟨rfl, hb⟩; clear c0 c1 c2 c3 c4 c5 c6 c7 c8 c9 c10 c11; replace hq := hq.trans (hb.mono hq.size); replace hH := HasB.below hH hb hH.lt; clear hb) | (go_at_call 6; (with_reducible refine (P1.out _).mono ?_); rintro e wa ⟨rfl, hb⟩; replace hq := hq.trans (hb.mono hq.size); replace hH := HasB.below hH hb hH.lt; clear hb; obtain ⟨c0, c1, c2, c3, c4, c5, c6, c7, c8, c9, c10, c11⟩ := cells12 hH) | (go_at_call 9; (with_reducible refine (G2.out _).mono ?_); rintro e wc ⟨rfl, hb⟩; clear c0 c1 c2 c3 c4 c5 c6 c7 c8 c9 c10 c11; replace hq := (hq.trans (hb.mono hq.size)).alloc (Nat.le_trans hq.size hb.size) (.cells #[.int .i64 h.cl, .int .i64 h.id, .bool h.wh, .int .i64 h.tt, .int .i64 h.pr, .bool h.sv, .int .u64 h.sh, .int .u64 h.sl, .bool h.dv, .int .u64 h.dh, .int .u64 h.dl, .string h.op] 31); replace hH := (HasB.below hH hb hH.lt).alloc (.cells #[.int .i64 h.cl, .int .i64 h.id, .bool h.wh, .int .i64 h.tt, .int .i64 h.pr, .bool h.sv, .int .u64 h.sh, .int .u64 h.sl, .bool h.dv, .int .u64 h.dh, .int .u64 h.dl, .string h.op] 31); have hX := HasB.new wc 31 #[.int .i64 h.cl, .int .i64 h.id, .bool h.wh, .int .i64 h.tt, .int .i64 h.pr, .bool h.sv, .int .u64 h.sh, .int .u64 h.sl, .bool h.dv, .int .u64 h.dh, .int .u64 h.dl, .string h.op]; clear hb) | fail)
  have HX : Hid (Held2 w.heap.size w.heap.size 26 #[.int .i64 h.cl, .int .i64 h.id, .bool h.wh, .int .i64 h.tt, .int .i64 h.pr, .bool h.sv, .int .u64 h.sh, .int .u64 h.sl, .bool h.dv, .int .u64 h.dh, .int .u64 h.dl, .string h.op] wc.heap.size 31 #[.int .i64 h.cl, .int .i64 h.id, .bool h.wh, .int .i64 h.tt, .int .i64 h.pr, .bool h.sv, .int .u64 h.sh, .int .u64 h.sl, .bool h.dv, .int .u64 h.dh, .int .u64 h.dl, .string h.op] w _) := Lib.hid (Held2.drew ⟨hH, hX, hq, hq.size⟩)
  clear hH hX hq
  go_region_held3 (fun w' => w'.cell? ⟨w.heap.size, 0, none⟩ = some (.int .i64 h.cl) ∧ w'.cell? ⟨w.heap.size, 1, none⟩ = some (.int .i64 h.id) ∧ w'.cell? ⟨w.heap.size, 2, none⟩ = some (.bool h.wh) ∧ w'.cell? ⟨w.heap.size, 3, none⟩ = some (.int .i64 h.tt) ∧ w'.cell? ⟨w.heap.size, 4, none⟩ = some (.int .i64 h.pr) ∧ w'.cell? ⟨w.heap.size, 5, none⟩ = some (.bool h.sv) ∧ w'.cell? ⟨w.heap.size, 6, none⟩ = some (.int .u64 h.sh) ∧ w'.cell? ⟨w.heap.size, 7, none⟩ = some (.int .u64 h.sl) ∧ w'.cell? ⟨w.heap.size, 8, none⟩ = some (.bool h.dv) ∧ w'.cell? ⟨w.heap.size, 9, none⟩ = some (.int .u64 h.dh) ∧ w'.cell? ⟨w.heap.size, 10, none⟩ = some (.int .u64 h.dl) ∧ w'.cell? ⟨w.heap.size, 11, none⟩ = some (.string h.op) ∧ w'.cell? ⟨wc.heap.size, 0, none⟩ = some (.int .i64 h.cl) ∧ w'.cell? ⟨wc.heap.size, 1, none⟩ = some (.int .i64 h.id) ∧ w'.cell? ⟨wc.heap.size, 2, none⟩ = some (.bool h.wh) ∧ w'.cell? ⟨wc.heap.size, 3, none⟩ = some (.int .i64 h.tt) ∧ w'.cell? ⟨wc.heap.size, 4, none⟩ = some (.int .i64 h.pr) ∧ w'.cell? ⟨wc.heap.size, 5, none⟩ = some (.bool h.sv) ∧ w'.cell? ⟨wc.heap.size, 6, none⟩ = some (.int .u64 h.sh) ∧ w'.cell? ⟨wc.heap.size, 7, none⟩ = some (.int .u64 h.sl) ∧ w'.cell? ⟨wc.heap.size, 8, none⟩ = some (.bool h.dv) ∧ w'.cell? ⟨wc.heap.size, 9, none⟩ = some (.int .u64 h.dh) ∧ w'.cell? ⟨wc.heap.size, 10, none⟩ = some (.int .u64 h.dl) ∧ w'.cell? ⟨wc.heap.size, 11, none⟩ = some (.string h.op)) (exact cells24 HX.out.1 HX.out.2.1) (first | (go_at_call 11; (with_reducible refine (back5_any h _).mono ?_); rintro e wd ⟨rfl, hb⟩; replace HX := Lib.hid (HX.out.next hb); clear hb))
  have hq := HX.out.2.2.1
  have hq0 := HX.out.2.2.2
  clear HX
  have hcv2 := 0
  have hcv := fun W => run_bytes_of_string (P := Try.prog) W 9 42 5 T (by kernel_rfl) (by kernel_rfl) (by kernel_rfl)
  clear hcv2
  go_wp2_with fail
  rw [hK.out]
  have HB : Hid ((wd.alloc (.cells (bytesRow T (grownCap wd T.size 0 5)) 5 ((bytesRow T (grownCap wd T.size 0 5)).size, (bytesRow T (grownCap wd T.size 0 5)).size + 1))).drew.heap[wd.heap.size]? = some (.cells (bytesRow T (grownCap wd T.size 0 5)) 5 ((bytesRow T (grownCap wd T.size 0 5)).size, (bytesRow T (grownCap wd T.size 0 5)).size + 1))) := Lib.hid (heap_alloc_new wd _)
  replace hq := (hq.alloc (Nat.le_trans (Nat.le_refl _) hq.size) (.cells (bytesRow T (grownCap wd T.size 0 5)) 5 ((bytesRow T (grownCap wd T.size 0 5)).size, (bytesRow T (grownCap wd T.size 0 5)).size + 1))).drew
  have hwd : w.heap.size ≤ wd.heap.size := hq0
  revert HB hq
  generalize grownCap wd T.size 0 5 = cap
  generalize (World.alloc wd _).drew = X
  intro HB hq
  have c := bytes_cell HB.out (K / 8) (by omega)
  have f := bytes_free HB.out (K / 8) (by omega)
  have i1 : ((K : Int) / 8) < T.size := by omega
  have G3 := Lib.hid (get4_any (flipS T K) (by rw [flipS_size]; omega))
  have hne : errG (flipS T K) ≠ 0 := HF.out (K / 8) (K % 8) _ (by omega) (by omega) (by omega) (flip_byte T K) (flipS T K) (by simp [flipS])
  have x3 : (errG (flipS T K) != 0) = true := by simpa using hne
  clear hne HF
  generalize errG (flipS T K) = E3 at G3 x3
  generalize headG (flipS T K) = g3 at G3
  generalize payG (flipS T K) = y3 at G3
  go_region
  all_goals
    rw [xor_turn (bt T (K / 8)) (K % 8) (bt_lt _ _) (by omega)]
    have hcv3 := turned_conv X wd.heap.size cap K T _ HB.out (by omega)
    replace hq := (Below.setCell (p := ⟨wd.heap.size, K / 8, none⟩) hq hwd (.int .u8 ((bt T (K / 8) ^^^ 2 ^ (K % 8) : Nat) : Int))).drew
    clear hcv c f HB
    revert hcv3 hq
    generalize (World.setCell X _ _).drew = Z
    intro hcv3 hq
    go_wp2_with (first | (go_at_call 9; (with_reducible refine (G3.out _).mono ?_); rintro e we ⟨rfl, hb⟩; replace hq := (hq.trans (hb.mono hq.size)).alloc (Nat.le_trans hq.size hb.size) (.cells #[.int .i64 g3.cl, .int .i64 g3.id, .bool g3.wh, .int .i64 g3.tt, .int .i64 g3.pr, .bool g3.sv, .int .u64 g3.sh, .int .u64 g3.sl, .bool g3.dv, .int .u64 g3.dh, .int .u64 g3.dl, .string g3.op] 31); clear hb) | (go_at_call 5; (with_reducible refine (awake05 _).mono ?_); rintro e wz ⟨rfl, hb⟩; replace hq := hq.trans (hb.mono hq.size); clear hb) | fail)
    go_ret
    exact ⟨rfl, hq⟩
end Go.Proofs.Ytdcmjmgpcpeacaa
