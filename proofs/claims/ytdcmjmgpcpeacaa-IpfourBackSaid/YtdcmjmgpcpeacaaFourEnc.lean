/- The contract of package ipfour: encode. -/
import Derived.Test.YtdcmjmgpcpeacaaFourWalks
import Derived.Test.YtdcmjmgpcpeacaaCheckTurned
import Derived.Deep.RegionHeld3
import Derived.Deep.DrawnRows
namespace Go.Proofs.Ytdcmjmgpcpeacaa
open Go.RowKit
set_option linter.unusedVariables false
attribute [local go_sem ↓] Go.wp_at_zero Go.wp_at_succ

theorem number4_is {n k : Int} {p : List UInt8} (hp : numL n k = p) (w : World) :
    Calls Try.prog 31 #[.int .i64 n, .int .i64 k] w fun e w' => e = .returned (.string ⟨p.toArray⟩) ∧ Below w.heap.size w w' := by
  subst hp; exact number4_any n k w
theorem put_is {v : Bool} {hi lo : Int} {p : List UInt8} (hp : addrB v hi lo = p) (hf : four v hi lo = true) (h0 : 0 ≤ lo) (w : World) :
    Calls Try.prog 30 #[.agg #[.bool v, .int .u64 hi, .int .u64 lo]] w fun e w' => e = .returned (.string ⟨p.toArray⟩) ∧ Below w.heap.size w w' := by
  obtain ⟨rfl, rfl, h1⟩ := four_is hf
  subst hp; exact put_addr _ _ _ (by omega) (by omega) h0 (by omega) w
theorem or64 (z : Int) (h0 : 0 ≤ z) (h1 : z < 64) : bits .or .i64 64 z = 64 + z := by
  have := bits_join .i64 62 (by decide) (fun n h0 h1 => by rw [IntKind.wrap_i64]; omega) 6 64 z (by omega) (by omega) (by omega) h0 (by omega) (by omega)
  exact this
theorem addr4_len {v : Bool} {hi lo : Int} (hf : four v hi lo = true) : (addrB v hi lo).length = 4 := by
  obtain ⟨rfl, rfl, h1⟩ := four_is hf
  rw [addrB_len _ _ _ (by simp [rightA]; omega)]; rfl
theorem cat11 (a b c d e f g i j k : List UInt8) (o : ByteArray) :
    (⟨a.toArray⟩ : ByteArray) ++ ⟨b.toArray⟩ ++ ⟨c.toArray⟩ ++ ⟨d.toArray⟩ ++ ⟨e.toArray⟩ ++ ⟨f.toArray⟩ ++ ⟨g.toArray⟩ ++ ⟨i.toArray⟩ ++ ⟨j.toArray⟩ ++ ⟨k.toArray⟩ ++ o = ⟨(a ++ b ++ c ++ d ++ e ++ f ++ g ++ i ++ j ++ k ++ o.data.toList).toArray⟩ := by
  apply ext_eq
  simp
theorem headL_parts (h : Hd) (n : Int) {p1 p2 p3 p4 p5 p6 p7 p8 p9 p10 : List UInt8} (e1 : numL (64 + (20 + (h.op.size : Int)) / 4) 1 = p1) (e2 : numL h.cl 1 = p2) (e3 : numL n 2 = p3) (e4 : numL h.id 2 = p4) (e5 : numL (if h.wh then 16384 else 0) 2 = p5) (e6 : numL h.tt 1 = p6) (e7 : numL h.pr 1 = p7) (e8 : numL 0 2 = p8) (e9 : addrB h.sv h.sh h.sl = p9) (e10 : addrB h.dv h.dh h.dl = p10) :
    headL h n = p1 ++ p2 ++ p3 ++ p4 ++ p5 ++ p6 ++ p7 ++ p8 ++ p9 ++ p10 ++ h.op.data.toList := by
  subst e1 e2 e3 e4 e5 e6 e7 e8 e9 e10; rfl
theorem cells8 {g : Nat} {t : TypeId} {h : Hd} {b : Bool} {w : World} (H : HasB w g t #[.int .i64 h.cl, .int .i64 h.id, .bool b, .int .i64 h.tt, .int .i64 h.pr, .bool h.sv, .int .u64 h.sh, .int .u64 h.sl, .bool h.dv, .int .u64 h.dh, .int .u64 h.dl, .string h.op]) : w.cell? ⟨g, 0, none⟩ = some (.int .i64 h.cl) ∧ w.cell? ⟨g, 1, none⟩ = some (.int .i64 h.id) ∧ w.cell? ⟨g, 3, none⟩ = some (.int .i64 h.tt) ∧ w.cell? ⟨g, 4, none⟩ = some (.int .i64 h.pr) ∧ w.cell? ⟨g, 5, none⟩ = some (.bool h.sv) ∧ w.cell? ⟨g, 6, none⟩ = some (.int .u64 h.sh) ∧ w.cell? ⟨g, 7, none⟩ = some (.int .u64 h.sl) ∧ w.cell? ⟨g, 8, none⟩ = some (.bool h.dv) ∧ w.cell? ⟨g, 9, none⟩ = some (.int .u64 h.dh) ∧ w.cell? ⟨g, 10, none⟩ = some (.int .u64 h.dl) ∧ w.cell? ⟨g, 11, none⟩ = some (.string h.op) :=
  ⟨HasB.cell H 0 _ rfl, HasB.cell H 1 _ rfl, HasB.cell H 3 _ rfl, HasB.cell H 4 _ rfl, HasB.cell H 5 _ rfl, HasB.cell H 6 _ rfl, HasB.cell H 7 _ rfl, HasB.cell H 8 _ rfl, HasB.cell H 9 _ rfl, HasB.cell H 10 _ rfl, HasB.cell H 11 _ rfl⟩
/-- A block that stays, and all below a mark. -/
def Held (B g : Nat) (t : TypeId) (cs : Array Value) (w0 w : World) : Prop := HasB w g t cs ∧ Below B w0 w ∧ B ≤ w.heap.size
theorem Held.next {B g : Nat} {t : TypeId} {cs : Array Value} {w0 w w' : World} (h : Held B g t cs w0 w) (hb : Below w.heap.size w w') : Held B g t cs w0 w' :=
  ⟨HasB.below h.1 hb h.1.lt, h.2.1.trans (hb.mono h.2.2), Nat.le_trans h.2.2 hb.size⟩
theorem Held.drew {B g : Nat} {t : TypeId} {cs : Array Value} {w0 w : World} (h : Held B g t cs w0 w) : Held B g t cs w0 w.drew := ⟨h.1, h.2.1.drew, h.2.2⟩
set_option maxHeartbeats 2000000 in
theorem encode4_any (h : Hd) (n : Int) (hv : validH h = true) (s0 : 0 ≤ h.sl) (d0 : 0 ≤ h.dl) (w : World) :
    Calls Try.prog 16 #[.agg #[.int .i64 h.cl, .int .i64 h.id, .bool h.wh, .int .i64 h.tt, .int .i64 h.pr, .bool h.sv, .int .u64 h.sh, .int .u64 h.sl, .bool h.dv, .int .u64 h.dh, .int .u64 h.dl, .string h.op], .int .i64 n] w fun e w' => e = .returned (.string ⟨(headL h n).toArray⟩) ∧ Below w.heap.size w w' := by
  obtain ⟨v1, v2, v3, v4, v5, v6, v7, v8⟩ := valid_is hv
  have hX0 := HasB.new w 31 #[.int .i64 h.cl, .int .i64 h.id, .bool h.wh, .int .i64 h.tt, .int .i64 h.pr, .bool h.sv, .int .u64 h.sh, .int .u64 h.sl, .bool h.dv, .int .u64 h.dh, .int .u64 h.dl, .string h.op]
  have HX : Hid (Held w.heap.size w.heap.size 31 #[.int .i64 h.cl, .int .i64 h.id, .bool h.wh, .int .i64 h.tt, .int .i64 h.pr, .bool h.sv, .int .u64 h.sh, .int .u64 h.sl, .bool h.dv, .int .u64 h.dh, .int .u64 h.dl, .string h.op] w (w.alloc (.cells #[.int .i64 h.cl, .int .i64 h.id, .bool h.wh, .int .i64 h.tt, .int .i64 h.pr, .bool h.sv, .int .u64 h.sh, .int .u64 h.sl, .bool h.dv, .int .u64 h.dh, .int .u64 h.dl, .string h.op] 31)).drew) := Lib.hid ⟨hX0, ((Below.refl _ _).alloc (Nat.le_refl _) _).drew, by simp⟩
  clear hX0
  obtain ⟨p1, e1, l1⟩ : ∃ p, numL (64 + (20 + (h.op.size : Int)) / 4) 1 = p ∧ p.length = 1 := ⟨_, rfl, numL_len _ _ (by omega) (by omega)⟩
  obtain ⟨p2, e2, l2⟩ : ∃ p, numL h.cl 1 = p ∧ p.length = 1 := ⟨_, rfl, numL_len _ _ (by omega) (by omega)⟩
  obtain ⟨p3, e3, l3⟩ : ∃ p, numL n 2 = p ∧ p.length = 2 := ⟨_, rfl, numL_len _ _ (by omega) (by omega)⟩
  obtain ⟨p4, e4, l4⟩ : ∃ p, numL h.id 2 = p ∧ p.length = 2 := ⟨_, rfl, numL_len _ _ (by omega) (by omega)⟩
  obtain ⟨p6, e6, l6⟩ : ∃ p, numL h.tt 1 = p ∧ p.length = 1 := ⟨_, rfl, numL_len _ _ (by omega) (by omega)⟩
  obtain ⟨p7, e7, l7⟩ : ∃ p, numL h.pr 1 = p ∧ p.length = 1 := ⟨_, rfl, numL_len _ _ (by omega) (by omega)⟩
  obtain ⟨p8, e8, l8⟩ : ∃ p, numL 0 2 = p ∧ p.length = 2 := ⟨_, rfl, numL_len _ _ (by omega) (by omega)⟩
  obtain ⟨p9, e9, l9⟩ : ∃ p, addrB h.sv h.sh h.sl = p ∧ p.length = 4 := ⟨_, rfl, addr4_len v5⟩
  obtain ⟨p10, e10, l10⟩ : ∃ p, addrB h.dv h.dh h.dl = p ∧ p.length = 4 := ⟨_, rfl, addr4_len v6⟩
  have c8 := number4_is e8
  have HP := Lib.hid (fun p5 e5 => headL_parts h n (p5 := p5) e1 e2 e3 e4 e5 e6 e7 e8 e9 e10)
  have HC := Lib.hid (cat11 p1 p2 p3 p4)
  have C1 := Lib.hid (number4_is e1)
  have C2 := Lib.hid (number4_is e2)
  have C3 := Lib.hid (number4_is e3)
  have C4 := Lib.hid (number4_is e4)
  have C6 := Lib.hid (number4_is e6)
  have C7 := Lib.hid (number4_is e7)
  have C8 := Lib.hid (number4_is e8)
  have C9 := Lib.hid (put_is e9 v5 s0)
  have C10 := Lib.hid (put_is e10 v6 d0)
  have f20 : (9223372036854775807 < 20 + h.op.size) = False := eq_false (by omega)
  have hor := or64 ((20 + (h.op.size : Int)) / 4) (by omega) (by omega)
  clear e1 e2 e3 e4 e6 e7 e9 e10 c8 v1 v2 v3 v4 v5 v6 hv s0 d0
  cases hw : h.wh with
  | true =>
    obtain ⟨p5, e5, l5⟩ : ∃ p, numL 16384 2 = p ∧ p.length = 2 := ⟨_, rfl, numL_len _ _ (by omega) (by omega)⟩
    replace HP := Lib.hid (HP.out p5 (by rw [hw]; exact e5))
    have C5 := Lib.hid (number4_is e5)
    clear e5 e8
    go_enter Try.func16, Try.ntmps16
    go_wp2
    rw [hw] at HX
    go_region_held3 (fun w' => w'.cell? ⟨w.heap.size, 0, none⟩ = some (.int .i64 h.cl) ∧ w'.cell? ⟨w.heap.size, 1, none⟩ = some (.int .i64 h.id) ∧ w'.cell? ⟨w.heap.size, 3, none⟩ = some (.int .i64 h.tt) ∧ w'.cell? ⟨w.heap.size, 4, none⟩ = some (.int .i64 h.pr) ∧ w'.cell? ⟨w.heap.size, 5, none⟩ = some (.bool h.sv) ∧ w'.cell? ⟨w.heap.size, 6, none⟩ = some (.int .u64 h.sh) ∧ w'.cell? ⟨w.heap.size, 7, none⟩ = some (.int .u64 h.sl) ∧ w'.cell? ⟨w.heap.size, 8, none⟩ = some (.bool h.dv) ∧ w'.cell? ⟨w.heap.size, 9, none⟩ = some (.int .u64 h.dh) ∧ w'.cell? ⟨w.heap.size, 10, none⟩ = some (.int .u64 h.dl) ∧ w'.cell? ⟨w.heap.size, 11, none⟩ = some (.string h.op)) (exact cells8 HX.out.1) (first | (go_at_call 31; with_reducible refine (C1.out _).mono ?_; rintro e wa ⟨rfl, hb⟩; replace HX := Lib.hid (HX.out.next hb); clear hb) | (go_at_call 31; with_reducible refine (C2.out _).mono ?_; rintro e wa ⟨rfl, hb⟩; replace HX := Lib.hid (HX.out.next hb); clear hb) | (go_at_call 31; with_reducible refine (C3.out _).mono ?_; rintro e wa ⟨rfl, hb⟩; replace HX := Lib.hid (HX.out.next hb); clear hb) | (go_at_call 31; with_reducible refine (C4.out _).mono ?_; rintro e wa ⟨rfl, hb⟩; replace HX := Lib.hid (HX.out.next hb); clear hb) | (go_at_call 31; with_reducible refine (C5.out _).mono ?_; rintro e wa ⟨rfl, hb⟩; replace HX := Lib.hid (HX.out.next hb); clear hb) | (go_at_call 31; with_reducible refine (C6.out _).mono ?_; rintro e wa ⟨rfl, hb⟩; replace HX := Lib.hid (HX.out.next hb); clear hb) | (go_at_call 31; with_reducible refine (C7.out _).mono ?_; rintro e wa ⟨rfl, hb⟩; replace HX := Lib.hid (HX.out.next hb); clear hb) | (go_at_call 31; with_reducible refine (C8.out _).mono ?_; rintro e wa ⟨rfl, hb⟩; replace HX := Lib.hid (HX.out.next hb); clear hb) | (go_at_call 30; with_reducible refine (C9.out _).mono ?_; rintro e wa ⟨rfl, hb⟩; replace HX := Lib.hid (HX.out.next hb); clear hb) | (go_at_call 30; with_reducible refine (C10.out _).mono ?_; rintro e wa ⟨rfl, hb⟩; replace HX := Lib.hid (HX.out.next hb); clear hb))
    all_goals
      have HD := Lib.hid HX.out.2.1
      clear HX
      go_wp2
      go_ret
      exact ⟨by rw [HP.out, ← HC.out]; rfl, HD.out⟩
  | false =>
    replace HP := Lib.hid (HP.out p8 (by rw [hw]; exact e8))
    have C5 := C8
    clear e8
    go_enter Try.func16, Try.ntmps16
    go_wp2
    rw [hw] at HX
    go_region_held3 (fun w' => w'.cell? ⟨w.heap.size, 0, none⟩ = some (.int .i64 h.cl) ∧ w'.cell? ⟨w.heap.size, 1, none⟩ = some (.int .i64 h.id) ∧ w'.cell? ⟨w.heap.size, 3, none⟩ = some (.int .i64 h.tt) ∧ w'.cell? ⟨w.heap.size, 4, none⟩ = some (.int .i64 h.pr) ∧ w'.cell? ⟨w.heap.size, 5, none⟩ = some (.bool h.sv) ∧ w'.cell? ⟨w.heap.size, 6, none⟩ = some (.int .u64 h.sh) ∧ w'.cell? ⟨w.heap.size, 7, none⟩ = some (.int .u64 h.sl) ∧ w'.cell? ⟨w.heap.size, 8, none⟩ = some (.bool h.dv) ∧ w'.cell? ⟨w.heap.size, 9, none⟩ = some (.int .u64 h.dh) ∧ w'.cell? ⟨w.heap.size, 10, none⟩ = some (.int .u64 h.dl) ∧ w'.cell? ⟨w.heap.size, 11, none⟩ = some (.string h.op)) (exact cells8 HX.out.1) (first | (go_at_call 31; with_reducible refine (C1.out _).mono ?_; rintro e wa ⟨rfl, hb⟩; replace HX := Lib.hid (HX.out.next hb); clear hb) | (go_at_call 31; with_reducible refine (C2.out _).mono ?_; rintro e wa ⟨rfl, hb⟩; replace HX := Lib.hid (HX.out.next hb); clear hb) | (go_at_call 31; with_reducible refine (C3.out _).mono ?_; rintro e wa ⟨rfl, hb⟩; replace HX := Lib.hid (HX.out.next hb); clear hb) | (go_at_call 31; with_reducible refine (C4.out _).mono ?_; rintro e wa ⟨rfl, hb⟩; replace HX := Lib.hid (HX.out.next hb); clear hb) | (go_at_call 31; with_reducible refine (C5.out _).mono ?_; rintro e wa ⟨rfl, hb⟩; replace HX := Lib.hid (HX.out.next hb); clear hb) | (go_at_call 31; with_reducible refine (C6.out _).mono ?_; rintro e wa ⟨rfl, hb⟩; replace HX := Lib.hid (HX.out.next hb); clear hb) | (go_at_call 31; with_reducible refine (C7.out _).mono ?_; rintro e wa ⟨rfl, hb⟩; replace HX := Lib.hid (HX.out.next hb); clear hb) | (go_at_call 31; with_reducible refine (C8.out _).mono ?_; rintro e wa ⟨rfl, hb⟩; replace HX := Lib.hid (HX.out.next hb); clear hb) | (go_at_call 30; with_reducible refine (C9.out _).mono ?_; rintro e wa ⟨rfl, hb⟩; replace HX := Lib.hid (HX.out.next hb); clear hb) | (go_at_call 30; with_reducible refine (C10.out _).mono ?_; rintro e wa ⟨rfl, hb⟩; replace HX := Lib.hid (HX.out.next hb); clear hb))
    all_goals
      have HD := Lib.hid HX.out.2.1
      clear HX
      go_wp2
      go_ret
      exact ⟨by rw [HP.out, ← HC.out]; rfl, HD.out⟩
end Go.Proofs.Ytdcmjmgpcpeacaa
