/- The law of addr against the reference: the walk. -/
import Derived.Test.YtohnojdofilpnaaDoorRef04Read
import Derived.Test.YtohnojdofilpnaaDoorShapes
import Derived.OpenShut
namespace Go.Proofs.YtohnojdofilpnaaDoor
open Go.RowKit Go.WideShapes
set_option linter.unusedVariables false
attribute [local go_sem ↓] Go.wp_at_zero Go.wp_at_succ

theorem awk1 (w : World) : Calls Tryd.prog 8 #[.string ⟨#[49, 46, 50, 46, 51, 46, 52]⟩] w fun e w' => e = .returned (.tuple #[.agg #[.bool false, .int .u64 0, .int .u64 16909060], .bool true]) ∧ Below w.heap.size w w' := by
  have h := read_any ⟨#[49, 46, 50, 46, 51, 46, 52]⟩ (by decide) w
  have e1 : gV (readB [49, 46, 50, 46, 51, 46, 52]) = false := by decide +kernel
  have e2 : gHi (readB [49, 46, 50, 46, 51, 46, 52]) = 0 := by decide +kernel
  have e3 : gLo (readB [49, 46, 50, 46, 51, 46, 52]) = 16909060 := by decide +kernel
  have e4 : gOk (readB [49, 46, 50, 46, 51, 46, 52]) = true := by decide +kernel
  rw [show (⟨#[49, 46, 50, 46, 51, 46, 52]⟩ : ByteArray).data.toList = [49, 46, 50, 46, 51, 46, 52] from rfl, e1, e2, e3, e4] at h
  exact h
theorem awk2 (w : World) : Calls Tryd.prog 8 #[.string ⟨#[49, 46, 50, 46, 51, 46, 48, 52]⟩] w fun e w' => e = .returned (.tuple #[.agg #[.bool false, .int .u64 0, .int .u64 0], .bool false]) ∧ Below w.heap.size w w' := by
  have h := read_any ⟨#[49, 46, 50, 46, 51, 46, 48, 52]⟩ (by decide) w
  have e1 : readB [49, 46, 50, 46, 51, 46, 48, 52] = [] := by decide +kernel
  rw [show (⟨#[49, 46, 50, 46, 51, 46, 48, 52]⟩ : ByteArray).data.toList = [49, 46, 50, 46, 51, 46, 48, 52] from rfl, e1] at h
  exact h
theorem awk3 (w : World) : Calls Tryd.prog 8 #[.string ⟨#[48, 58, 48, 58, 48, 58, 48, 58, 48, 58, 48, 58, 48, 58, 49]⟩] w fun e w' => e = .returned (.tuple #[.agg #[.bool false, .int .u64 0, .int .u64 0], .bool false]) ∧ Below w.heap.size w w' := by
  have h := read_any ⟨#[48, 58, 48, 58, 48, 58, 48, 58, 48, 58, 48, 58, 48, 58, 49]⟩ (by decide) w
  have e1 : readB [48, 58, 48, 58, 48, 58, 48, 58, 48, 58, 48, 58, 48, 58, 49] = [] := by decide +kernel
  rw [show (⟨#[48, 58, 48, 58, 48, 58, 48, 58, 48, 58, 48, 58, 48, 58, 49]⟩ : ByteArray).data.toList = [48, 58, 48, 58, 48, 58, 48, 58, 48, 58, 48, 58, 48, 58, 49] from rfl, e1] at h
  exact h
theorem awk4 (w : World) : Calls Tryd.prog 18 #[.int .u32 16909060] w fun e w' => e = .returned (.agg #[.bool false, .int .u64 0, .int .u64 16909060]) ∧ Below w.heap.size w w' := four_any 16909060 w
/-- Three cells of a block. -/
def A3 (g : Nat) (v : Bool) (hi lo : Int) (w : World) : Prop := w.cell? ⟨g, 0, none⟩ = some (.bool v) ∧ w.cell? ⟨g, 1, none⟩ = some (.int .u64 hi) ∧ w.cell? ⟨g, 2, none⟩ = some (.int .u64 lo)
theorem A3.of {w : World} {g : Nat} {t : TypeId} {v : Bool} {hi lo : Int} (h : HasB w g t #[.bool v, .int .u64 hi, .int .u64 lo]) : A3 g v hi lo w :=
  ⟨HasB.cell h 0 _ rfl, HasB.cell h 1 _ rfl, HasB.cell h 2 _ rfl⟩
theorem awake04 (w : World) : Calls Tryd.prog 5 #[] w fun e w' => e = .returned (.bool true) ∧ Below w.heap.size w w' := by
  have hq : Below w.heap.size w w := Below.refl _ _
  have hs : w.heap.size ≤ w.heap.size := Nat.le_refl _
  go_enter Tryd.func5, Tryd.ntmps5
  go_wp2_with (first | (go_at_call 8; with_reducible refine (awk1 _).mono ?_; rintro e w1 ⟨rfl, hb1⟩; replace hq := (hq.trans hb1).alloc hb1.size (.cells #[.bool false, .int .u64 0, .int .u64 16909060] 24); have hX := HasB.new w1 24 #[.bool false, .int .u64 0, .int .u64 16909060]; have z1 := hq.size) | (go_at_call 8; with_reducible refine (awk2 _).mono ?_; rintro e w2 ⟨rfl, hb2⟩; replace hq := (hq.trans (hb2.mono z1)).alloc (Nat.le_trans z1 hb2.size) (.cells #[.bool false, .int .u64 0, .int .u64 0] 24); replace hX := (HasB.below hX hb2 hX.lt).alloc (.cells #[.bool false, .int .u64 0, .int .u64 0] 24); have z2 := hq.size) | (go_at_call 8; with_reducible refine (awk3 _).mono ?_; rintro e w3 ⟨rfl, hb3⟩; replace hq := (hq.trans (hb3.mono z2)).alloc (Nat.le_trans z2 hb3.size) (.cells #[.bool false, .int .u64 0, .int .u64 0] 24); replace hX := (HasB.below hX hb3 hX.lt).alloc (.cells #[.bool false, .int .u64 0, .int .u64 0] 24); have z3 := hq.size) | fail)
  have HX := Lib.hid hX
  have HC := Lib.hid (A3.of hX)
  have c0 := HC.out.1
  have c1 := HC.out.2.1
  have c2 := HC.out.2.2
  go_region_held3 (fun w' => w'.cell? ⟨w1.heap.size, 0, none⟩ = some (.bool false) ∧ w'.cell? ⟨w1.heap.size, 1, none⟩ = some (.int .u64 0) ∧ w'.cell? ⟨w1.heap.size, 2, none⟩ = some (.int .u64 16909060)) (exact HC.out) (first | (go_at_call 18; with_reducible refine (awk4 _).mono ?_; rintro e w6 ⟨rfl, hb6⟩; replace HC := Lib.hid (A3.of (HasB.below HX.out.drew hb6 HX.out.drew.lt))))
  all_goals
    go_wp2
    go_ret
    exact ⟨rfl, hq.trans ((below_ofDrew hb6).mono z3)⟩
/-- Six blocks of three cells. -/
def six (T : TypeId) (W : World) (gs : Nat × Nat × Nat × Nat × Nat × Nat) (A B X Y Z U : Array Value) : Prop :=
  HasB W gs.1 T A ∧ HasB W gs.2.1 T B ∧ HasB W gs.2.2.1 T X ∧ HasB W gs.2.2.2.1 T Y ∧ HasB W gs.2.2.2.2.1 T Z ∧ HasB W gs.2.2.2.2.2 T U
theorem six_below {T : TypeId} {W W' : World} {a b x y z u : Nat} {A B X Y Z U : Array Value} (h : HasB W a T A ∧ HasB W b T B ∧ HasB W x T X ∧ HasB W y T Y ∧ HasB W z T Z ∧ HasB W u T U) (hb : Below W.heap.size W W') :
    HasB W' a T A ∧ HasB W' b T B ∧ HasB W' x T X ∧ HasB W' y T Y ∧ HasB W' z T Z ∧ HasB W' u T U :=
  ⟨HasB.below h.1 hb h.1.lt, HasB.below h.2.1 hb h.2.1.lt, HasB.below h.2.2.1 hb h.2.2.1.lt, HasB.below h.2.2.2.1 hb h.2.2.2.1.lt, HasB.below h.2.2.2.2.1 hb h.2.2.2.2.1.lt, HasB.below h.2.2.2.2.2 hb h.2.2.2.2.2.lt⟩
theorem six_drew {T : TypeId} {W : World} {a b x y z u : Nat} {A B X Y Z U : Array Value} (h : HasB W a T A ∧ HasB W b T B ∧ HasB W x T X ∧ HasB W y T Y ∧ HasB W z T Z ∧ HasB W u T U) :
    HasB W.drew a T A ∧ HasB W.drew b T B ∧ HasB W.drew x T X ∧ HasB W.drew y T Y ∧ HasB W.drew z T Z ∧ HasB W.drew u T U := h
theorem Tab.at {w W : World} (h : Tab w.heap.size w) (hb : Below w.heap.size w W) : Tab W.heap.size W := fun w' h' => h w' (hb.trans (h'.mono hb.size))
theorem bounds_u64' {n : Int} (h : (Lit.int .u64 n).wf = true) : 0 ≤ n ∧ n < 18446744073709551616 := by
  have := bounds_u64 h; omega
theorem fits_addr {w : World} {a : Array Value} (h : Fits w (.two .bool (.two (.int .u64) (.two (.int .u64) .nil))) (Value.agg a).cells.toList) : ∃ v hi lo, a = #[.bool v, .int .u64 hi, .int .u64 lo] ∧ (0 ≤ hi ∧ hi < 18446744073709551616) ∧ (0 ≤ lo ∧ lo < 18446744073709551616) := by
  obtain ⟨c1, c2, e, _, ⟨v, rfl⟩, c3, c4, rfl, _, ⟨hi, rfl, hh⟩, c5, c6, rfl, _, ⟨lo, rfl, hl⟩, rfl⟩ := h
  refine ⟨v, hi, lo, ?_, bounds_u64' hh, bounds_u64' hl⟩
  apply Array.toList_inj.1
  exact e
set_option maxHeartbeats 2000000 in
theorem addrTells_walk (a b : Array Value) (s : ByteArray) (w2 : s.size ≤ maxLen) (w : World) (fa : Fits w (.two .bool (.two (.int .u64) (.two (.int .u64) .nil))) (Value.agg a).cells.toList) (fb : Fits w (.two .bool (.two (.int .u64) (.two (.int .u64) .nil))) (Value.agg b).cells.toList) (htab : Lib.TabIs Tryd.prog w "internal/strconv.uint64pow10" .u64 Lib.pow10Tab) :
    Calls Tryd.prog 3 #[.agg a, .agg b, .string s] w fun e w' => e = .returned (.bool true) ∧ Below w.heap.size w w' := by
  obtain ⟨v, hi, lo, rfl, ⟨h0, h1⟩, l0, l1⟩ := fits_addr fa
  obtain ⟨v', hi', lo', rfl, ⟨h0', h1'⟩, l0', l1'⟩ := fits_addr fb
  have HT : Hid (Tab w.heap.size w) := Lib.hid (Lib.tabBelow_of_tabIs htab)
  clear fa fb htab
  have hq : Below w.heap.size w ((w.alloc (.cells #[.bool v, .int .u64 hi, .int .u64 lo] 24)).alloc (.cells #[.bool v', .int .u64 hi', .int .u64 lo'] 24)) := ((Below.refl _ _).alloc (Nat.le_refl _) _).alloc (by simp) _
  have hA := (HasB.new w 24 #[.bool v, .int .u64 hi, .int .u64 lo]).alloc (.cells #[.bool v', .int .u64 hi', .int .u64 lo'] 24)
  have hB := HasB.new (w.alloc (.cells #[.bool v, .int .u64 hi, .int .u64 lo] 24)) 24 #[.bool v', .int .u64 hi', .int .u64 lo']
  rw [show (w.alloc (.cells #[.bool v, .int .u64 hi, .int .u64 lo] 24)).heap.size = w.heap.size + 1 by simp] at hB
  by_cases hl : 60 < s.size
  · have hli : (60 : Int) < s.size := by omega
    go_enter Tryd.func3, Tryd.ntmps3
    go_wp2_with (first | (go_at_call 5; refine (awake04 _).mono ?_; rintro e w1 ⟨rfl, hb1⟩) | fail)
    go_ret
    exact ⟨rfl, hq.trans (hb1.mono hq.size)⟩
  · have hli : ¬ (60 : Int) < s.size := by omega
    have hsm : s.size ≤ maxLen := w2
    have hs1000 : s.size ≤ 1000 := by omega
    go_enter Tryd.func3, Tryd.ntmps3
    go_wp2_with (first | (go_at_call 6; with_reducible refine (get_addr s hsm _).mono ?_; rintro e w1 ⟨rfl, hb1⟩; replace hq := (hq.trans (hb1.mono hq.size)).alloc (Nat.le_trans hq.size hb1.size) (.cells #[.bool (gV s.data.toList), .int .u64 (gHi s.data.toList), .int .u64 (gLo s.data.toList)] 24); replace hA := (HasB.below hA hb1 hA.lt).alloc (.cells #[.bool (gV s.data.toList), .int .u64 (gHi s.data.toList), .int .u64 (gLo s.data.toList)] 24); replace hB := (HasB.below hB hb1 hB.lt).alloc (.cells #[.bool (gV s.data.toList), .int .u64 (gHi s.data.toList), .int .u64 (gLo s.data.toList)] 24); have hX := HasB.new w1 24 #[.bool (gV s.data.toList), .int .u64 (gHi s.data.toList), .int .u64 (gLo s.data.toList)]) | (go_at_call 7; with_reducible refine (R04.get_addr s hsm _).mono ?_; rintro e w2 ⟨rfl, hb2⟩; replace hq := (hq.trans (hb2.mono hq.size)).alloc (Nat.le_trans hq.size hb2.size) (.cells #[.bool (gV s.data.toList), .int .u64 (gHi s.data.toList), .int .u64 (gLo s.data.toList)] 24); replace hA := (HasB.below hA hb2 hA.lt).alloc (.cells #[.bool (gV s.data.toList), .int .u64 (gHi s.data.toList), .int .u64 (gLo s.data.toList)] 24); replace hB := (HasB.below hB hb2 hB.lt).alloc (.cells #[.bool (gV s.data.toList), .int .u64 (gHi s.data.toList), .int .u64 (gLo s.data.toList)] 24); replace hX := (HasB.below hX hb2 hX.lt).alloc (.cells #[.bool (gV s.data.toList), .int .u64 (gHi s.data.toList), .int .u64 (gLo s.data.toList)] 24); have hY := HasB.new w2 24 #[.bool (gV s.data.toList), .int .u64 (gHi s.data.toList), .int .u64 (gLo s.data.toList)]) | (go_at_call 8; with_reducible refine (read_any s hsm _).mono ?_; rintro e w3 ⟨rfl, hb3⟩; replace hq := (hq.trans (hb3.mono hq.size)).alloc (Nat.le_trans hq.size hb3.size) (.cells #[.bool (gV (readB s.data.toList)), .int .u64 (gHi (readB s.data.toList)), .int .u64 (gLo (readB s.data.toList))] 24); replace hA := (HasB.below hA hb3 hA.lt).alloc (.cells #[.bool (gV (readB s.data.toList)), .int .u64 (gHi (readB s.data.toList)), .int .u64 (gLo (readB s.data.toList))] 24); replace hB := (HasB.below hB hb3 hB.lt).alloc (.cells #[.bool (gV (readB s.data.toList)), .int .u64 (gHi (readB s.data.toList)), .int .u64 (gLo (readB s.data.toList))] 24); replace hX := (HasB.below hX hb3 hX.lt).alloc (.cells #[.bool (gV (readB s.data.toList)), .int .u64 (gHi (readB s.data.toList)), .int .u64 (gLo (readB s.data.toList))] 24); replace hY := (HasB.below hY hb3 hY.lt).alloc (.cells #[.bool (gV (readB s.data.toList)), .int .u64 (gHi (readB s.data.toList)), .int .u64 (gLo (readB s.data.toList))] 24); have hZ := HasB.new w3 24 #[.bool (gV (readB s.data.toList)), .int .u64 (gHi (readB s.data.toList)), .int .u64 (gLo (readB s.data.toList))]) | (go_at_call 9; with_reducible refine (R04.read_any s hs1000 _).mono ?_; rintro e w4 ⟨rfl, hb4⟩; replace hq := (hq.trans (hb4.mono hq.size)).alloc (Nat.le_trans hq.size hb4.size) (.cells #[.bool (gV (readB s.data.toList)), .int .u64 (gHi (readB s.data.toList)), .int .u64 (gLo (readB s.data.toList))] 24); replace hA := (HasB.below hA hb4 hA.lt).alloc (.cells #[.bool (gV (readB s.data.toList)), .int .u64 (gHi (readB s.data.toList)), .int .u64 (gLo (readB s.data.toList))] 24); replace hB := (HasB.below hB hb4 hB.lt).alloc (.cells #[.bool (gV (readB s.data.toList)), .int .u64 (gHi (readB s.data.toList)), .int .u64 (gLo (readB s.data.toList))] 24); replace hX := (HasB.below hX hb4 hX.lt).alloc (.cells #[.bool (gV (readB s.data.toList)), .int .u64 (gHi (readB s.data.toList)), .int .u64 (gLo (readB s.data.toList))] 24); replace hY := (HasB.below hY hb4 hY.lt).alloc (.cells #[.bool (gV (readB s.data.toList)), .int .u64 (gHi (readB s.data.toList)), .int .u64 (gLo (readB s.data.toList))] 24); replace hZ := (HasB.below hZ hb4 hZ.lt).alloc (.cells #[.bool (gV (readB s.data.toList)), .int .u64 (gHi (readB s.data.toList)), .int .u64 (gLo (readB s.data.toList))] 24); have hU := HasB.new w4 24 #[.bool (gV (readB s.data.toList)), .int .u64 (gHi (readB s.data.toList)), .int .u64 (gLo (readB s.data.toList))]) | fail)
    have HC := Lib.hid (And.intro hA (And.intro hB (And.intro hX (And.intro hY (And.intro hZ hU)))))
    have HQ := Lib.hid hq
    clear hA hB hX hY hZ hU hq hli
    go_region_held3 (fun w' => w'.cell? ⟨w.heap.size, 0, none⟩ = some (.bool v) ∧ w'.cell? ⟨w.heap.size, 1, none⟩ = some (.int .u64 hi) ∧ w'.cell? ⟨w.heap.size, 2, none⟩ = some (.int .u64 lo) ∧ w'.cell? ⟨(w.heap.size + 1), 0, none⟩ = some (.bool v') ∧ w'.cell? ⟨(w.heap.size + 1), 1, none⟩ = some (.int .u64 hi') ∧ w'.cell? ⟨(w.heap.size + 1), 2, none⟩ = some (.int .u64 lo') ∧ w'.cell? ⟨w1.heap.size, 0, none⟩ = some (.bool (gV s.data.toList)) ∧ w'.cell? ⟨w1.heap.size, 1, none⟩ = some (.int .u64 (gHi s.data.toList)) ∧ w'.cell? ⟨w1.heap.size, 2, none⟩ = some (.int .u64 (gLo s.data.toList)) ∧ w'.cell? ⟨w2.heap.size, 0, none⟩ = some (.bool (gV s.data.toList)) ∧ w'.cell? ⟨w2.heap.size, 1, none⟩ = some (.int .u64 (gHi s.data.toList)) ∧ w'.cell? ⟨w2.heap.size, 2, none⟩ = some (.int .u64 (gLo s.data.toList)) ∧ w'.cell? ⟨w3.heap.size, 0, none⟩ = some (.bool (gV (readB s.data.toList))) ∧ w'.cell? ⟨w3.heap.size, 1, none⟩ = some (.int .u64 (gHi (readB s.data.toList))) ∧ w'.cell? ⟨w3.heap.size, 2, none⟩ = some (.int .u64 (gLo (readB s.data.toList))) ∧ w'.cell? ⟨w4.heap.size, 0, none⟩ = some (.bool (gV (readB s.data.toList))) ∧ w'.cell? ⟨w4.heap.size, 1, none⟩ = some (.int .u64 (gHi (readB s.data.toList))) ∧ w'.cell? ⟨w4.heap.size, 2, none⟩ = some (.int .u64 (gLo (readB s.data.toList)))) (exact ⟨(A3.of HC.out.1).1, (A3.of HC.out.1).2.1, (A3.of HC.out.1).2.2, (A3.of HC.out.2.1).1, (A3.of HC.out.2.1).2.1, (A3.of HC.out.2.1).2.2, (A3.of HC.out.2.2.1).1, (A3.of HC.out.2.2.1).2.1, (A3.of HC.out.2.2.1).2.2, (A3.of HC.out.2.2.2.1).1, (A3.of HC.out.2.2.2.1).2.1, (A3.of HC.out.2.2.2.1).2.2, (A3.of HC.out.2.2.2.2.1).1, (A3.of HC.out.2.2.2.2.1).2.1, (A3.of HC.out.2.2.2.2.1).2.2, (A3.of HC.out.2.2.2.2.2).1, (A3.of HC.out.2.2.2.2.2).2.1, (A3.of HC.out.2.2.2.2.2).2.2⟩) (first | (go_at_call 10; with_reducible refine (right_any v hi lo _).mono ?_; rintro e w11 ⟨rfl, hb11⟩; replace HC := Lib.hid (six_below (six_drew HC.out) hb11); replace HQ := Lib.hid (HQ.out.drew.trans (hb11.mono HQ.out.drew.size))) | (go_at_call 11; with_reducible refine (R04.right_any v hi lo _).mono ?_; rintro e w12 ⟨rfl, hb12⟩; replace HC := Lib.hid (six_below HC.out hb12); replace HQ := Lib.hid (HQ.out.trans (hb12.mono HQ.out.size))) | (go_at_call 12; with_reducible refine (put_addr v hi lo h0 h1 l0 l1 _).mono ?_; rintro e w13 ⟨rfl, hb13⟩; replace HC := Lib.hid (six_below HC.out hb13); replace HQ := Lib.hid (HQ.out.trans (hb13.mono HQ.out.size))) | (go_at_call 13; with_reducible refine (R04.put_addr v hi lo h0 h1 l0 l1 _).mono ?_; rintro e w14 ⟨rfl, hb14⟩; replace HC := Lib.hid (six_below HC.out hb14); replace HQ := Lib.hid (HQ.out.trans (hb14.mono HQ.out.size))) | (go_at_call 14; with_reducible refine (text_any v hi lo h0 h1 l0 l1 _ (HT.out.at HQ.out)).mono ?_; rintro e w15 ⟨rfl, hb15⟩; replace HC := Lib.hid (six_below HC.out hb15); replace HQ := Lib.hid (HQ.out.trans (hb15.mono HQ.out.size))) | (go_at_call 15; with_reducible refine (R04.text_any v hi lo h0 h1 l0 l1 _).mono ?_; rintro e w16 ⟨rfl, hb16⟩; replace HC := Lib.hid (six_below HC.out hb16); replace HQ := Lib.hid (HQ.out.trans (hb16.mono HQ.out.size))) | (go_at_call 16; with_reducible refine (less_any v hi lo v' hi' lo' _).mono ?_; rintro e w17 ⟨rfl, hb17⟩; replace HC := Lib.hid (six_below HC.out hb17); replace HQ := Lib.hid (HQ.out.trans (hb17.mono HQ.out.size))) | (go_at_call 17; with_reducible refine (R04.less_any v hi lo v' hi' lo' _).mono ?_; rintro e w18 ⟨rfl, hb18⟩; replace HC := Lib.hid (six_below HC.out hb18); replace HQ := Lib.hid (HQ.out.trans (hb18.mono HQ.out.size))) | (go_at_call 5; with_reducible refine (awake04 _).mono ?_; rintro e w19 ⟨rfl, hb19⟩; replace HC := Lib.hid (six_below HC.out hb19); replace HQ := Lib.hid (HQ.out.trans (hb19.mono HQ.out.size))))
    all_goals
      go_wp2
      go_ret
      exact ⟨rfl, HQ.out⟩
end Go.Proofs.YtohnojdofilpnaaDoor
