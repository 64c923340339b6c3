/- The laws of tcp: what is asked of package tcp; Small, of, back, awake. -/
import Derived.Test.YtbnhneompibilaaRef07Get
import Derived.Test.YtbnhneompibilaaShapes
import Derived.OpenShut
namespace Go.Proofs.Ytbnhneompibilaa
open Go.RowKit Go.WideShapes
set_option linter.unusedVariables false
attribute [local go_sem ↓] ldH7 stH7 ldR7 stR7
attribute [local go_sem] rowAt_p rowOkAt_p setAt_p aggOf_a rowOk_new rowOf_new setRow_new agg7 aggT7
attribute [local go_sem ↓] Go.wp_at_zero Go.wp_at_succ

/-- The slice v holds the options l, their places left out. -/
def Opts2At (w : World) (v : Value) (l : List Opx) : Prop :=
  (v = .slice none 0 0 ∧ l = []) ∨ ∃ g cap, v = .slice (some ⟨g, 0, none⟩) l.length cap ∧ g < w.heap.size ∧ ∀ (j : Nat) (h : j < l.length), w.cell? ⟨g, j * 2, none⟩ = some (.int .i64 (l[j].kd : Nat)) ∧ w.cell? ⟨g, j * 2 + 1, none⟩ = some (.string l[j].da)
theorem Opts2At.below {w w' : World} {v : Value} {l : List Opx} (h : Opts2At w v l) (hb : Below w.heap.size w w') : Opts2At w' v l := by
  rcases h with h | ⟨g, cap, e, hg, hc⟩
  · exact .inl h
  · exact .inr ⟨g, cap, e, Nat.lt_of_lt_of_le hg hb.size, fun j hj => ⟨(hb.cell (p := ⟨g, j * 2, none⟩) hg).trans (hc j hj).1, (hb.cell (p := ⟨g, j * 2 + 1, none⟩) hg).trans (hc j hj).2⟩⟩
/-- What the laws ask of package tcp. -/
structure TcpOK : Prop where
  put : ∀ (h : T7) (v : Bool) (hi lo : Int) (v' : Bool) (hi' lo' : Int) (p : ByteArray), B7 h → BA hi lo hi' lo' → h.op.size ≤ 1000000 → p.size ≤ 1000000 → ∀ (P : List UInt8), pseudoL v hi lo v' hi' lo' 6 (20 + (h.op.size : Int) + (p.size : Int)) = P → ∀ w : World,
    Calls Try.prog 8 #[.agg #[.int .i64 h.sp, .int .i64 h.dp, .int .u32 h.sq, .int .u32 h.ak, .int .i64 h.fl, .int .i64 h.wn, .int .i64 h.ur, .string h.op], .agg #[.bool v, .int .u64 hi, .int .u64 lo], .agg #[.bool v', .int .u64 hi', .int .u64 lo'], .string p] w fun e w' => e = .returned (.tuple #[.string (out7 h P p), .int .i64 (err7 h P p)]) ∧ Below w.heap.size w w'
  get : ∀ (s : ByteArray) (v : Bool) (hi lo : Int) (v' : Bool) (hi' lo' : Int), BA hi lo hi' lo' → s.size ≤ 1000000 → ∀ (P : List UInt8), pseudoL v hi lo v' hi' lo' 6 (s.size : Int) = P → ∀ w : World,
    Calls Try.prog 11 #[.string s, .agg #[.bool v, .int .u64 hi, .int .u64 lo], .agg #[.bool v', .int .u64 hi', .int .u64 lo']] w fun e w' => e = .returned (.tuple #[.agg #[.int .i64 (headG7 s P).sp, .int .i64 (headG7 s P).dp, .int .u32 (headG7 s P).sq, .int .u32 (headG7 s P).ak, .int .i64 (headG7 s P).fl, .int .i64 (headG7 s P).wn, .int .i64 (headG7 s P).ur, .string (headG7 s P).op], .string (payG7 s P), .int .i64 (errG7 s P)]) ∧ Below w.heap.size w w'
  list : ∀ (s : ByteArray), s.size ≤ 1000000 → ∀ w : World,
    Calls Try.prog 14 #[.string s] w fun e w' => ∃ v, e = .returned (.tuple #[v, .int .i64 (optsE s)]) ∧ Opts2At w' v (optsV s) ∧ Below w.heap.size w w'
  stamp : ∀ (s : ByteArray), s.size ≤ 1000000 → ∀ w : World,
    Calls Try.prog 16 #[.string s] w fun e w' => e = .returned (.tuple #[.int .u32 (stampS s).1, .int .u32 (stampS s).2.1, .int .i64 (stampS s).2.2]) ∧ Below w.heap.size w w'
  stamped : ∀ (v e : Int), 0 ≤ v → v < 4294967296 → 0 ≤ e → e < 4294967296 → ∀ w : World,
    Calls Try.prog 18 #[.int .u32 v, .int .u32 e] w fun x w' => x = .returned (.string ⟨(stampB v e).toArray⟩) ∧ Below w.heap.size w w'
theorem of7_any (h : T7) (w : World) :
    Calls Try.prog 9 #[.agg #[.int .i64 h.sp, .int .i64 h.dp, .int .u32 h.sq, .int .u32 h.ak, .int .i64 h.fl, .int .i64 h.wn, .int .i64 h.ur, .string h.op]] w fun e w' => e = .returned (.agg #[.int .i64 h.sp, .int .i64 h.dp, .int .u32 h.sq, .int .u32 h.ak, .int .i64 h.fl, .int .i64 h.wn, .int .i64 h.ur, .string h.op]) ∧ Below w.heap.size w w' := by
  have HW := HasB.new (w.alloc (.cells #[.int .i64 h.sp, .int .i64 h.dp, .int .u32 h.sq, .int .u32 h.ak, .int .i64 h.fl, .int .i64 h.wn, .int .i64 h.ur, .string h.op] 24)) 34 #[.int .i64 h.sp, .int .i64 h.dp, .int .u32 h.sq, .int .u32 h.ak, .int .i64 h.fl, .int .i64 h.wn, .int .i64 h.ur, .string h.op]
  rw [World.size_alloc] at HW
  have HL : Below w.heap.size w ((w.alloc (.cells #[.int .i64 h.sp, .int .i64 h.dp, .int .u32 h.sq, .int .u32 h.ak, .int .i64 h.fl, .int .i64 h.wn, .int .i64 h.ur, .string h.op] 24)).alloc (.cells #[.int .i64 h.sp, .int .i64 h.dp, .int .u32 h.sq, .int .u32 h.ak, .int .i64 h.fl, .int .i64 h.wn, .int .i64 h.ur, .string h.op] 34)) := ((Below.refl _ _).alloc (Nat.le_refl _) _).alloc (by simp) _
  go_enter Try.func9, Try.ntmps9
  go_wp2_with fail
  try simp only [Exit.inBlock, Exit.then]
  refine bodyPost_ret (v := .agg #[.int .i64 h.sp, .int .i64 h.dp, .int .u32 h.sq, .int .u32 h.ak, .int .i64 h.fl, .int .i64 h.wn, .int .i64 h.ur, .string h.op]) (results_cell_row Try.results9 _ _ (w.heap.size + 1) _ _ _ _ rfl HW Try.underlying34 rfl infoH7) rfl ⟨rfl, HL⟩
theorem back7_any (h : T7) (w : World) :
    Calls Try.prog 13 #[.agg #[.int .i64 h.sp, .int .i64 h.dp, .int .u32 h.sq, .int .u32 h.ak, .int .i64 h.fl, .int .i64 h.wn, .int .i64 h.ur, .string h.op]] w fun e w' => e = .returned (.agg #[.int .i64 h.sp, .int .i64 h.dp, .int .u32 h.sq, .int .u32 h.ak, .int .i64 h.fl, .int .i64 h.wn, .int .i64 h.ur, .string h.op]) ∧ Below w.heap.size w w' := by
  have HW := HasB.new (w.alloc (.cells #[.int .i64 h.sp, .int .i64 h.dp, .int .u32 h.sq, .int .u32 h.ak, .int .i64 h.fl, .int .i64 h.wn, .int .i64 h.ur, .string h.op] 34)) 24 #[.int .i64 h.sp, .int .i64 h.dp, .int .u32 h.sq, .int .u32 h.ak, .int .i64 h.fl, .int .i64 h.wn, .int .i64 h.ur, .string h.op]
  rw [World.size_alloc] at HW
  have HL : Below w.heap.size w ((w.alloc (.cells #[.int .i64 h.sp, .int .i64 h.dp, .int .u32 h.sq, .int .u32 h.ak, .int .i64 h.fl, .int .i64 h.wn, .int .i64 h.ur, .string h.op] 34)).alloc (.cells #[.int .i64 h.sp, .int .i64 h.dp, .int .u32 h.sq, .int .u32 h.ak, .int .i64 h.fl, .int .i64 h.wn, .int .i64 h.ur, .string h.op] 24)) := ((Below.refl _ _).alloc (Nat.le_refl _) _).alloc (by simp) _
  go_enter Try.func13, Try.ntmps13
  go_wp2_with fail
  try simp only [Exit.inBlock, Exit.then]
  refine bodyPost_ret (v := .agg #[.int .i64 h.sp, .int .i64 h.dp, .int .u32 h.sq, .int .u32 h.ak, .int .i64 h.fl, .int .i64 h.wn, .int .i64 h.ur, .string h.op]) (results_cell_row Try.results13 _ _ (w.heap.size + 1) _ _ _ _ rfl HW Try.underlying24 rfl infoR7) rfl ⟨rfl, HL⟩
/-- Are three strings small? -/
def small3 (a b c : ByteArray) (m : Nat) : Bool := decide (a.size ≤ m ∧ b.size ≤ m ∧ c.size ≤ m)
theorem small3_no {a b c : ByteArray} {m : Nat} (h : m < a.size ∨ m < b.size ∨ m < c.size) : small3 a b c m = false := decide_eq_false (by omega)
theorem small_any (g cap : Nat) (a b c : ByteArray) (m : Nat) (hm : m ≤ 1000) (w : World) (c0 : w.cell? ⟨g, 0, none⟩ = some (.string a)) (c1 : w.cell? ⟨g, 1, none⟩ = some (.string b)) (c2 : w.cell? ⟨g, 2, none⟩ = some (.string c)) :
    Calls Try.prog 6 #[.slice (some ⟨g, 0, none⟩) 3 cap, .int .i64 m] w fun e w' => e = .returned (.bool (small3 a b c m)) ∧ w = w' := by
  go_enter Try.func6, Try.ntmps6
  go_wp2
  go_loopw [5] (fun i wr => ∃ k : Nat, k ≤ 3 ∧ i = .int .i64 k ∧ w = wr ∧ Hid ((0 < k → a.size ≤ m) ∧ (1 < k → b.size ≤ m) ∧ (2 < k → c.size ≤ m))) (fun i _ => 3 - (intOf i).toNat)
  case atStart => exact ⟨0, by omega, rfl, rfl, Lib.hid ⟨by omega, by omega, by omega⟩⟩
  case round =>
    obtain ⟨k, hk, rfl, rfl, HS⟩ := hrel
    by_cases hlt : k < 3
    · obtain rfl | rfl | rfl : k = 0 ∨ k = 1 ∨ k = 2 := by omega
      · by_cases hx : m < a.size
        · have HN := Lib.hid (small3_no (a := a) (b := b) (c := c) (m := m) (by omega))
          have hxi : (m : Int) < a.size := by omega
          clear hx
          go_wp2
          go_ret
          exact ⟨ret_bool HN.out.symm, rfl⟩
        · have hxi : ¬ (m : Int) < a.size := by omega
          have HN : Hid ((0 < 0 + 1 → a.size ≤ m) ∧ (1 < 0 + 1 → b.size ≤ m) ∧ (2 < 0 + 1 → c.size ≤ m)) := Lib.hid ⟨fun _ => by have := HS.out; omega, fun _ => by have := HS.out; omega, fun _ => by have := HS.out; omega⟩
          clear hx
          go_wp2
          go_roundw
          case rel => exact ⟨0 + 1, by omega, by go_num, trivial, HN⟩
          case measure => simp [intOf]; try omega
      · by_cases hx : m < b.size
        · have HN := Lib.hid (small3_no (a := a) (b := b) (c := c) (m := m) (by omega))
          have hxi : (m : Int) < b.size := by omega
          clear hx
          go_wp2
          go_ret
          exact ⟨ret_bool HN.out.symm, rfl⟩
        · have hxi : ¬ (m : Int) < b.size := by omega
          have HN : Hid ((0 < 1 + 1 → a.size ≤ m) ∧ (1 < 1 + 1 → b.size ≤ m) ∧ (2 < 1 + 1 → c.size ≤ m)) := Lib.hid ⟨fun _ => by have := HS.out; omega, fun _ => by have := HS.out; omega, fun _ => by have := HS.out; omega⟩
          clear hx
          go_wp2
          go_roundw
          case rel => exact ⟨1 + 1, by omega, by go_num, trivial, HN⟩
          case measure => simp [intOf]; try omega
      · by_cases hx : m < c.size
        · have HN := Lib.hid (small3_no (a := a) (b := b) (c := c) (m := m) (by omega))
          have hxi : (m : Int) < c.size := by omega
          clear hx
          go_wp2
          go_ret
          exact ⟨ret_bool HN.out.symm, rfl⟩
        · have hxi : ¬ (m : Int) < c.size := by omega
          have HN : Hid ((0 < 2 + 1 → a.size ≤ m) ∧ (1 < 2 + 1 → b.size ≤ m) ∧ (2 < 2 + 1 → c.size ≤ m)) := Lib.hid ⟨fun _ => by have := HS.out; omega, fun _ => by have := HS.out; omega, fun _ => by have := HS.out; omega⟩
          clear hx
          go_wp2
          go_roundw
          case rel => exact ⟨2 + 1, by omega, by go_num, trivial, HN⟩
          case measure => simp [intOf]; try omega
    · obtain rfl : k = 3 := by omega
      have HT : Hid (small3 a b c m = true) := Lib.hid (decide_eq_true ⟨HS.out.1 (by omega), HS.out.2.1 (by omega), HS.out.2.2 (by omega)⟩)
      go_wp2
      go_ret
      exact ⟨ret_bool HT.out.symm, rfl⟩
end Go.Proofs.Ytbnhneompibilaa
