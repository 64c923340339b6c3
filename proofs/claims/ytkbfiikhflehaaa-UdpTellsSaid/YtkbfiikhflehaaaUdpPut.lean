/- The contracts of package udp: Put. -/
import Derived.Test.YtkbfiikhflehaaaUdpWalks
import Derived.Test.YtkbfiikhflehaaaFourPseudo
namespace Go.Proofs.Ytkbfiikhflehaaa
open Go.RowKit
set_option linter.unusedVariables false
attribute [local go_sem ↓] Go.wp_at_zero Go.wp_at_succ

/-- The checksum's place filled. -/
theorem joinL_set {sp dp : Int} {p : ByteArray} (h1 : port sp = true) (h2 : port dp = true) (hl : 8 + p.size ≤ 65535) (c : Nat) (hc : c ≤ 65535) : joinL sp dp (c : Nat) p = setL ⟨(body8 sp dp p).toArray⟩ 6 2 (c : Nat) := by
  have e0 := numL_big 0 2 (by omega) (by omega) (by omega)
  have ec := numL_big c 2 (by omega) (by omega) (by omega)
  rw [show ((0 : Nat) : Int) = 0 from rfl] at e0
  rw [show ((2 : Nat) : Int) = 2 from rfl] at e0 ec
  have hA : (joinK sp dp (8 + (p.size : Int)) 0 3).length = 6 := by
    unfold joinK
    simp only [List.take_succ_cons, List.take_zero, List.flatMap_cons, List.flatMap_nil, List.length_append, numL_len _ 2 (by omega) (by omega)]; rfl
  have h := setL_mid (joinK sp dp (8 + (p.size : Int)) 0 3) p.data.toList 6 c hA (by omega)
  rw [show ((6 : Nat) : Int) = 6 from rfl] at h
  have hb : body8 sp dp p = joinK sp dp (8 + (p.size : Int)) 0 3 ++ bigB 2 0 ++ p.data.toList := by
    rw [← joinL_zero, ← e0]
    unfold joinL joinK
    simp
  rw [hb, h, ← ec]
  unfold joinL joinK
  simp
theorem joinL_len (sp dp c : Int) (p : ByteArray) : (joinL sp dp c p).length ≤ 8 + p.size := by
  unfold joinL
  rw [List.length_append, ← size_list]
  have := joinK_len sp dp (8 + (p.size : Int)) c 4
  omega
theorem cells8U {B g g' g2 : Nat} {t t' t2 : TypeId} {sp dp : Int} {v v' : Bool} {hi lo hi' lo' : Int} {w0 w : World} (H : Held3 B g t #[.int .i64 (sp), .int .i64 (dp)] g' t' #[.bool v, .int .u64 hi, .int .u64 lo] g2 t2 #[.bool v', .int .u64 hi', .int .u64 lo'] w0 w) : (w.cell? ⟨g, 0, none⟩ = some (.int .i64 sp) ∧ w.cell? ⟨g, 1, none⟩ = some (.int .i64 dp)) ∧ (w.cell? ⟨g', 0, none⟩ = some (.bool v) ∧ w.cell? ⟨g', 1, none⟩ = some (.int .u64 hi) ∧ w.cell? ⟨g', 2, none⟩ = some (.int .u64 lo)) ∧ (w.cell? ⟨g2, 0, none⟩ = some (.bool v') ∧ w.cell? ⟨g2, 1, none⟩ = some (.int .u64 hi') ∧ w.cell? ⟨g2, 2, none⟩ = some (.int .u64 lo')) :=
  ⟨⟨HasB.cell H.1 0 _ rfl, HasB.cell H.1 1 _ rfl⟩, ⟨HasB.cell H.2.1 0 _ rfl, HasB.cell H.2.1 1 _ rfl, HasB.cell H.2.1 2 _ rfl⟩, HasB.cell H.2.2.1 0 _ rfl, HasB.cell H.2.2.1 1 _ rfl, HasB.cell H.2.2.1 2 _ rfl⟩
set_option maxHeartbeats 2000000 in
theorem put8_no (sp dp : Int) (v : Bool) (hi lo : Int) (v' : Bool) (hi' lo' : Int) (p : ByteArray) (hA : BA hi lo hi' lo') (hp : p.size ≤ 1000000) (P : List UInt8) (hPe : pseudoL v hi lo v' hi' lo' 17 (8 + (p.size : Int)) = P) (hn : port sp = false ∨ (port sp = true ∧ port dp = false) ∨ (port sp = true ∧ port dp = true ∧ P = [])) (he : err8 sp dp P p = 1) (w : World) : Calls Try.prog 7 #[.agg #[.int .i64 (sp), .int .i64 (dp)], .agg #[.bool v, .int .u64 hi, .int .u64 lo], .agg #[.bool v', .int .u64 hi', .int .u64 lo'], .string p] w fun e w' => e = .returned (.tuple #[.string (out8 sp dp P p), .int .i64 (err8 sp dp P p)]) ∧ Below w.heap.size w w' := by
  have HO : Hid (out8 sp dp P p = ⟨#[]⟩) := Lib.hid (by unfold out8; rw [if_neg (by omega)])
  have HE := Lib.hid he
  have PS := Lib.hid (pseudo4_any v hi lo v' hi' lo' 17 (8 + (p.size : Int)) hA.a0 hA.a1 hA.b0 hA.b1 hA.c0 hA.c1 hA.d0 hA.d1)
  rw [hPe] at PS
  have x1 : IntKind.i64.wrap (8 + (p.size : Int)) = 8 + (p.size : Int) := IntWalk.i64_in _ (by omega)
  have I1 := isPort_any sp
  have I2 := isPort_any dp
  have HX : Hid (Held3 w.heap.size w.heap.size 33 #[.int .i64 (sp), .int .i64 (dp)] (w.heap.size + 1) 26 #[.bool v, .int .u64 hi, .int .u64 lo] (w.heap.size + 1 + 1) 26 #[.bool v', .int .u64 hi', .int .u64 lo'] w (((w.alloc (.cells #[.int .i64 (sp), .int .i64 (dp)] 33)).alloc (.cells #[.bool v, .int .u64 hi, .int .u64 lo] 26)).alloc (.cells #[.bool v', .int .u64 hi', .int .u64 lo'] 26))) := by
    refine Lib.hid ⟨((HasB.new w _ _).alloc _).alloc _, ?_, ?_, (((Below.refl _ _).alloc (Nat.le_refl _) _).alloc (by simp) _).alloc (by simp; omega) _, by simp; omega⟩
    · have := (HasB.new (w.alloc (.cells #[.int .i64 (sp), .int .i64 (dp)] 33)) 26 #[.bool v, .int .u64 hi, .int .u64 lo]).alloc (.cells #[.bool v', .int .u64 hi', .int .u64 lo'] 26)
      simpa using this
    · have := HasB.new ((w.alloc (.cells #[.int .i64 (sp), .int .i64 (dp)] 33)).alloc (.cells #[.bool v, .int .u64 hi, .int .u64 lo] 26)) 26 #[.bool v', .int .u64 hi', .int .u64 lo']
      simpa using this
  obtain ⟨⟨c0, c1⟩, ⟨d0, d1, d2⟩, e0, e1, e2⟩ := cells8U HX.out
  rcases hn with h1 | ⟨h1, h2⟩ | ⟨h1, h2, rfl⟩
  · rw [h1] at I1
    have I1 := Lib.hid I1
    clear he hPe hp h1
    go_enter Try.func7, Try.ntmps7
    go_wp2_with (first | (go_at_call 11; (with_reducible refine (PS.out _).mono ?_); rintro e wa ⟨rfl, hb⟩; clear c0 c1 d0 d1 d2 e0 e1 e2; replace HX := Lib.hid (HX.out.next hb); clear hb; obtain ⟨c0, c1⟩ := (cells8U HX.out).1) | (go_at_call 12; (with_reducible refine (I1.out _).mono ?_); rintro e wa ⟨rfl, rfl⟩) | fail)
    go_ret2
    exact ⟨ret_si HO.out.symm HE.out.symm, HX.out.2.2.2.1⟩
  · rw [h1] at I1
    rw [h2] at I2
    have I1 := Lib.hid I1
    have I2 := Lib.hid I2
    clear he hPe hp h1 h2
    go_enter Try.func7, Try.ntmps7
    go_wp2_with (first | (go_at_call 11; (with_reducible refine (PS.out _).mono ?_); rintro e wa ⟨rfl, hb⟩; clear c0 c1 d0 d1 d2 e0 e1 e2; replace HX := Lib.hid (HX.out.next hb); clear hb; obtain ⟨c0, c1⟩ := (cells8U HX.out).1) | (go_at_call 12; (with_reducible refine (I1.out _).mono ?_); rintro e wa ⟨rfl, rfl⟩) | (go_at_call 12; (with_reducible refine (I2.out _).mono ?_); rintro e wa ⟨rfl, rfl⟩) | fail)
    go_ret2
    exact ⟨ret_si HO.out.symm HE.out.symm, HX.out.2.2.2.1⟩
  · rw [h1] at I1
    rw [h2] at I2
    have I1 := Lib.hid I1
    have I2 := Lib.hid I2
    clear he hPe hp h1 h2
    go_enter Try.func7, Try.ntmps7
    go_wp2_with (first | (go_at_call 11; (with_reducible refine (PS.out _).mono ?_); rintro e wa ⟨rfl, hb⟩; clear c0 c1 d0 d1 d2 e0 e1 e2; replace HX := Lib.hid (HX.out.next hb); clear hb; obtain ⟨c0, c1⟩ := (cells8U HX.out).1) | (go_at_call 12; (with_reducible refine (I1.out _).mono ?_); rintro e wa ⟨rfl, rfl⟩) | (go_at_call 12; (with_reducible refine (I2.out _).mono ?_); rintro e wa ⟨rfl, rfl⟩) | fail)
    go_ret2
    exact ⟨ret_si HO.out.symm HE.out.symm, HX.out.2.2.2.1⟩
set_option maxHeartbeats 2000000 in
theorem put8_long (sp dp : Int) (v : Bool) (hi lo : Int) (v' : Bool) (hi' lo' : Int) (p : ByteArray) (hA : BA hi lo hi' lo') (hp : p.size ≤ 1000000) (P : List UInt8) (hPe : pseudoL v hi lo v' hi' lo' 17 (8 + (p.size : Int)) = P) (h1 : port sp = true) (h2 : port dp = true) (hP : P ≠ []) (hl : 65535 < 8 + p.size) (he : err8 sp dp P p = 5) (w : World) : Calls Try.prog 7 #[.agg #[.int .i64 (sp), .int .i64 (dp)], .agg #[.bool v, .int .u64 hi, .int .u64 lo], .agg #[.bool v', .int .u64 hi', .int .u64 lo'], .string p] w fun e w' => e = .returned (.tuple #[.string (out8 sp dp P p), .int .i64 (err8 sp dp P p)]) ∧ Below w.heap.size w w' := by
  have HO : Hid (out8 sp dp P p = ⟨#[]⟩) := Lib.hid (by unfold out8; rw [if_neg (by omega)])
  have HE := Lib.hid he
  have PS := Lib.hid (pseudo4_any v hi lo v' hi' lo' 17 (8 + (p.size : Int)) hA.a0 hA.a1 hA.b0 hA.b1 hA.c0 hA.c1 hA.d0 hA.d1)
  rw [hPe] at PS
  have x1 : IntKind.i64.wrap (8 + (p.size : Int)) = 8 + (p.size : Int) := IntWalk.i64_in _ (by omega)
  have I1 := isPort_any sp
  have I2 := isPort_any dp
  have HX : Hid (Held3 w.heap.size w.heap.size 33 #[.int .i64 (sp), .int .i64 (dp)] (w.heap.size + 1) 26 #[.bool v, .int .u64 hi, .int .u64 lo] (w.heap.size + 1 + 1) 26 #[.bool v', .int .u64 hi', .int .u64 lo'] w (((w.alloc (.cells #[.int .i64 (sp), .int .i64 (dp)] 33)).alloc (.cells #[.bool v, .int .u64 hi, .int .u64 lo] 26)).alloc (.cells #[.bool v', .int .u64 hi', .int .u64 lo'] 26))) := by
    refine Lib.hid ⟨((HasB.new w _ _).alloc _).alloc _, ?_, ?_, (((Below.refl _ _).alloc (Nat.le_refl _) _).alloc (by simp) _).alloc (by simp; omega) _, by simp; omega⟩
    · have := (HasB.new (w.alloc (.cells #[.int .i64 (sp), .int .i64 (dp)] 33)) 26 #[.bool v, .int .u64 hi, .int .u64 lo]).alloc (.cells #[.bool v', .int .u64 hi', .int .u64 lo'] 26)
      simpa using this
    · have := HasB.new ((w.alloc (.cells #[.int .i64 (sp), .int .i64 (dp)] 33)).alloc (.cells #[.bool v, .int .u64 hi, .int .u64 lo] 26)) 26 #[.bool v', .int .u64 hi', .int .u64 lo']
      simpa using this
  obtain ⟨⟨c0, c1⟩, ⟨d0, d1, d2⟩, e0, e1, e2⟩ := cells8U HX.out
  rw [h1] at I1
  rw [h2] at I2
  have I1 := Lib.hid I1
  have I2 := Lib.hid I2
  have hq := nil_eq hP
  have hli : (65535 : Int) < 8 + (p.size : Int) := by omega
  clear he hPe hp h1 h2 hP hl
  go_enter Try.func7, Try.ntmps7
  go_wp2_with (first | (go_at_call 11; (with_reducible refine (PS.out _).mono ?_); rintro e wa ⟨rfl, hb⟩; clear c0 c1 d0 d1 d2 e0 e1 e2; replace HX := Lib.hid (HX.out.next hb); clear hb; obtain ⟨c0, c1⟩ := (cells8U HX.out).1) | (go_at_call 12; (with_reducible refine (I1.out _).mono ?_); rintro e wa ⟨rfl, rfl⟩) | (go_at_call 12; (with_reducible refine (I2.out _).mono ?_); rintro e wa ⟨rfl, rfl⟩) | fail)
  go_ret2
  exact ⟨ret_si HO.out.symm HE.out.symm, HX.out.2.2.2.1⟩
set_option maxHeartbeats 4000000 in
theorem put8_ok (sp dp : Int) (v : Bool) (hi lo : Int) (v' : Bool) (hi' lo' : Int) (p : ByteArray) (hA : BA hi lo hi' lo') (hp : p.size ≤ 1000000) (P : List UInt8) (hPe : pseudoL v hi lo v' hi' lo' 17 (8 + (p.size : Int)) = P) (h1 : port sp = true) (h2 : port dp = true) (hP : P ≠ []) (hl : 8 + p.size ≤ 65535) (he : err8 sp dp P p = 0) (w : World) : Calls Try.prog 7 #[.agg #[.int .i64 (sp), .int .i64 (dp)], .agg #[.bool v, .int .u64 hi, .int .u64 lo], .agg #[.bool v', .int .u64 hi', .int .u64 lo'], .string p] w fun e w' => e = .returned (.tuple #[.string (out8 sp dp P p), .int .i64 (err8 sp dp P p)]) ∧ Below w.heap.size w w' := by
  have hPl : P.length ≤ 40 := by rw [← hPe]; exact (pseudoL_len _ _ _ _ _ _ _ _).1
  have hJl := joinL_len sp dp 0 p
  have hck := ckB_bd (P ++ joinL sp dp 0 p)
  have HO : Hid (out8 sp dp P p = ⟨(joinL sp dp (ckB (P ++ joinL sp dp 0 p) : Nat) p).toArray⟩) := Lib.hid (by
    rw [joinL_set h1 h2 hl _ hck.2, joinL_zero]
    exact if_pos he)
  have HE := Lib.hid he
  have PS := Lib.hid (pseudo4_any v hi lo v' hi' lo' 17 (8 + (p.size : Int)) hA.a0 hA.a1 hA.b0 hA.b1 hA.c0 hA.c1 hA.d0 hA.d1)
  rw [hPe] at PS
  have x1 : IntKind.i64.wrap (8 + (p.size : Int)) = 8 + (p.size : Int) := IntWalk.i64_in _ (by omega)
  have I1 := isPort_any sp
  have I2 := isPort_any dp
  have HX : Hid (Held3 w.heap.size w.heap.size 33 #[.int .i64 (sp), .int .i64 (dp)] (w.heap.size + 1) 26 #[.bool v, .int .u64 hi, .int .u64 lo] (w.heap.size + 1 + 1) 26 #[.bool v', .int .u64 hi', .int .u64 lo'] w (((w.alloc (.cells #[.int .i64 (sp), .int .i64 (dp)] 33)).alloc (.cells #[.bool v, .int .u64 hi, .int .u64 lo] 26)).alloc (.cells #[.bool v', .int .u64 hi', .int .u64 lo'] 26))) := by
    refine Lib.hid ⟨((HasB.new w _ _).alloc _).alloc _, ?_, ?_, (((Below.refl _ _).alloc (Nat.le_refl _) _).alloc (by simp) _).alloc (by simp; omega) _, by simp; omega⟩
    · have := (HasB.new (w.alloc (.cells #[.int .i64 (sp), .int .i64 (dp)] 33)) 26 #[.bool v, .int .u64 hi, .int .u64 lo]).alloc (.cells #[.bool v', .int .u64 hi', .int .u64 lo'] 26)
      simpa using this
    · have := HasB.new ((w.alloc (.cells #[.int .i64 (sp), .int .i64 (dp)] 33)).alloc (.cells #[.bool v, .int .u64 hi, .int .u64 lo] 26)) 26 #[.bool v', .int .u64 hi', .int .u64 lo']
      simpa using this
  obtain ⟨⟨c0, c1⟩, ⟨d0, d1, d2⟩, e0, e1, e2⟩ := cells8U HX.out
  rw [h1] at I1
  rw [h2] at I2
  have I1 := Lib.hid I1
  have I2 := Lib.hid I2
  have J0 := Lib.hid (joined_any sp dp 0 p hp)
  have J1 := Lib.hid (joined_any sp dp (ckB (P ++ joinL sp dp 0 p) : Nat) p hp)
  have hq := nil_eq hP
  have hli : ¬ (65535 : Int) < 8 + (p.size : Int) := by omega
  have HC := checksum_any (⟨P.toArray⟩ ++ ⟨(joinL sp dp 0 p).toArray⟩) (by rw [ByteArray.size_append]; show P.length + (joinL sp dp 0 p).length ≤ _; omega)
  rw [app_str, show (⟨P.toArray⟩ : ByteArray).data.toList = P by simp, show (⟨(joinL sp dp 0 p).toArray⟩ : ByteArray).data.toList = joinL sp dp 0 p by simp] at HC
  generalize ckB (P ++ joinL sp dp 0 p) = c at *
  generalize joinL sp dp 0 p = L at *
  have HC := Lib.hid HC
  have f1 : (9223372036854775807 < P.length + L.length) = False := eq_false (by omega)
  clear he hPe hp h1 h2 hP hl hck hJl
  go_enter Try.func7, Try.ntmps7
  go_wp2_with (first | (go_at_call 11; (with_reducible refine (PS.out _).mono ?_); rintro e wa ⟨rfl, hb⟩; clear c0 c1 d0 d1 d2 e0 e1 e2; replace HX := Lib.hid (HX.out.next hb); clear hb; obtain ⟨c0, c1⟩ := (cells8U HX.out).1) | (go_at_call 12; (with_reducible refine (I1.out _).mono ?_); rintro e wa ⟨rfl, rfl⟩) | (go_at_call 12; (with_reducible refine (I2.out _).mono ?_); rintro e wa ⟨rfl, rfl⟩) | (go_at_call 13; (with_reducible refine (J0.out _).mono ?_); rintro e wa ⟨rfl, hb⟩; clear c0 c1; replace HX := Lib.hid (HX.out.next hb); clear hb) | fail)
  replace HX := Lib.hid HX.out.drew
  go_region_held3 (fun w' => (w'.cell? ⟨w.heap.size, 0, none⟩ = some (.int .i64 sp) ∧ w'.cell? ⟨w.heap.size, 1, none⟩ = some (.int .i64 dp))) (exact (cells8U HX.out).1) (first | (go_at_call 14; (with_reducible refine (HC.out _).mono ?_); rintro e wa ⟨rfl, hb⟩; replace HX := Lib.hid (HX.out.next hb); clear hb) | (go_at_call 13; (with_reducible refine (J1.out _).mono ?_); rintro e wa ⟨rfl, hb⟩; replace HX := Lib.hid (HX.out.next hb); clear hb))
  all_goals
    go_wp2
    go_ret2
    exact ⟨ret_si HO.out.symm HE.out.symm, HX.out.2.2.2.1⟩
theorem put8_any (sp dp : Int) (v : Bool) (hi lo : Int) (v' : Bool) (hi' lo' : Int) (p : ByteArray) (hA : BA hi lo hi' lo') (hp : p.size ≤ 1000000) (P : List UInt8) (hPe : pseudoL v hi lo v' hi' lo' 17 (8 + (p.size : Int)) = P) (w : World) : Calls Try.prog 7 #[.agg #[.int .i64 (sp), .int .i64 (dp)], .agg #[.bool v, .int .u64 hi, .int .u64 lo], .agg #[.bool v', .int .u64 hi', .int .u64 lo'], .string p] w fun e w' => e = .returned (.tuple #[.string (out8 sp dp P p), .int .i64 (err8 sp dp P p)]) ∧ Below w.heap.size w w' := by
  rcases err8_cases sp dp P p with ⟨hn, he⟩ | ⟨h1, h2, hP, hl, he⟩ | ⟨h1, h2, hP, hl, he⟩
  · exact put8_no sp dp v hi lo v' hi' lo' p hA hp P hPe hn he w
  · exact put8_long sp dp v hi lo v' hi' lo' p hA hp P hPe h1 h2 hP hl he w
  · exact put8_ok sp dp v hi lo v' hi' lo' p hA hp P hPe h1 h2 hP hl he w
end Go.Proofs.Ytkbfiikhflehaaa
